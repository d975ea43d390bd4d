/- Texts of this claim, joined: OV, OW. -/
import Derived.Test.YtomppblgalepjaaGreatDoorJ19
import Derived.Test.YtomppblgalepjaaGreatDoorJ38
import Derived.Test.YtomppblgalepjaaGreatDoorJ45
/- The program's Of: lines without an operation (layer 16). -/
namespace Go.Proofs.YtomppblgalepjaaGreatDoor
open Go.RowKit Go.Lib
set_option linter.unusedVariables false
theorem Tryz.sizeRu : (Tryz.prog.info? 29).map (·.size) = some 5 := by kernel_rfl
def ofP (h : Int × Int × Int) (fn : Int → ByteArray → Option Int) : List Dc → Sn16 × Ru → Ru × Int × Int
 | [], s => (s.2, 0, 0)
 | d :: l, s => match stepP h fn s d.1 d.2.1 d.2.2.1 d.2.2.2.1 d.2.2.2.2.1 with
  | some s' => ofP h fn l s'
  | none => (zeroR, d.2.2.2.2.2.2, 10)
theorem ofP_at {h : Int × Int × Int} {fn : Int → ByteArray → Option Int} {l : List Dc} {i : Nat} {d : Dc} (hx : l[i]? = some d) (s : Sn16 × Ru) : ofP h fn (l.drop i) s = match stepP h fn s d.1 d.2.1 d.2.2.1 d.2.2.2.1 d.2.2.2.2.1 with
  | some s' => ofP h fn (l.drop (i + 1)) s'
  | none => (zeroR, d.2.2.2.2.2.2, 10) := by
 obtain ⟨hi, rfl⟩ := List.getElem?_eq_some_iff.1 hx
 rw [List.drop_eq_getElem_cons hi]
 rfl
def OKS (i : Nat) (s : Sn16 × Ru) : Prop := ((0 ≤ s.1.1.1 ∧ s.1.1.1 ≤ i) ∧ (0 ≤ s.1.1.2.1 ∧ s.1.1.2.1 ≤ i) ∧ (0 ≤ s.1.1.2.2.1 ∧ s.1.1.2.2.1 ≤ i) ∧ (0 ≤ s.1.1.2.2.2.1 ∧ s.1.1.2.2.2.1 ≤ i)) ∧ (s.2.1.length ≤ i ∧ s.2.2.1.length ≤ i ∧ s.2.2.2.1.length ≤ i ∧ s.2.2.2.2.1.length ≤ i)
theorem OKS.step {i : Nat} {s s' : Sn16 × Ru} {h : Int × Int × Int} {fn : Int → ByteArray → Option Int} {kd : Int} {st : Bool} {nm ot : ByteArray} {n : Int} (hs : OKS i s) (hq : stepP h fn s kd st nm ot n = some s') : OKS (i + 1) s' := by
 unfold stepP at hq
 unfold OKS at *
 split at hq
 ·split at hq
  ·cases hq; simp only [List.length_append, List.length_singleton]; omega
  ·cases hq
 ·split at hq
  ·split at hq
   ·cases hq; simp only [List.length_append, List.length_singleton]; omega
   ·cases hq
  ·split at hq
   ·split at hq
    ·cases hq; simp only [List.length_append, List.length_singleton]; omega
    ·cases hq
   ·split at hq
    ·split at hq
     ·cases hq; simp only [List.length_append, List.length_singleton]; omega
     ·cases hq
    ·cases hq
def OfQ (w : World) (R : Ru × Int × Int) (e : Ending) (w' : World) : Prop := ∃ v1 v2 v3 v4 v5, e = .returned (.tuple #[.agg #[v1, v2, v3, v4, v5], .int .i64 R.2.1, .int .i64 R.2.2]) ∧ RW w.heap.size w' v1 v2 v3 v4 v5 R.1 ∧ Below w.heap.size w w'
theorem RW.mono {N N' : Nat} {w : World} {v1 v2 v3 v4 v5 : Value} {r : Ru} (h : RW N w v1 v2 v3 v4 v5 r) (hN : N' ≤ N) : RW N' w v1 v2 v3 v4 v5 r := by
 obtain ⟨⟨h1, h2, h3, h4, h5⟩, ha⟩ := h
 exact ⟨⟨h1.mono hN, h2.mono hN, h3.mono hN, h4.mono hN, h5.mono hN⟩, ha⟩
theorem ty_rul : ¬ ((29 : TypeId) = 9 ∨ (29 : TypeId) = 43 ∨ (29 : TypeId) = 56 ∨ (29 : TypeId) = 60) := by decide
theorem RW.set5 {N g : Nat} {w : World} {v1 v2 v3 v4 v5 : Value} {r : Ru} {C : Array Value} (h : RW N w v1 v2 v3 v4 v5 r) (hx : BX w g C 29) (a b c d e : Value) : RW N (((((w.setCell ⟨g, 0, none⟩ a).setCell ⟨g, 1, none⟩ b).setCell ⟨g, 2, none⟩ c).setCell ⟨g, 3, none⟩ d).setCell ⟨g, 4, none⟩ e) v1 v2 v3 v4 v5 r :=
 ((((h.set hx ty_rul 0 a).set (hx.set 0 a) ty_rul 1 b).set ((hx.set 0 a).set 1 b) ty_rul 2 c).set (((hx.set 0 a).set 1 b).set 2 c) ty_rul 3 d).set ((((hx.set 0 a).set 1 b).set 2 c).set 3 d) ty_rul 4 e
theorem bel_set5 {N g : Nat} {w0 w : World} (h : Below N w0 w) (hg : N ≤ g) (a b c d e : Value) : Below N w0 (((((w.setCell ⟨g, 0, none⟩ a).setCell ⟨g, 1, none⟩ b).setCell ⟨g, 2, none⟩ c).setCell ⟨g, 3, none⟩ d).setCell ⟨g, 4, none⟩ e) :=
 ((((h.setCell (p := ⟨g, 0, none⟩) hg a).setCell (p := ⟨g, 1, none⟩) hg b).setCell (p := ⟨g, 2, none⟩) hg c).setCell (p := ⟨g, 3, none⟩) hg d).setCell (p := ⟨g, 4, none⟩) hg e
theorem RW.zero (N : Nat) (w : World) : RW N w (.slice none 0 0) (.slice none 0 0) (.slice none 0 0) (.slice none 0 0) (.slice none 0 0) zeroR := ⟨⟨OwnR.nil _ _, OwnR.nil _ _, OwnR.nil _ _, OwnR.nil _ _, OwnF.nil _ _⟩, Apt.nil _, Apt.nil _, Apt.nil _⟩
theorem hbd (l : List Dc) (hl : l.length ≤ 1000) : (nbF l).2.2.1 ≤ 1000000 := by
 have e : ∀ (l : List Dc) (s : Nb16) (i : Nat), NbR i s → NbR (i + l.length) (l.foldl nbS s) := fun l => by
  induction l with
  | nil => intro s i h; exact h
  | cons d t ih =>
   intro s i h
   rw [List.length_cons, List.foldl_cons, show i + (t.length + 1) = i + 1 + t.length by omega]
   exact ih _ _ (h.step d)
 have q := e l ((fun _ _ => none), 0, 0, 0) 0 (by unfold NbR; simp)
 unfold NbR at q
 unfold nbF
 omega
set_option maxHeartbeats 8000000 in
set_option maxRecDepth 8000 in
theorem OfN16 (a : Option Addr) (n c : Nat) (l : List Dc) (w : World) (hA : SF 7 RDc w a n l) (hn : n ≤ 100) (hs : ∀ d ∈ l, d.2.2.1.size ≤ maxLen ∧ d.2.2.2.1.size ≤ maxLen) (ho : ∀ d ∈ l, d.1 ≠ 10) :
  Calls Tryz.prog 7 #[.slice a n c] w (OfQ w (ofP (nbF l).2 (nbF l).1 l (((0, 0, 0, 0, 0), [], [], fun _ _ => 0), zeroR))) := by
 have HA := hide hA
 have HLN := hide hA.len
 have HNM := hide hs
 have HO := hide ho
 have b1 := bel1 w (.cells #[.slice none 0 0, .slice none 0 0, .slice none 0 0, .slice none 0 0, .slice none 0 0] 29)
 have HG : Hid (BX (w.alloc (.cells #[.slice none 0 0, .slice none 0 0, .slice none 0 0, .slice none 0 0, .slice none 0 0] 29)) w.heap.size #[.slice none 0 0, .slice none 0 0, .slice none 0 0, .slice none 0 0, .slice none 0 0] 29) := BX.new w _ rfl _ _
 have HA1 := hide (hA.below RDc.st b1)
 have HNB := hide (newBuilder16 a n c l (w.alloc (.cells #[.slice none 0 0, .slice none 0 0, .slice none 0 0, .slice none 0 0, .slice none 0 0] 29)) (hA.below RDc.st b1) (by omega) (fun d hd => (hs d hd).1))
 have HB1 := hide b1
 have hw1 : (w.alloc (.cells #[.slice none 0 0, .slice none 0 0, .slice none 0 0, .slice none 0 0, .slice none 0 0] 29)).heap.size = w.heap.size + 1 := by simp
 have HW1 := hide hw1
 obtain ⟨h, hh⟩ : ∃ h, (nbF l).2 = h := ⟨_, rfl⟩
 obtain ⟨fn, hfn⟩ : ∃ fn, (nbF l).1 = fn := ⟨_, rfl⟩
 have HHB : Hid (h.2.1 ≤ 1000000) := by
  unfold Hid
  rw [← hh]
  exact hbd l (by rw [hA.len]; omega)
 unfold NbP at HNB
 rw [hh, hfn] at HNB ⊢
 obtain ⟨RES, hres⟩ : ∃ R, ofP h fn l (((0, 0, 0, 0, 0), [], [], fun _ _ => 0), zeroR) = R := ⟨_, rfl⟩
 have HRES := hide hres
 rw [hres]
 clear hA hs ho b1 hres hw1 hh hfn
 go_enter Tryz.func7, Tryz.ntmps7
 go_upto_region 1 with fail
 generalize w.alloc (.cells #[.slice none 0 0, .slice none 0 0, .slice none 0 0, .slice none 0 0, .slice none 0 0] 29) = w1 at *
 go_wp2_with (go_at_call 15; refine HNB.out.mono ?_; rintro e w2 ⟨gb, D, M, rfl, hb, hd⟩; have HB2 := hide hb; have HD0 := hide hd; clear hb hd HNB)
 go_loopw [12] (fun v wr => ∃ (i : Nat) (s : Sn16 × Ru) (v1 v2 v3 v4 v5 : Value), i ≤ n ∧ v = .int .i64 i ∧ Hid (ofP h fn (l.drop i) s = RES) ∧ Hid (BD w1.heap.size wr gb D M h (20 * i) s.1 fn v1 v2 v3 v4 v5 s.2) ∧ Hid (OKS i s) ∧ Hid (Below w1.heap.size w1 wr)) (fun v _ => n - (RowKit.intOf v).toNat)
 case atStart => exact ⟨0, (((0, 0, 0, 0, 0), [], [], fun _ _ => 0), zeroR), _, _, _, _, _, by omega, rfl, (by unfold Hid; rw [List.drop_zero]; exact HRES.out), HD0, (by unfold Hid OKS; simp [zeroR]), HB2⟩
 case round =>
  clear HD0 HB2 HRES
  obtain ⟨i, s, v1, v2, v3, v4, v5, hi, rfl, HF, HD, HK, HB⟩ := hrel
  by_cases hlt : i < n
  ·have hi0 : (0 : Int) ≤ (i : Int) := by omega
   have hi1 : (i : Int) < (n : Int) := by omega
   obtain ⟨bp, off, ha⟩ := HA.out.addr (show 0 < n by omega)
   subst ha
   obtain ⟨⟨kd, st, nm, ot, dn, ds, ln⟩, p, co, hx, _, _, s0, s1, s2, s3, s4, s5, s6⟩ := SF.dc (SF.below RDc.st HA1.out HB.out) i hlt
   have hat := ofP_at hx (h := h) (fn := fn) s
   have hnm := HNM.out _ (List.mem_of_getElem? hx)
   have h10 := HO.out _ (List.mem_of_getElem? hx)
   simp only at s0 s1 s2 s3 s4 s5 s6 hat hnm h10
   generalize ds.length = m at s5
   rw [HF.out] at hat
   obtain ⟨⟨⟨t1, t2, t3, cl, op⟩, S, G, f⟩, r⟩ := s
   have hkk := HK.out
   unfold OKS at hkk
   simp only at hkk
   have HLI := hide (fun u (hd : BD w1.heap.size u gb D M h (20 * i) ((t1, t2, t3, cl, op), S, G, f) fn v1 v2 v3 v4 v5 r) (hb : Below w1.heap.size w1 u) => line16 w1.heap.size gb D M (20 * i) h t1 t2 t3 cl op S G f fn v1 v2 v3 v4 v5 r kd st nm ot dn ln p m co w1 u hd hb (by omega) hnm.1 hnm.2 (by omega) (by omega) (by omega) (by omega) (by omega) (by omega) (by omega) (by omega) HHB.out h10)
   have hq := bel1 wr (.cells #[.int .i64 kd, .bool st, .string nm, .string ot, .int .i64 dn, .slice p m co, .int .i64 ln] 38)
   have HXD : Hid (BX (wr.alloc (.cells #[.int .i64 kd, .bool st, .string nm, .string ot, .int .i64 dn, .slice p m co, .int .i64 ln] 38)) wr.heap.size #[.int .i64 kd, .bool st, .string nm, .string ot, .int .i64 dn, .slice p m co, .int .i64 ln] 38) := BX.new wr _ rfl _ _
   have HDU := hide (HD.out.below hq)
   have HBU : Hid (Below w1.heap.size w1 (wr.alloc (.cells #[.int .i64 kd, .bool st, .string nm, .string ot, .int .i64 dn, .slice p m co, .int .i64 ln] 38))) := HB.out.alloc HB.out.size _
   have HGD : Hid (w1.heap.size ≤ wr.heap.size) := HB.out.size
   clear hkk hnm h10 hq hx
   go_upto_region 5 with fail
   generalize wr.alloc (.cells #[.int .i64 kd, .bool st, .string nm, .string ot, .int .i64 dn, .slice p m co, .int .i64 ln] 38) = u at *
   generalize wr.heap.size = gd at *
   have d0 := HXD.out.cell 0 _ rfl
   have d1 := HXD.out.cell 1 _ rfl
   have d2 := HXD.out.cell 2 _ rfl
   have d3 := HXD.out.cell 3 _ rfl
   have d4 := HXD.out.cell 4 _ rfl
   have d5 := HXD.out.cell 5 _ rfl
   have d6 := HXD.out.cell 6 _ rfl
   rcases hst : stepP h fn (((t1, t2, t3, cl, op), S, G, f), r) kd st nm ot dn with _ | s'
   ·rw [hst] at hat HLI
    simp only at hat
    have HAT := hide hat
    clear hat hst
    go_upto_region 6 with (go_at_call 16; refine (HLI.out _ HDU.out HBU.out).mono ?_; rintro e w4 ⟨rfl, hb, hkd, hp⟩; have HB4 := hide hb; have HX4 := hide (hkd _ _ HXD.out); clear hb hp hkd; simp only [Option.isSome_none])
    have HGr := hide (HG.out.below HB4.out)
    replace d6 := HX4.out.cell 6 _ rfl
    have z0 := HGr.out.cell 0 _ rfl
    have y0 := HGr.out.free 0
    have z1 := HGr.out.cell 1 _ rfl
    have y1 := HGr.out.free 1
    have z2 := HGr.out.cell 2 _ rfl
    have y2 := HGr.out.free 2
    have z3 := HGr.out.cell 3 _ rfl
    have y3 := HGr.out.free 3
    have z4 := HGr.out.cell 4 _ rfl
    have y4 := HGr.out.free 4
    go_region
    go_wp2
    refine bodyPost_ret (results_ctt rfl _ _ _ _ _ _ _ _ _ rfl rfl rfl (BX.put5 (show BX w4.drew w.heap.size _ _ from HGr.out) _ _ _ _ _).1 Tryz.underlying29 rfl Tryz.sizeRu) rfl ?_
    rw [HAT.out]
    exact ⟨_, _, _, _, _, rfl, RW.zero _ _, bel_set5 ((HB1.out.trans (HB4.out.mono (by have := HW1.out; omega))).drew) (Nat.le_refl _) _ _ _ _ _⟩
   ·rw [hst] at hat HLI
    simp only at hat
    have HAT := hide hat
    have HK2 := hide (HK.out.step hst)
    clear hat hst
    go_wp2_with (go_at_call 16; refine (HLI.out _ HDU.out HBU.out).mono ?_; rintro e w4 ⟨rfl, hb, _, hp⟩; have HB4 := hide hb; have HP := hide (hp _ rfl); clear hb hp; simp only [Option.isSome_some])
    go_roundw
    case rel =>
     obtain ⟨u1, u2, u3, u4, u5, hbd⟩ := HP.out
     exact ⟨i + 1, s', u1, u2, u3, u4, u5, by omega, by go_num, HAT.out.symm, by unfold Hid; rw [show 20 * (i + 1) = 20 * i + 20 by omega]; exact hbd, HK2, HB4⟩
    case measure => simp [RowKit.intOf] <;> omega
  ·obtain rfl : i = n := by omega
   have HFE : Hid (RES = (s.2, 0, 0)) := by
    unfold Hid
    rw [← HF.out, List.drop_eq_nil_of_le (by rw [HLN.out]; exact Nat.le_refl _)]
    rfl
   obtain ⟨⟨o1, o2, o3, o4, o5⟩, _⟩ := HD.out.2.2.2.1
   obtain ⟨p1, e1, hv1, _, _⟩ := OwnR.open encSt_len o1
   obtain ⟨p2, e2, hv2, _, _⟩ := OwnR.open encSt_len o2
   obtain ⟨p3, e3, hv3, _, _⟩ := OwnR.open encSt_len o3
   obtain ⟨p4, e4, hv4, _, _⟩ := OwnR.open encCl_len o4
   obtain ⟨p5, e5, hv5, _, _⟩ := OwnF.open o5
   clear o1 o2 o3 o4 o5
   subst hv1 hv2 hv3 hv4 hv5
   have HGr := hide (HG.out.below HB.out)
   have x0 := HD.out.1.cell 0 _ rfl
   have x1 := HD.out.1.cell 1 _ rfl
   have x2 := HD.out.1.cell 2 _ rfl
   have x3 := HD.out.1.cell 3 _ rfl
   have x4 := HD.out.1.cell 4 _ rfl
   have z0 := HGr.out.cell 0 _ rfl
   have y0 := HGr.out.free 0
   have z1 := HGr.out.cell 1 _ rfl
   have y1 := HGr.out.free 1
   have z2 := HGr.out.cell 2 _ rfl
   have y2 := HGr.out.free 2
   have z3 := HGr.out.cell 3 _ rfl
   have y3 := HGr.out.free 3
   have z4 := HGr.out.cell 4 _ rfl
   have y4 := HGr.out.free 4
   go_wp2
   refine bodyPost_ret (results_ctt rfl _ _ _ _ _ _ _ _ _ rfl rfl rfl (HGr.out.put5 _ _ _ _ _).1 Tryz.underlying29 rfl Tryz.sizeRu) rfl ?_
   rw [HFE.out]
   exact ⟨_, _, _, _, _, rfl, (RW.set5 HD.out.2.2.2.1 HGr.out _ _ _ _ _).mono (by have := HW1.out; omega), bel_set5 (HB1.out.trans (HB.out.mono (by have := HW1.out; omega))) (Nat.le_refl _) _ _ _ _ _⟩
end Go.Proofs.YtomppblgalepjaaGreatDoor

/- Layer 16: a limit is a clause. -/
namespace Go.Proofs.YtomppblgalepjaaGreatDoor
open Go.RowKit Go.Lib
set_option linter.unusedVariables false
def txt16 : ByteArray := ⟨#[114, 117, 108, 101, 32, 108, 105, 109, 105, 116, 32, 97, 32, 51, 10, 115, 101, 116, 32, 97]⟩
abbrev dc16 : List Dc := [(6, false, ⟨#[97]⟩, ⟨#[]⟩, 3, [], 1), (1, false, ⟨#[97]⟩, ⟨#[]⟩, 0, [], 2)]
theorem txt16_lin : linG (bytesL txt16) = (dc16, 0, 0) := by kernel_rfl
abbrev ru16 : Ru := ([⟨#[97]⟩], [], [], [(6, false, 0, 0, 3)], [])
theorem dc16_of : ofP (nbF dc16).2 (nbF dc16).1 dc16 (((0, 0, 0, 0, 0), [], [], fun _ _ => 0), zeroR) = (ru16, 0, 0) := by kernel_rfl
set_option maxHeartbeats 8000000 in
set_option maxRecDepth 8000 in
theorem read16 (w : World) (hv : LV w) : Calls Tryz.prog 14 #[.string txt16] w (OfQ w (ru16, 0, 0)) := by
 have b1 := bel1 w (.cells #[.slice none 0 0, .slice none 0 0, .slice none 0 0, .slice none 0 0, .slice none 0 0] 29)
 have HG : Hid (BX (w.alloc (.cells #[.slice none 0 0, .slice none 0 0, .slice none 0 0, .slice none 0 0, .slice none 0 0] 29)) w.heap.size #[.slice none 0 0, .slice none 0 0, .slice none 0 0, .slice none 0 0, .slice none 0 0] 29) := BX.new w _ rfl _ _
 have HR := hide (LinesP15 txt16 (w.alloc (.cells #[.slice none 0 0, .slice none 0 0, .slice none 0 0, .slice none 0 0, .slice none 0 0] 29)) (by decide) (hv.below b1))
 have HB1 := hide b1
 clear hv b1
 generalize htx : txt16 = tx at *
 have HTX := hide htx
 clear htx
 go_enter Tryz.func14, Tryz.ntmps14
 go_upto_region 1 with fail
 generalize w.alloc (.cells #[.slice none 0 0, .slice none 0 0, .slice none 0 0, .slice none 0 0, .slice none 0 0] 29) = w1 at *
 go_upto_region 2 with (go_at_call 35; refine HR.out.mono ?_; rintro e w2 ⟨v, ds, x, e0, rfl, hl, ho, hb⟩; have HL := hide hl; have HO := hide ho; have HB2 := hide hb; clear hl ho hb)
 obtain ⟨hds, hx0, he0⟩ : ds = dc16 ∧ x = 0 ∧ e0 = 0 := by
  have q := HL.out
  rw [← HTX.out, txt16_lin] at q
  have q1 := (Prod.mk.inj q).1
  have q2 := Prod.mk.inj (Prod.mk.inj q).2
  exact ⟨q1.symm, q2.1.symm, q2.2.symm⟩
 subst hds hx0 he0
 obtain ⟨p, c, hv, hsf, hcp⟩ := HO.out.open
 have hln : dc16.length = 2 := rfl
 rw [hln] at hv hsf
 subst hv
 have HOF := hide (OfN16 p 2 c dc16 w2 hsf (by decide) (by decide) (by decide))
 rw [dc16_of] at HOF
 clear HL HO hsf hcp HR HTX hln
 go_wp2_with (go_at_call 7; refine HOF.out.mono ?_; rintro e w3 ⟨v1, v2, v3, v4, v5, rfl, hw, hb⟩; obtain ⟨p1, e1, hv1, _, _⟩ := OwnR.open encSt_len hw.1.1; obtain ⟨p2, e2, hv2, _, _⟩ := OwnR.open encSt_len hw.1.2.1; obtain ⟨p3, e3, hv3, _, _⟩ := OwnR.open encSt_len hw.1.2.2.1; obtain ⟨p4, e4, hv4, _, _⟩ := OwnR.open encCl_len hw.1.2.2.2.1; obtain ⟨p5, e5, hv5, _, _⟩ := OwnF.open hw.1.2.2.2.2; subst hv1 hv2 hv3 hv4 hv5; have HW := hide hw; have HBK := hide (bel_next HB2.out hb); have HGr := hide (HG.out.below HBK.out); have z0 := HGr.out.cell 0 _ rfl; have y0 := HGr.out.free 0; have z1 := HGr.out.cell 1 _ rfl; have y1 := HGr.out.free 1; have z2 := HGr.out.cell 2 _ rfl; have y2 := HGr.out.free 2; have z3 := HGr.out.cell 3 _ rfl; have y3 := HGr.out.free 3; have z4 := HGr.out.cell 4 _ rfl; have y4 := HGr.out.free 4; clear hw hb)
 refine bodyPost_ret (results_ctt rfl _ _ _ _ _ _ _ _ _ rfl rfl rfl (HGr.out.put5 _ _ _ _ _).1 Tryz.underlying29 rfl Tryz.sizeRu) rfl ?_
 have hle : w.heap.size ≤ w2.heap.size := Nat.le_trans HB1.out.size HB2.out.size
 exact ⟨_, _, _, _, _, rfl, (RW.set5 HW.out HGr.out _ _ _ _ _).mono hle, bel_set5 (bel_next HB1.out HBK.out) (Nat.le_refl _) _ _ _ _ _⟩
set_option maxHeartbeats 8000000 in
set_option maxRecDepth 8000 in
theorem awake16 (w : World) (hv : LV w) : Calls Tryz.prog 6 #[] w fun e w' => e = .returned (.bool true) ∧ Below w.heap.size w w' := by
 have HR := hide (read16 w hv)
 clear hv
 unfold OfQ at HR
 have hn1 : ru16.1.length = 1 := rfl
 have hn2 : ru16.2.1.length = 0 := rfl
 have hn3 : ru16.2.2.1.length = 0 := rfl
 have hn4 : ru16.2.2.2.1.length = 1 := rfl
 have hn5 : ru16.2.2.2.2.length = 0 := rfl
 go_enter Tryz.func6, Tryz.ntmps6
 go_upto_region 2 with (go_at_call 14; refine HR.out.mono ?_; rintro e w3 ⟨v1, v2, v3, v4, v5, rfl, hw, hb⟩; obtain ⟨p1, e1, hv1, _, _⟩ := OwnR.open encSt_len hw.1.1; obtain ⟨p2, e2, hv2, _, _⟩ := OwnR.open encSt_len hw.1.2.1; obtain ⟨p3, e3, hv3, _, _⟩ := OwnR.open encSt_len hw.1.2.2.1; obtain ⟨p4, e4, hv4, hrs, _⟩ := OwnR.open encCl_len hw.1.2.2.2.1; obtain ⟨p5, e5, hv5, _, _⟩ := OwnF.open hw.1.2.2.2.2; rw [hn1] at hv1; rw [hn2] at hv2; rw [hn3] at hv3; rw [hn4] at hv4 hrs; rw [hn5] at hv5; subst hv1 hv2 hv3 hv4 hv5; obtain ⟨b, off, hp4, hcc⟩ := rs_cells hrs (by decide); subst hp4; have HB := hide hb; have c0 := hcc 0 (6, false, 0, 0, 3) rfl 0 _ rfl; have c1 := hcc 0 (6, false, 0, 0, 3) rfl 1 _ rfl; have c2 := hcc 0 (6, false, 0, 0, 3) rfl 2 _ rfl; have c3 := hcc 0 (6, false, 0, 0, 3) rfl 3 _ rfl; have c4 := hcc 0 (6, false, 0, 0, 3) rfl 4 _ rfl; simp only [Nat.zero_mul, Nat.add_zero] at c0 c1 c2 c3 c4; clear hw hb hrs hcc)
 have HB2 := hide (bel_next HB.out (bel1 w3 (.cells #[.slice p1 1 e1, .slice p2 0 e2, .slice p3 0 e3, .slice (some ⟨b, off, none⟩) 1 e4, .slice p5 0 e5] 29)))
 have HX : Hid (BX (w3.alloc (.cells #[.slice p1 1 e1, .slice p2 0 e2, .slice p3 0 e3, .slice (some ⟨b, off, none⟩) 1 e4, .slice p5 0 e5] 29)) w3.heap.size #[.slice p1 1 e1, .slice p2 0 e2, .slice p3 0 e3, .slice (some ⟨b, off, none⟩) 1 e4, .slice p5 0 e5] 29) := BX.new w3 _ rfl _ _
 have x0 := HX.out.cell 0 _ rfl
 have x3 := HX.out.cell 3 _ rfl
 replace c0 := cell_old (.cells #[.slice p1 1 e1, .slice p2 0 e2, .slice p3 0 e3, .slice (some ⟨b, off, none⟩) 1 e4, .slice p5 0 e5] 29) c0
 replace c1 := cell_old (.cells #[.slice p1 1 e1, .slice p2 0 e2, .slice p3 0 e3, .slice (some ⟨b, off, none⟩) 1 e4, .slice p5 0 e5] 29) c1
 replace c2 := cell_old (.cells #[.slice p1 1 e1, .slice p2 0 e2, .slice p3 0 e3, .slice (some ⟨b, off, none⟩) 1 e4, .slice p5 0 e5] 29) c2
 replace c3 := cell_old (.cells #[.slice p1 1 e1, .slice p2 0 e2, .slice p3 0 e3, .slice (some ⟨b, off, none⟩) 1 e4, .slice p5 0 e5] 29) c3
 replace c4 := cell_old (.cells #[.slice p1 1 e1, .slice p2 0 e2, .slice p3 0 e3, .slice (some ⟨b, off, none⟩) 1 e4, .slice p5 0 e5] 29) c4
 clear HX HR
 generalize w3.alloc (.cells #[.slice p1 1 e1, .slice p2 0 e2, .slice p3 0 e3, .slice (some ⟨b, off, none⟩) 1 e4, .slice p5 0 e5] 29) = u at *
 go_wp2
 go_ret
 exact ⟨rfl, HB2.out⟩
end Go.Proofs.YtomppblgalepjaaGreatDoor

