/- Texts of this claim, joined: NR4. -/
import Derived.Test.YtomppblgalepjaaGreatDoorJ10
/- The program's reader of lines: an operation (layer 15). -/
namespace Go.Proofs.YtomppblgalepjaaGreatDoor
open Go.RowKit Go.Lib
set_option linter.unusedVariables false
theorem RP.belN {D N : Nat} {w w' : World} {l : List Tk} (h : RP D w l) (hD : D < N) (hb : Below N w w') : RP D w' l := by
 obtain ⟨a, c, h1, h2, h3, h4⟩ := h
 refine ⟨a, c, ?_, h2.keep (fun _ b hb' => hb.block _ (Nat.lt_trans (h4 b hb') hD)), h3, h4⟩
 unfold BX
 rw [hb.block D hD]
 exact h1
theorem OwnR.ne {α : Type} {enc : α → List Value} {k : Nat} {T : TypeId} {N D : Nat} {w : World} {v : Value} {l : List α} (h : OwnR enc k T N w v l) (hD : D < N) : v.ownBlock ≠ some D := fun e => by
 have := (h.at e).1
 omega
def lnR (D : Nat) (w : World) : Nat := match w.cell? ⟨D, 0, none⟩ with
 | some (.slice _ n _) => n
 | _ => 0
theorem RP.len {D : Nat} {w : World} {l : List Tk} (h : RP D w l) : lnR D w = l.length := by
 obtain ⟨a, c, h1, _⟩ := h
 unfold lnR
 rw [h1.cell 0 _ rfl]
 rfl
def moU (l : List Tk) (c : Nat) (ds : List Dd) : List Dd × Nat × Bool := if isU l c 4 = false ∨ ds.length = 16 then (ds, c, true) else opU l (17 - ds.length) c ds
theorem opU_mo {l : List Tk} {f i : Nat} {ds : List Dd} {kd : Int} {fm : List Int} (h : deedU (txtU l (i + 1)) = (kd, fm)) (h0 : kd ≠ 0) (hk : frmU l (i + 2) fm = fm.length) (hf : f + 1 + ds.length = 17) : opU l (f + 1) i ds = moU l (i + 2 + fm.length) (ds ++ [(kd, txtU l (i + 2), if fm.length = 2 then numU l (i + 3) else 0)]) := by
 rw [opU_more h h0 hk]
 unfold moU
 rw [show 17 - (ds ++ [(kd, txtU l (i + 2), if fm.length = 2 then numU l (i + 3) else 0)]).length = f by rw [List.length_append, List.length_singleton]; omega]
def OpQ (D : Nat) (l : List Tk) (w : World) (nm : ByteArray) (RD : List Dd) (RA : Nat) (RK : Bool) (e : Ending) (w' : World) : Prop := (RK = true ∧ isU l RA 4 = false ∧ ∃ p c, e = .returned (.agg #[.int .i64 10, .bool false, .string nm, .string ⟨#[]⟩, .int .i64 0, .slice p RD.length c, .int .i64 0]) ∧ OwnDd w.heap.size w' (.slice p RD.length c) RD ∧ RP D w' (l.drop RA) ∧ GB D w w') ∨ ((RK = false ∨ isU l RA 4 = true) ∧ e = .panicked [{ v := noL (lnU l RA), recovered := false }] ∧ GB D w w')
set_option maxRecDepth 2000 in
set_option maxHeartbeats 8000000 in
theorem oper_main {D : Nat} {l : List Tk} {m i : Nat} (hL : Ln l m) (hi : i ≤ m) (h : namU l i = true) (h2 : isU l (i + 1) 3 = true) {RD : List Dd} {RA : Nat} {RK : Bool} (hrs : opU l 17 (i + 1) [] = (RD, RA, RK)) : ∀ w, RP D w (l.drop i) → Calls Tryz.prog 95 #[.pointer (some ⟨D, 0, none⟩)] w (OpQ D l w (txtU l i) RD RA RK) := by
 have HRS := hide hrs
 clear hrs
 have HN := hide (thing_ok (D := D) 10 h)
 have hi1 : i + 1 ≤ m := hL.nam hi h
 have hi2 : i + 1 + 1 ≤ m := hL.is hi1 (by decide) (by decide) h2
 obtain ⟨tx, nn, ln, ht2⟩ := tk_at h2
 have HM := hide (must_ok (D := D) ht2 3 rfl)
 generalize txtU l i = nm at *
 clear h h2 ht2 hi hi1
 intro w hr
 have bq0 := bel1 w (.cells #[.int .i64 0, .bool false, .string ⟨#[]⟩, .string ⟨#[]⟩, .int .i64 0, .slice none 0 0, .int .i64 0] 38)
 have HB : Hid (GB D w (w.alloc (.cells #[.int .i64 0, .bool false, .string ⟨#[]⟩, .string ⟨#[]⟩, .int .i64 0, .slice none 0 0, .int .i64 0] 38))) := GB.below D bq0
 have HG : Hid (BX (w.alloc (.cells #[.int .i64 0, .bool false, .string ⟨#[]⟩, .string ⟨#[]⟩, .int .i64 0, .slice none 0 0, .int .i64 0] 38)) w.heap.size #[.int .i64 0, .bool false, .string ⟨#[]⟩, .string ⟨#[]⟩, .int .i64 0, .slice none 0 0, .int .i64 0] 38) := BX.new w _ rfl _ _
 have HR := hide (hr.below bq0)
 have hD := hr.size
 clear hr bq0
 obtain ⟨g, hg⟩ : ∃ g, w.heap.size = g := ⟨_, rfl⟩
 have hgD : D < g := by omega
 have hne : g ≠ D := by omega
 go_enter Tryz.func95, Tryz.ntmps95
 go_upto_region 1 with fail
 rw [hg] at HG
 have hg1 : w.heap.size ≤ g := by omega
 generalize w.alloc (.cells #[.int .i64 0, .bool false, .string ⟨#[]⟩, .string ⟨#[]⟩, .int .i64 0, .slice none 0 0, .int .i64 0] 38) = w1 at *
 have hDN : D < w.heap.size := hD
 go_upto_region 2 with (go_at_call 93; refine (HN.out _ HR.out).mono ?_; rintro e w2 ⟨rfl, hr2, hb2⟩; replace HR := hide hr2; replace HB := hide (HB.out.trans hb2); replace HG := hide (HG.out.gb hb2 hne); clear hr2 hb2)
 have bq1 := bel1 w2 (.cells #[.int .i64 10, .bool false, .string nm, .string ⟨#[]⟩, .int .i64 0, .slice none 0 0, .int .i64 0] 38)
 have HX : Hid (BX (w2.alloc (.cells #[.int .i64 10, .bool false, .string nm, .string ⟨#[]⟩, .int .i64 0, .slice none 0 0, .int .i64 0] 38)) w2.heap.size #[.int .i64 10, .bool false, .string nm, .string ⟨#[]⟩, .int .i64 0, .slice none 0 0, .int .i64 0] 38) := BX.new w2 _ rfl _ _
 have hgs := HG.out.size
 replace HG := hide (HG.out.below bq1)
 replace HR := hide (HR.out.below bq1)
 have hgw := HB.out.1
 have hD2 : D < w2.heap.size := by omega
 replace HB := hide (HB.out.next bq1)
 clear bq1
 obtain ⟨gx, hg2⟩ : ∃ g, w2.heap.size = g := ⟨_, rfl⟩
 have hgxw : w.heap.size ≤ gx := by omega
 have hnex : gx ≠ D := by omega
 have hgxD : D < gx := by omega
 have hgggx : gx ≠ g := by omega
 clear hgs
 rw [hg2] at HX ⊢
 clear hg2 hD2 hgw
 generalize w2.alloc (.cells #[.int .i64 10, .bool false, .string nm, .string ⟨#[]⟩, .int .i64 0, .slice none 0 0, .int .i64 0] 38) = w3 at *
 go_upto_region 3 with (go_at_call 103; refine (HM.out _ HR.out).mono ?_; rintro e w4 ⟨rfl, hr2, hb2⟩; replace HR := hide hr2; replace HB := hide (HB.out.trans hb2); replace HG := hide (HG.out.gb hb2 hne); replace HX := hide (HX.out.gb hb2 hnex); clear hr2 hb2)
 rename_i Kc hKc
 have HO : Hid (OwnDd w.heap.size w4 (.slice none 0 0) ([] : List Dd)) := OwnR.nil _ _
 obtain ⟨ds, hds⟩ : ∃ ds : List Dd, ds = [] := ⟨_, rfl⟩
 have hnds : ds.length = 0 := by rw [hds]; rfl
 rw [← hds] at HO HRS
 clear HN HM
 rcases deed15P (D := D) hL hi2 with ⟨hz, hn⟩ | ⟨kd1, fm, hk0, hdq, hm1, ⟨hfr, hm2, hn⟩ | ⟨hfr, hn⟩⟩
 ·have HDN := hide hn
  have HF2 := HRS.out
  rw [opU_zero hz] at HF2
  cases HF2
  clear hn hz
  replace HR := hide (HR.out.below (Below.refl _ w4).drew)
  replace HX := hide (HX.out.below (Below.refl _ w4).drew)
  replace HG := hide (HG.out.below (Below.refl _ w4).drew)
  replace HO := hide (HO.out.below (Below.refl _ w4).drew)
  replace HB := hide HB.out.drew
  refine wp_region_any (by kernel_rfl) ?_
  change wpAny _ _ _ _ _ _ _ (World.drew _)
  generalize w4.drew = x1 at *
  have z5 := HX.out.cell 5 _ rfl
  refine takeP 0 9 ?v10 rfl rfl (by kernel_rfl) (by kernel_rfl) (by kernel_rfl) (fun _ _ _ h => h) (by kernel_rfl) ?hy10 ?_
  case hy10 => (intro W; go_simp; try rfl)
  simp only [ly]
  refine takeP 2 11 ?v11 rfl rfl (by kernel_rfl) (by kernel_rfl) (by kernel_rfl) (fun _ _ _ h => h) (by kernel_rfl) ?hy11 ?_
  case hy11 => (intro W; go_simp; try rfl)
  simp only [ly]
  refine wpAny_ready (rs := [1, 3]) (by kernel_rfl) (by simp) ?_
  refine AllReady.cons rfl (fun K hK => ?_) (AllReady.cons rfl (fun K hK => ?_) AllReady.nil)
  ·go_simp
   first | (refine hK _ _ ?_; clear hK K) | skip
   try simp only [ly]
   refine wpAny_ready (rs := [3]) (by kernel_rfl) (by simp) ?_
   refine AllReady.cons rfl (fun K hK => ?_) AllReady.nil
   go_simp
   refine (HDN.out _ HR.out).mono ?_
   rintro e x5 ⟨rfl, hb2⟩
   replace HB := hide (HB.out.trans hb2)
   clear hb2
   exact ⟨rfl, .inr ⟨.inl rfl, rfl, HB.out⟩⟩
  ·go_simp
   refine (HDN.out _ HR.out).mono ?_
   rintro e x5 ⟨rfl, hb2⟩
   replace HB := hide (HB.out.trans hb2)
   clear hb2
   exact ⟨rfl, .inr ⟨.inl rfl, rfl, HB.out⟩⟩
 ·have HF1 := hide HRS.out
  rw [opU_mo hdq hk0 hfr (by omega)] at HF1
  generalize (if fm.length = 2 then numU l (i + 1 + 3) else 0) = n1 at *
  generalize txtU l (i + 1 + 2) = nm1 at *
  generalize kd1 = k1 at *
  have HDE : Hid (Gv 104 [] D l (i + 1 + 1) (i + 1 + 1 + 1 + fm.length) (.agg #[.int .i64 k1, .string nm1, .int .i64 n1])) := hn
  have hp2 : i + 1 + 1 + 1 + fm.length = i + 1 + 2 + fm.length := rfl
  rw [hp2] at HDE hm2
  generalize i + 1 + 2 + fm.length = c2 at *
  clear hn hdq hfr hk0 HRS
  have KEY : ∀ (p7 : Option Addr) (c7 : Nat) (q : Value) (x8 : World), Hid (RP D x8 (l.drop c2)) → Hid (GB D w x8) → Hid (BX x8 g #[.int .i64 0, .bool false, .string ⟨#[]⟩, .string ⟨#[]⟩, .int .i64 0, .slice none 0 0, .int .i64 0] 38) → Hid (OwnDd w.heap.size x8 (.slice p7 (0 + 1) c7) (ds ++ [((k1, nm1, n1) : Dd)])) → Hid (BX x8 gx #[.int .i64 10, .bool false, .string nm, .string ⟨#[]⟩, .int .i64 0, .slice p7 (0 + 1) c7, .int .i64 0] 38) → Kc { tmps := #[.pointer (some ⟨D, 0, none⟩), undef, .pointer (some ⟨g, 0, none⟩), .pointer (some ⟨gx, 0, none⟩), undef, .pointer (some ⟨D, 0, none⟩), .agg #[.int .i64 10, .bool false, .string nm, .string ⟨#[]⟩, .int .i64 0, .slice none 0 0, .int .i64 0], .pointer (some ⟨D, 0, none⟩), .agg #[.int .i64 3, .string tx, .int .i64 nn, .int .i64 ln], .pointer (some ⟨gx, 5, none⟩), .slice none 0 0, .pointer (some ⟨D, 0, none⟩), .agg #[.int .i64 k1, .string nm1, .int .i64 n1], q, .slice p7 (0 + 1) c7, .pointer (some ⟨gx, 5, none⟩), undef, undef, undef, undef, undef, undef, undef, undef, undef, undef, undef, undef, undef, undef, undef, undef, undef, undef, undef, undef, undef, undef, undef, undef, undef, undef], defers := [] } x8 := by
   clear HR HB HG HO HX HDE
   intro p7 c7 q x8 HR HB HG HO HX
   have hl7 : (ds ++ [((k1, nm1, n1) : Dd)]).length = 0 + 1 := by rw [List.length_append, List.length_singleton, hnds]
   go_wp2
   go_loopw [4] (fun _ wr => ∃ (c : Nat) (ds : List Dd) (p : Option Addr) (n cp : Nat), c ≤ m ∧ n ≤ 16 ∧ ds.length = n ∧ Hid (moU l c ds = (RD, RA, RK)) ∧ Hid (RP D wr (l.drop c)) ∧ Hid (OwnDd w.heap.size wr (.slice p n cp) ds) ∧ Hid (BX wr gx #[.int .i64 10, .bool false, .string nm, .string ⟨#[]⟩, .int .i64 0, .slice p n cp, .int .i64 0] 38) ∧ Hid (BX wr g #[.int .i64 0, .bool false, .string ⟨#[]⟩, .string ⟨#[]⟩, .int .i64 0, .slice none 0 0, .int .i64 0] 38) ∧ Hid (GB D w wr)) (fun _ wr => lnR D wr)
   case atStart => exact ⟨c2, ds ++ [((k1, nm1, n1) : Dd)], p7, 0 + 1, c7, hm2, by omega, hl7, HF1, HR, HO, HX, HG, HB⟩
   case round =>
    obtain ⟨c, ds, p, n, cp, hcm, hn16, hnds, HF, HR, HO, HX, HG, HB⟩ := hrel
    obtain ⟨kd, tx, nn, ln, ht, _⟩ := hL.get hcm
    have hr0 := HR.out
    rw [drop_at1 ht] at hr0
    obtain ⟨b, off, cc, hx, k0, _, _, _, cc1, cc2, hbD⟩ := hr0.head
    have x0 := hx.cell 0 _ rfl
    obtain ⟨nr, hnr⟩ : ∃ nr, (l.drop (c + 1)).length = nr := ⟨_, rfl⟩
    rw [hnr] at x0 cc1
    have hn0 : (0 : Int) < ((nr + 1 : Nat) : Int) := by omega
    clear hr0 hx hnr cc1 cc2
    by_cases h4 : kd = 4
    ·subst h4
     have h4u : isU l c 4 = true := by rw [isU_at ht]; rfl
     have HX1 := hide (nextP (D := D) ht)
     have hc1 : c + 1 ≤ m := hL.is hcm (by decide) (by decide) h4u
     have HLN : Hid (lnU l c = ln) := lnU_at ht
     have hme : lnR D wr = l.length - c := by rw [HR.out.len, List.length_drop]
     have hlt := (List.getElem?_eq_some_iff.1 ht).1
     go_upto_region 5 with fail
     clear x0 k0 hn0 ht
     go_upto_region 6 with (go_at_call 84; refine (HX1.out _ HR.out).mono ?_; rintro e w2 ⟨rfl, hr2, hb2⟩; replace HR := hide hr2; replace HB := hide (HB.out.trans hb2); replace HG := hide (HG.out.gb hb2 hne); replace HX := hide (HX.out.gb hb2 hnex); replace HO := hide (HO.out.gb hb2 (HO.out.ne hDN)); clear hr2 hb2)
     have hgs2 := HX.out.size
     have bq1 := bel1 w2 (.cells #[.int .i64 4, .string tx, .int .i64 nn, .int .i64 ln] 129)
     have HT : Hid (BX (w2.alloc (.cells #[.int .i64 4, .string tx, .int .i64 nn, .int .i64 ln] 129)) w2.heap.size #[.int .i64 4, .string tx, .int .i64 nn, .int .i64 ln] 129) := BX.new w2 _ rfl _ _
     have hgs := HG.out.size
     replace HG := hide (HG.out.below bq1)
     replace HX := hide (HX.out.below bq1)
     replace HO := hide (HO.out.below bq1)
     replace HR := hide (HR.out.below bq1)
     have hgw := HB.out.1
     have hD2 : D < w2.heap.size := by omega
     replace HB := hide (HB.out.next bq1)
     clear bq1
     obtain ⟨gt, hg2⟩ : ∃ g, w2.heap.size = g := ⟨_, rfl⟩
     have hgtw : w.heap.size ≤ gt := by omega
     have hnet : gt ≠ D := by omega
     have hgtD : D < gt := by omega
     have hgggt : gt ≠ g := by omega
     clear hgs
     rw [hg2] at HT ⊢
     clear hg2 hD2 hgw
     generalize w2.alloc (.cells #[.int .i64 4, .string tx, .int .i64 nn, .int .i64 ln] 129) = w3 at *
     have z5 := HX.out.cell 5 _ rfl
     have t3 := HT.out.cell 3 _ rfl
     clear HX1 hgggt hgtD hgtw hgs2 hnet
     by_cases h16 : n = 16
     ·subst h16
      have HF1 := HF.out
      unfold moU at HF1
      rw [if_pos (.inr hnds)] at HF1
      cases HF1
      go_wp2
      exact ⟨rfl, .inr ⟨.inr h4u, by rw [HLN.out]; rfl, HB.out⟩⟩
     ·have h16i : ¬ (n : Int) = 16 := by omega
      have HF1 : Hid (opU l (17 - ds.length) c ds = (RD, RA, RK)) := by
       have := HF.out
       unfold moU at this
       rw [if_neg (by rw [h4u, hnds]; rintro (h | h); cases h; exact h16 h)] at this
       exact this
      obtain ⟨f, hf⟩ : ∃ f, 17 - ds.length = f + 1 := ⟨16 - ds.length, by omega⟩
      rw [hf] at HF1
      clear HF HLN t3 HT
      go_upto_region 8 with fail
      clear h16i z5
      rcases deed15P (D := D) hL hc1 with ⟨hz, hn⟩ | ⟨kd1, fm, hk0, hdq, hm1, ⟨hfr, hm2, hn⟩ | ⟨hfr, hn⟩⟩
      ·have HDN := hide hn
       have HF2 := HF1.out
       rw [opU_zero hz] at HF2
       cases HF2
       clear hn hz
       replace HR := hide (HR.out.below (Below.refl _ w3).drew)
       replace HX := hide (HX.out.below (Below.refl _ w3).drew)
       replace HG := hide (HG.out.below (Below.refl _ w3).drew)
       replace HO := hide (HO.out.below (Below.refl _ w3).drew)
       replace HB := hide HB.out.drew
       refine wp_region_any (by kernel_rfl) ?_
       change wpAny _ _ _ _ _ _ _ (World.drew _)
       generalize w3.drew = x1 at *
       have z5 := HX.out.cell 5 _ rfl
       refine takeP 0 34 ?v1 rfl rfl (by kernel_rfl) (by kernel_rfl) (by kernel_rfl) (fun _ _ _ h => h) (by kernel_rfl) ?hy1 ?_
       case hy1 => (intro W; go_simp; try rfl)
       simp only [ly]
       refine takeP 2 36 ?v2 rfl rfl (by kernel_rfl) (by kernel_rfl) (by kernel_rfl) (fun _ _ _ h => h) (by kernel_rfl) ?hy2 ?_
       case hy2 => (intro W; go_simp; try rfl)
       simp only [ly]
       refine wpAny_ready (rs := [1, 3]) (by kernel_rfl) (by simp) ?_
       refine AllReady.cons rfl (fun K hK => ?_) (AllReady.cons rfl (fun K hK => ?_) AllReady.nil)
       ·go_simp
        first | (refine hK _ _ ?_; clear hK K) | skip
        try simp only [ly]
        refine wpAny_ready (rs := [3]) (by kernel_rfl) (by simp) ?_
        refine AllReady.cons rfl (fun K hK => ?_) AllReady.nil
        go_simp
        refine (HDN.out _ HR.out).mono ?_
        rintro e x5 ⟨rfl, hb2⟩
        replace HB := hide (HB.out.trans hb2)
        clear hb2
        exact ⟨rfl, .inr ⟨.inl rfl, rfl, HB.out⟩⟩
       ·go_simp
        refine (HDN.out _ HR.out).mono ?_
        rintro e x5 ⟨rfl, hb2⟩
        replace HB := hide (HB.out.trans hb2)
        clear hb2
        exact ⟨rfl, .inr ⟨.inl rfl, rfl, HB.out⟩⟩
      ·rw [opU_mo hdq hk0 hfr (by omega)] at HF1
       have hme2 : c + 1 + 1 + fm.length ≤ l.length := by
        obtain ⟨u, hu⟩ := hL.1 _ hm2
        have := (List.getElem?_eq_some_iff.1 hu).1
        omega
       generalize (if fm.length = 2 then numU l (c + 3) else 0) = n1 at *
       generalize txtU l (c + 2) = nm1 at *
       generalize kd1 = k1 at *
       have hp2 : c + 1 + 1 + fm.length = c + 2 + fm.length := by omega
       rw [hp2] at hn hm2 hme2
       have hc2 : c + 2 ≤ c + 2 + fm.length := Nat.le_add_right _ _
       generalize c + 2 + fm.length = c2 at *
       have HDE : Hid (Gv 104 [] D l (c + 1) c2 (.agg #[.int .i64 k1, .string nm1, .int .i64 n1])) := hn
       clear hn hdq hfr hk0
       replace HR := hide (HR.out.below (Below.refl _ w3).drew)
       replace HX := hide (HX.out.below (Below.refl _ w3).drew)
       replace HG := hide (HG.out.below (Below.refl _ w3).drew)
       replace HO := hide (HO.out.below (Below.refl _ w3).drew)
       replace HB := hide HB.out.drew
       refine wp_region_any (by kernel_rfl) ?_
       change wpAny _ _ _ _ _ _ _ (World.drew _)
       generalize w3.drew = x1 at *
       have z5 := HX.out.cell 5 _ rfl
       refine takeP 0 34 ?v3 rfl rfl (by kernel_rfl) (by kernel_rfl) (by kernel_rfl) (fun _ _ _ h => h) (by kernel_rfl) ?hy3 ?_
       case hy3 => (intro W; go_simp; try rfl)
       simp only [ly]
       refine takeP 2 36 ?v4 rfl rfl (by kernel_rfl) (by kernel_rfl) (by kernel_rfl) (fun _ _ _ h => h) (by kernel_rfl) ?hy4 ?_
       case hy4 => (intro W; go_simp; try rfl)
       simp only [ly]
       refine wpAny_ready (rs := [1, 3]) (by kernel_rfl) (by simp) ?_
       refine AllReady.cons rfl (fun K hK => ?_) (AllReady.cons rfl (fun K hK => ?_) AllReady.nil)
       ·go_simp
        first | (refine hK _ _ ?_; clear hK K) | skip
        try simp only [ly]
        refine wpAny_ready (rs := [3]) (by kernel_rfl) (by simp) ?_
        refine AllReady.cons rfl (fun K hK => ?_) AllReady.nil
        go_simp
        refine (HDE.out _ HR.out).mono ?_
        rintro e x5 ⟨rfl, hr2, hb2⟩
        replace HO := hide (HO.out.gb hb2 (HO.out.ne hDN))
        replace HR := hide hr2
        replace HB := hide (HB.out.trans hb2)
        replace HG := hide (HG.out.gb hb2 hne)
        replace HX := hide (HX.out.gb hb2 hnex)
        clear hr2 hb2 z5
        have z5 := HX.out.cell 5 _ rfl
        first | (refine hK _ _ ?_; clear hK K) | skip
        try simp only [ly]
        refine wpAny_ready (rs := [4]) (by kernel_rfl) (by simp) ?_
        refine AllReady.cons rfl (fun K hK => ?_) AllReady.nil
        go_simp
        have bq := bel1 x5 (.cells #[.int .i64 k1, .string nm1, .int .i64 n1] 40)
        have HE := hide (RS.new encDd_len x5 _ rfl [((k1, nm1, n1) : Dd)] #[.int .i64 k1, .string nm1, .int .i64 n1] rfl 40 (0, 0) 1 rfl (by decide))
        replace HO := hide (HO.out.below bq)
        replace HR := hide (HR.out.below bq)
        replace HB := hide (HB.out.next bq)
        replace HG := hide (HG.out.below bq)
        replace HX := hide (HX.out.below bq)
        clear bq z5
        generalize x5.alloc (.cells #[.int .i64 k1, .string nm1, .int .i64 n1] 40) = x6 at *
        have z5 := HX.out.cell 5 _ rfl
        first | (refine hK _ _ ?_; clear hK K) | skip
        try simp only [ly]
        refine wpAny_ready (rs := [5]) (by kernel_rfl) (by simp) ?_
        refine AllReady.cons rfl (fun K hK => ?_) AllReady.nil
        refine append_rg _ _ 36 rfl Tryz.underlying36 Tryz.infoDd rfl (by decide) (by decide) encDd_len encDd_one w.heap.size _ ds [((k1, nm1, n1) : Dd)] rfl HO.out (some ⟨_, 0, none⟩) 1 1 rfl (fun h => by cases h) HE.out (by have h9 := hnds; simp only [List.length_singleton]; omega) HB.out.1 ?_
        intro v7 x7 ho hgr hbel
        have bN := hbel _ (Below.refl _ x6)
        replace HX := hide (HX.out.grown hgr (HO.out.off HX.out tyDE))
        replace HG := hide (HG.out.grown hgr (HO.out.off HG.out tyDE))
        replace HR := hide (HR.out.belN hDN bN)
        replace HB := hide (HB.out.nextN bN)
        replace HO := hide ho
        obtain ⟨p7, c7, hv7, _, _⟩ := ho.open encDd_len
        subst hv7
        have hl7 : (ds ++ [((k1, nm1, n1) : Dd)]).length = n + 1 := by rw [List.length_append, List.length_singleton, hnds]
        rw [hl7] at HO ⊢
        clear ho hgr hbel bN HE z5
        have z5 := HX.out.cell 5 _ rfl
        have y5 := HX.out.free 5
        change K (Act.put _ (some 39) _) _
        first | (refine hK _ _ ?_; clear hK K) | skip
        try simp only [ly]
        refine takeP 6 40 ?v5 rfl rfl (by kernel_rfl) (by kernel_rfl) (by kernel_rfl) (fun _ _ _ h => h) (by kernel_rfl) ?hy5 ?_
        case hy5 => (intro W; go_simp; try rfl)
        simp only [ly]
        refine wpAny_ready (rs := [7]) (by kernel_rfl) (by simp) ?_
        refine AllReady.cons rfl (fun K hK => ?_) AllReady.nil
        go_simp
        first | (refine hK _ _ ?_; clear hK K) | skip
        try simp only [ly]
        refine wpAny_done (by kernel_rfl) ?_ _
        have hto := HO.out.off HX.out tyDE
        replace HR := hide (HR.out.other hgxD 5 (.slice p7 (n + 1) c7))
        replace HB := hide (HB.out.new gx hgxw 5 (.slice p7 (n + 1) c7))
        replace HG := hide (HG.out.other hgggx 5 (.slice p7 (n + 1) c7))
        replace HO := hide (HO.out.set hto 5 (.slice p7 (n + 1) c7))
        replace HX : Hid (BX (x7.setCell ⟨gx, 5, none⟩ (.slice p7 (n + 1) c7)) gx #[.int .i64 10, .bool false, .string nm, .string ⟨#[]⟩, .int .i64 0, .slice p7 (n + 1) c7, .int .i64 0] 38) := HX.out.set 5 _
        clear z5 y5 hto
        generalize x7.setCell ⟨gx, 5, none⟩ (.slice p7 (n + 1) c7) = x8 at *
        clear HDE
        go_wp2
        go_roundw
        case rel => exact ⟨c2, ds ++ [((k1, nm1, n1) : Dd)], p7, n + 1, c7, hm2, by omega, hl7, HF1, HR, HO, HX, HG, HB⟩
        case measure => rw [HR.out.len, List.length_drop, hme]; omega
       ·go_simp
        refine (HDE.out _ HR.out).mono ?_
        rintro e x5 ⟨rfl, hr2, hb2⟩
        replace HO := hide (HO.out.gb hb2 (HO.out.ne hDN))
        replace HR := hide hr2
        replace HB := hide (HB.out.trans hb2)
        replace HG := hide (HG.out.gb hb2 hne)
        replace HX := hide (HX.out.gb hb2 hnex)
        clear hr2 hb2 z5
        have z5 := HX.out.cell 5 _ rfl
        first | (refine hK _ _ ?_; clear hK K) | skip
        try simp only [ly]
        refine wpAny_ready (rs := [1, 4]) (by kernel_rfl) (by simp) ?_
        refine AllReady.cons rfl (fun K hK => ?_) (AllReady.cons rfl (fun K hK => ?_) AllReady.nil)
        ·go_simp
         first | (refine hK _ _ ?_; clear hK K) | skip
         try simp only [ly]
         refine wpAny_ready (rs := [4]) (by kernel_rfl) (by simp) ?_
         refine AllReady.cons rfl (fun K hK => ?_) AllReady.nil
         go_simp
         have bq := bel1 x5 (.cells #[.int .i64 k1, .string nm1, .int .i64 n1] 40)
         have HE := hide (RS.new encDd_len x5 _ rfl [((k1, nm1, n1) : Dd)] #[.int .i64 k1, .string nm1, .int .i64 n1] rfl 40 (0, 0) 1 rfl (by decide))
         replace HO := hide (HO.out.below bq)
         replace HR := hide (HR.out.below bq)
         replace HB := hide (HB.out.next bq)
         replace HG := hide (HG.out.below bq)
         replace HX := hide (HX.out.below bq)
         clear bq z5
         generalize x5.alloc (.cells #[.int .i64 k1, .string nm1, .int .i64 n1] 40) = x6 at *
         have z5 := HX.out.cell 5 _ rfl
         first | (refine hK _ _ ?_; clear hK K) | skip
         try simp only [ly]
         refine wpAny_ready (rs := [5]) (by kernel_rfl) (by simp) ?_
         refine AllReady.cons rfl (fun K hK => ?_) AllReady.nil
         refine append_rg _ _ 36 rfl Tryz.underlying36 Tryz.infoDd rfl (by decide) (by decide) encDd_len encDd_one w.heap.size _ ds [((k1, nm1, n1) : Dd)] rfl HO.out (some ⟨_, 0, none⟩) 1 1 rfl (fun h => by cases h) HE.out (by have h9 := hnds; simp only [List.length_singleton]; omega) HB.out.1 ?_
         intro v7 x7 ho hgr hbel
         have bN := hbel _ (Below.refl _ x6)
         replace HX := hide (HX.out.grown hgr (HO.out.off HX.out tyDE))
         replace HG := hide (HG.out.grown hgr (HO.out.off HG.out tyDE))
         replace HR := hide (HR.out.belN hDN bN)
         replace HB := hide (HB.out.nextN bN)
         replace HO := hide ho
         obtain ⟨p7, c7, hv7, _, _⟩ := ho.open encDd_len
         subst hv7
         have hl7 : (ds ++ [((k1, nm1, n1) : Dd)]).length = n + 1 := by rw [List.length_append, List.length_singleton, hnds]
         rw [hl7] at HO ⊢
         clear ho hgr hbel bN HE z5
         have z5 := HX.out.cell 5 _ rfl
         have y5 := HX.out.free 5
         change K (Act.put _ (some 39) _) _
         first | (refine hK _ _ ?_; clear hK K) | skip
         try simp only [ly]
         refine takeP 6 40 ?v6 rfl rfl (by kernel_rfl) (by kernel_rfl) (by kernel_rfl) (fun _ _ _ h => h) (by kernel_rfl) ?hy6 ?_
         case hy6 => (intro W; go_simp; try rfl)
         simp only [ly]
         refine wpAny_ready (rs := [7]) (by kernel_rfl) (by simp) ?_
         refine AllReady.cons rfl (fun K hK => ?_) AllReady.nil
         go_simp
         first | (refine hK _ _ ?_; clear hK K) | skip
         try simp only [ly]
         refine wpAny_done (by kernel_rfl) ?_ _
         have hto := HO.out.off HX.out tyDE
         replace HR := hide (HR.out.other hgxD 5 (.slice p7 (n + 1) c7))
         replace HB := hide (HB.out.new gx hgxw 5 (.slice p7 (n + 1) c7))
         replace HG := hide (HG.out.other hgggx 5 (.slice p7 (n + 1) c7))
         replace HO := hide (HO.out.set hto 5 (.slice p7 (n + 1) c7))
         replace HX : Hid (BX (x7.setCell ⟨gx, 5, none⟩ (.slice p7 (n + 1) c7)) gx #[.int .i64 10, .bool false, .string nm, .string ⟨#[]⟩, .int .i64 0, .slice p7 (n + 1) c7, .int .i64 0] 38) := HX.out.set 5 _
         clear z5 y5 hto
         generalize x7.setCell ⟨gx, 5, none⟩ (.slice p7 (n + 1) c7) = x8 at *
         clear HDE
         go_wp2
         go_roundw
         case rel => exact ⟨c2, ds ++ [((k1, nm1, n1) : Dd)], p7, n + 1, c7, hm2, by omega, hl7, HF1, HR, HO, HX, HG, HB⟩
         case measure => rw [HR.out.len, List.length_drop, hme]; omega
        ·go_simp
         have bq := bel1 x5 (.cells #[.int .i64 k1, .string nm1, .int .i64 n1] 40)
         have HE := hide (RS.new encDd_len x5 _ rfl [((k1, nm1, n1) : Dd)] #[.int .i64 k1, .string nm1, .int .i64 n1] rfl 40 (0, 0) 1 rfl (by decide))
         replace HO := hide (HO.out.below bq)
         replace HR := hide (HR.out.below bq)
         replace HB := hide (HB.out.next bq)
         replace HG := hide (HG.out.below bq)
         replace HX := hide (HX.out.below bq)
         clear bq z5
         generalize x5.alloc (.cells #[.int .i64 k1, .string nm1, .int .i64 n1] 40) = x6 at *
         have z5 := HX.out.cell 5 _ rfl
         first | (refine hK _ _ ?_; clear hK K) | skip
         try simp only [ly]
         refine wpAny_ready (rs := [1]) (by kernel_rfl) (by simp) ?_
         refine AllReady.cons rfl (fun K hK => ?_) AllReady.nil
         go_simp
         first | (refine hK _ _ ?_; clear hK K) | skip
         try simp only [ly]
         refine wpAny_ready (rs := [5]) (by kernel_rfl) (by simp) ?_
         refine AllReady.cons rfl (fun K hK => ?_) AllReady.nil
         refine append_rg _ _ 36 rfl Tryz.underlying36 Tryz.infoDd rfl (by decide) (by decide) encDd_len encDd_one w.heap.size _ ds [((k1, nm1, n1) : Dd)] rfl HO.out (some ⟨_, 0, none⟩) 1 1 rfl (fun h => by cases h) HE.out (by have h9 := hnds; simp only [List.length_singleton]; omega) HB.out.1 ?_
         intro v7 x7 ho hgr hbel
         have bN := hbel _ (Below.refl _ x6)
         replace HX := hide (HX.out.grown hgr (HO.out.off HX.out tyDE))
         replace HG := hide (HG.out.grown hgr (HO.out.off HG.out tyDE))
         replace HR := hide (HR.out.belN hDN bN)
         replace HB := hide (HB.out.nextN bN)
         replace HO := hide ho
         obtain ⟨p7, c7, hv7, _, _⟩ := ho.open encDd_len
         subst hv7
         have hl7 : (ds ++ [((k1, nm1, n1) : Dd)]).length = n + 1 := by rw [List.length_append, List.length_singleton, hnds]
         rw [hl7] at HO ⊢
         clear ho hgr hbel bN HE z5
         have z5 := HX.out.cell 5 _ rfl
         have y5 := HX.out.free 5
         change K (Act.put _ (some 39) _) _
         first | (refine hK _ _ ?_; clear hK K) | skip
         try simp only [ly]
         refine takeP 6 40 ?v7 rfl rfl (by kernel_rfl) (by kernel_rfl) (by kernel_rfl) (fun _ _ _ h => h) (by kernel_rfl) ?hy7 ?_
         case hy7 => (intro W; go_simp; try rfl)
         simp only [ly]
         refine wpAny_ready (rs := [7]) (by kernel_rfl) (by simp) ?_
         refine AllReady.cons rfl (fun K hK => ?_) AllReady.nil
         go_simp
         first | (refine hK _ _ ?_; clear hK K) | skip
         try simp only [ly]
         refine wpAny_done (by kernel_rfl) ?_ _
         have hto := HO.out.off HX.out tyDE
         replace HR := hide (HR.out.other hgxD 5 (.slice p7 (n + 1) c7))
         replace HB := hide (HB.out.new gx hgxw 5 (.slice p7 (n + 1) c7))
         replace HG := hide (HG.out.other hgggx 5 (.slice p7 (n + 1) c7))
         replace HO := hide (HO.out.set hto 5 (.slice p7 (n + 1) c7))
         replace HX : Hid (BX (x7.setCell ⟨gx, 5, none⟩ (.slice p7 (n + 1) c7)) gx #[.int .i64 10, .bool false, .string nm, .string ⟨#[]⟩, .int .i64 0, .slice p7 (n + 1) c7, .int .i64 0] 38) := HX.out.set 5 _
         clear z5 y5 hto
         generalize x7.setCell ⟨gx, 5, none⟩ (.slice p7 (n + 1) c7) = x8 at *
         clear HDE
         go_wp2
         go_roundw
         case rel => exact ⟨c2, ds ++ [((k1, nm1, n1) : Dd)], p7, n + 1, c7, hm2, by omega, hl7, HF1, HR, HO, HX, HG, HB⟩
         case measure => rw [HR.out.len, List.length_drop, hme]; omega
      ·have HDN := hide hn
       have HF2 := HF1.out
       rw [opU_less hdq hk0 hfr] at HF2
       cases HF2
       clear hn hdq
       have hp2 : c + 1 + 1 + frmU l (c + 1 + 1) fm = c + 2 + frmU l (c + 2) fm := rfl
       rw [hp2] at HDN
       replace HR := hide (HR.out.below (Below.refl _ w3).drew)
       replace HX := hide (HX.out.below (Below.refl _ w3).drew)
       replace HG := hide (HG.out.below (Below.refl _ w3).drew)
       replace HO := hide (HO.out.below (Below.refl _ w3).drew)
       replace HB := hide HB.out.drew
       refine wp_region_any (by kernel_rfl) ?_
       change wpAny _ _ _ _ _ _ _ (World.drew _)
       generalize w3.drew = x1 at *
       have z5 := HX.out.cell 5 _ rfl
       refine takeP 0 34 ?v8 rfl rfl (by kernel_rfl) (by kernel_rfl) (by kernel_rfl) (fun _ _ _ h => h) (by kernel_rfl) ?hy8 ?_
       case hy8 => (intro W; go_simp; try rfl)
       simp only [ly]
       refine takeP 2 36 ?v9 rfl rfl (by kernel_rfl) (by kernel_rfl) (by kernel_rfl) (fun _ _ _ h => h) (by kernel_rfl) ?hy9 ?_
       case hy9 => (intro W; go_simp; try rfl)
       simp only [ly]
       refine wpAny_ready (rs := [1, 3]) (by kernel_rfl) (by simp) ?_
       refine AllReady.cons rfl (fun K hK => ?_) (AllReady.cons rfl (fun K hK => ?_) AllReady.nil)
       ·go_simp
        first | (refine hK _ _ ?_; clear hK K) | skip
        try simp only [ly]
        refine wpAny_ready (rs := [3]) (by kernel_rfl) (by simp) ?_
        refine AllReady.cons rfl (fun K hK => ?_) AllReady.nil
        go_simp
        refine (HDN.out _ HR.out).mono ?_
        rintro e x5 ⟨rfl, hb2⟩
        replace HB := hide (HB.out.trans hb2)
        clear hb2
        exact ⟨rfl, .inr ⟨.inl rfl, rfl, HB.out⟩⟩
       ·go_simp
        refine (HDN.out _ HR.out).mono ?_
        rintro e x5 ⟨rfl, hb2⟩
        replace HB := hide (HB.out.trans hb2)
        clear hb2
        exact ⟨rfl, .inr ⟨.inl rfl, rfl, HB.out⟩⟩
    ·have h4u : isU l c 4 = false := by rw [isU_at ht, decide_eq_false_iff_not]; exact h4
     have h4b : (kd == 4) = false := by simpa using h4
     have HF1 := HF.out
     unfold moU at HF1
     rw [if_pos (.inl h4u)] at HF1
     cases HF1
     subst hnds
     have hog := HO.out.off HG.out tyDE
     go_upto_region 9 with fail
     clear x0 k0 hn0 h4b
     have t0 := HX.out.cell 0 _ rfl
     have t1 := HX.out.cell 1 _ rfl
     have t2 := HX.out.cell 2 _ rfl
     have t3 := HX.out.cell 3 _ rfl
     have t4 := HX.out.cell 4 _ rfl
     have t5 := HX.out.cell 5 _ rfl
     have t6 := HX.out.cell 6 _ rfl
     have z0 := HG.out.cell 0 _ rfl
     have y0 := HG.out.free 0
     have z1 := HG.out.cell 1 _ rfl
     have y1 := HG.out.free 1
     have z2 := HG.out.cell 2 _ rfl
     have y2 := HG.out.free 2
     have z3 := HG.out.cell 3 _ rfl
     have y3 := HG.out.free 3
     have z4 := HG.out.cell 4 _ rfl
     have y4 := HG.out.free 4
     have z5 := HG.out.cell 5 _ rfl
     have y5 := HG.out.free 5
     have z6 := HG.out.cell 6 _ rfl
     have y6 := HG.out.free 6
     go_wp2
     refine bodyPost_ret (results_cell_row rfl _ _ _ _ _ _ _ rfl (HG.out.put7 _ _ _ _ _ _ _).1 Tryz.underlying38 rfl Tryz.sizeDc) rfl ?_
     exact .inl ⟨rfl, h4u, p, cp, rfl, HO.out.set7 hog _ _ _ _ _ _ _, HR.out.put7 hgD _ _ _ _ _ _ _, HB.out.put7 hg1 _ _ _ _ _ _ _⟩
  replace HR := hide (HR.out.below (Below.refl _ w4).drew)
  replace HX := hide (HX.out.below (Below.refl _ w4).drew)
  replace HG := hide (HG.out.below (Below.refl _ w4).drew)
  replace HO := hide (HO.out.below (Below.refl _ w4).drew)
  replace HB := hide HB.out.drew
  refine wp_region_any (by kernel_rfl) ?_
  change wpAny _ _ _ _ _ _ _ (World.drew _)
  generalize w4.drew = x1 at *
  have z5 := HX.out.cell 5 _ rfl
  refine takeP 0 9 ?v12 rfl rfl (by kernel_rfl) (by kernel_rfl) (by kernel_rfl) (fun _ _ _ h => h) (by kernel_rfl) ?hy12 ?_
  case hy12 => (intro W; go_simp; try rfl)
  simp only [ly]
  refine takeP 2 11 ?v13 rfl rfl (by kernel_rfl) (by kernel_rfl) (by kernel_rfl) (fun _ _ _ h => h) (by kernel_rfl) ?hy13 ?_
  case hy13 => (intro W; go_simp; try rfl)
  simp only [ly]
  refine wpAny_ready (rs := [1, 3]) (by kernel_rfl) (by simp) ?_
  refine AllReady.cons rfl (fun K hK => ?_) (AllReady.cons rfl (fun K hK => ?_) AllReady.nil)
  ·go_simp
   first | (refine hK _ _ ?_; clear hK K) | skip
   try simp only [ly]
   refine wpAny_ready (rs := [3]) (by kernel_rfl) (by simp) ?_
   refine AllReady.cons rfl (fun K hK => ?_) AllReady.nil
   go_simp
   refine (HDE.out _ HR.out).mono ?_
   rintro e x5 ⟨rfl, hr2, hb2⟩
   replace HO := hide (HO.out.gb hb2 (HO.out.ne hDN))
   replace HR := hide hr2
   replace HB := hide (HB.out.trans hb2)
   replace HG := hide (HG.out.gb hb2 hne)
   replace HX := hide (HX.out.gb hb2 hnex)
   clear hr2 hb2 z5
   have z5 := HX.out.cell 5 _ rfl
   first | (refine hK _ _ ?_; clear hK K) | skip
   try simp only [ly]
   refine wpAny_ready (rs := [4]) (by kernel_rfl) (by simp) ?_
   refine AllReady.cons rfl (fun K hK => ?_) AllReady.nil
   go_simp
   have bq := bel1 x5 (.cells #[.int .i64 k1, .string nm1, .int .i64 n1] 40)
   have HE := hide (RS.new encDd_len x5 _ rfl [((k1, nm1, n1) : Dd)] #[.int .i64 k1, .string nm1, .int .i64 n1] rfl 40 (0, 0) 1 rfl (by decide))
   replace HO := hide (HO.out.below bq)
   replace HR := hide (HR.out.below bq)
   replace HB := hide (HB.out.next bq)
   replace HG := hide (HG.out.below bq)
   replace HX := hide (HX.out.below bq)
   clear bq z5
   generalize x5.alloc (.cells #[.int .i64 k1, .string nm1, .int .i64 n1] 40) = x6 at *
   have z5 := HX.out.cell 5 _ rfl
   first | (refine hK _ _ ?_; clear hK K) | skip
   try simp only [ly]
   refine wpAny_ready (rs := [5]) (by kernel_rfl) (by simp) ?_
   refine AllReady.cons rfl (fun K hK => ?_) AllReady.nil
   refine append_rg _ _ 36 rfl Tryz.underlying36 Tryz.infoDd rfl (by decide) (by decide) encDd_len encDd_one w.heap.size _ ds [((k1, nm1, n1) : Dd)] rfl HO.out (some ⟨_, 0, none⟩) 1 1 rfl (fun h => by cases h) HE.out (by have h9 := hnds; simp only [List.length_singleton]; omega) HB.out.1 ?_
   intro v7 x7 ho hgr hbel
   have bN := hbel _ (Below.refl _ x6)
   replace HX := hide (HX.out.grown hgr (HO.out.off HX.out tyDE))
   replace HG := hide (HG.out.grown hgr (HO.out.off HG.out tyDE))
   replace HR := hide (HR.out.belN hDN bN)
   replace HB := hide (HB.out.nextN bN)
   replace HO := hide ho
   obtain ⟨p7, c7, hv7, _, _⟩ := ho.open encDd_len
   subst hv7
   have hl7 : (ds ++ [((k1, nm1, n1) : Dd)]).length = 0 + 1 := by rw [List.length_append, List.length_singleton, hnds]
   rw [hl7] at HO ⊢
   clear ho hgr hbel bN HE z5
   have z5 := HX.out.cell 5 _ rfl
   have y5 := HX.out.free 5
   change K (Act.put _ (some 14) _) _
   first | (refine hK _ _ ?_; clear hK K) | skip
   try simp only [ly]
   refine takeP 6 15 ?v14 rfl rfl (by kernel_rfl) (by kernel_rfl) (by kernel_rfl) (fun _ _ _ h => h) (by kernel_rfl) ?hy14 ?_
   case hy14 => (intro W; go_simp; try rfl)
   simp only [ly]
   refine wpAny_ready (rs := [7]) (by kernel_rfl) (by simp) ?_
   refine AllReady.cons rfl (fun K hK => ?_) AllReady.nil
   go_simp
   first | (refine hK _ _ ?_; clear hK K) | skip
   try simp only [ly]
   refine wpAny_done (by kernel_rfl) ?_ _
   have hto := HO.out.off HX.out tyDE
   replace HR := hide (HR.out.other hgxD 5 (.slice p7 (0 + 1) c7))
   replace HB := hide (HB.out.new gx hgxw 5 (.slice p7 (0 + 1) c7))
   replace HG := hide (HG.out.other hgggx 5 (.slice p7 (0 + 1) c7))
   replace HO := hide (HO.out.set hto 5 (.slice p7 (0 + 1) c7))
   replace HX : Hid (BX (x7.setCell ⟨gx, 5, none⟩ (.slice p7 (0 + 1) c7)) gx #[.int .i64 10, .bool false, .string nm, .string ⟨#[]⟩, .int .i64 0, .slice p7 (0 + 1) c7, .int .i64 0] 38) := HX.out.set 5 _
   clear z5 y5 hto
   generalize x7.setCell ⟨gx, 5, none⟩ (.slice p7 (0 + 1) c7) = x8 at *
   exact KEY _ _ _ _ HR HB HG HO HX
  ·go_simp
   refine (HDE.out _ HR.out).mono ?_
   rintro e x5 ⟨rfl, hr2, hb2⟩
   replace HO := hide (HO.out.gb hb2 (HO.out.ne hDN))
   replace HR := hide hr2
   replace HB := hide (HB.out.trans hb2)
   replace HG := hide (HG.out.gb hb2 hne)
   replace HX := hide (HX.out.gb hb2 hnex)
   clear hr2 hb2 z5
   have z5 := HX.out.cell 5 _ rfl
   first | (refine hK _ _ ?_; clear hK K) | skip
   try simp only [ly]
   refine wpAny_ready (rs := [1, 4]) (by kernel_rfl) (by simp) ?_
   refine AllReady.cons rfl (fun K hK => ?_) (AllReady.cons rfl (fun K hK => ?_) AllReady.nil)
   ·go_simp
    first | (refine hK _ _ ?_; clear hK K) | skip
    try simp only [ly]
    refine wpAny_ready (rs := [4]) (by kernel_rfl) (by simp) ?_
    refine AllReady.cons rfl (fun K hK => ?_) AllReady.nil
    go_simp
    have bq := bel1 x5 (.cells #[.int .i64 k1, .string nm1, .int .i64 n1] 40)
    have HE := hide (RS.new encDd_len x5 _ rfl [((k1, nm1, n1) : Dd)] #[.int .i64 k1, .string nm1, .int .i64 n1] rfl 40 (0, 0) 1 rfl (by decide))
    replace HO := hide (HO.out.below bq)
    replace HR := hide (HR.out.below bq)
    replace HB := hide (HB.out.next bq)
    replace HG := hide (HG.out.below bq)
    replace HX := hide (HX.out.below bq)
    clear bq z5
    generalize x5.alloc (.cells #[.int .i64 k1, .string nm1, .int .i64 n1] 40) = x6 at *
    have z5 := HX.out.cell 5 _ rfl
    first | (refine hK _ _ ?_; clear hK K) | skip
    try simp only [ly]
    refine wpAny_ready (rs := [5]) (by kernel_rfl) (by simp) ?_
    refine AllReady.cons rfl (fun K hK => ?_) AllReady.nil
    refine append_rg _ _ 36 rfl Tryz.underlying36 Tryz.infoDd rfl (by decide) (by decide) encDd_len encDd_one w.heap.size _ ds [((k1, nm1, n1) : Dd)] rfl HO.out (some ⟨_, 0, none⟩) 1 1 rfl (fun h => by cases h) HE.out (by have h9 := hnds; simp only [List.length_singleton]; omega) HB.out.1 ?_
    intro v7 x7 ho hgr hbel
    have bN := hbel _ (Below.refl _ x6)
    replace HX := hide (HX.out.grown hgr (HO.out.off HX.out tyDE))
    replace HG := hide (HG.out.grown hgr (HO.out.off HG.out tyDE))
    replace HR := hide (HR.out.belN hDN bN)
    replace HB := hide (HB.out.nextN bN)
    replace HO := hide ho
    obtain ⟨p7, c7, hv7, _, _⟩ := ho.open encDd_len
    subst hv7
    have hl7 : (ds ++ [((k1, nm1, n1) : Dd)]).length = 0 + 1 := by rw [List.length_append, List.length_singleton, hnds]
    rw [hl7] at HO ⊢
    clear ho hgr hbel bN HE z5
    have z5 := HX.out.cell 5 _ rfl
    have y5 := HX.out.free 5
    change K (Act.put _ (some 14) _) _
    first | (refine hK _ _ ?_; clear hK K) | skip
    try simp only [ly]
    refine takeP 6 15 ?v15 rfl rfl (by kernel_rfl) (by kernel_rfl) (by kernel_rfl) (fun _ _ _ h => h) (by kernel_rfl) ?hy15 ?_
    case hy15 => (intro W; go_simp; try rfl)
    simp only [ly]
    refine wpAny_ready (rs := [7]) (by kernel_rfl) (by simp) ?_
    refine AllReady.cons rfl (fun K hK => ?_) AllReady.nil
    go_simp
    first | (refine hK _ _ ?_; clear hK K) | skip
    try simp only [ly]
    refine wpAny_done (by kernel_rfl) ?_ _
    have hto := HO.out.off HX.out tyDE
    replace HR := hide (HR.out.other hgxD 5 (.slice p7 (0 + 1) c7))
    replace HB := hide (HB.out.new gx hgxw 5 (.slice p7 (0 + 1) c7))
    replace HG := hide (HG.out.other hgggx 5 (.slice p7 (0 + 1) c7))
    replace HO := hide (HO.out.set hto 5 (.slice p7 (0 + 1) c7))
    replace HX : Hid (BX (x7.setCell ⟨gx, 5, none⟩ (.slice p7 (0 + 1) c7)) gx #[.int .i64 10, .bool false, .string nm, .string ⟨#[]⟩, .int .i64 0, .slice p7 (0 + 1) c7, .int .i64 0] 38) := HX.out.set 5 _
    clear z5 y5 hto
    generalize x7.setCell ⟨gx, 5, none⟩ (.slice p7 (0 + 1) c7) = x8 at *
    exact KEY _ _ _ _ HR HB HG HO HX
   ·go_simp
    have bq := bel1 x5 (.cells #[.int .i64 k1, .string nm1, .int .i64 n1] 40)
    have HE := hide (RS.new encDd_len x5 _ rfl [((k1, nm1, n1) : Dd)] #[.int .i64 k1, .string nm1, .int .i64 n1] rfl 40 (0, 0) 1 rfl (by decide))
    replace HO := hide (HO.out.below bq)
    replace HR := hide (HR.out.below bq)
    replace HB := hide (HB.out.next bq)
    replace HG := hide (HG.out.below bq)
    replace HX := hide (HX.out.below bq)
    clear bq z5
    generalize x5.alloc (.cells #[.int .i64 k1, .string nm1, .int .i64 n1] 40) = x6 at *
    have z5 := HX.out.cell 5 _ rfl
    first | (refine hK _ _ ?_; clear hK K) | skip
    try simp only [ly]
    refine wpAny_ready (rs := [1]) (by kernel_rfl) (by simp) ?_
    refine AllReady.cons rfl (fun K hK => ?_) AllReady.nil
    go_simp
    first | (refine hK _ _ ?_; clear hK K) | skip
    try simp only [ly]
    refine wpAny_ready (rs := [5]) (by kernel_rfl) (by simp) ?_
    refine AllReady.cons rfl (fun K hK => ?_) AllReady.nil
    refine append_rg _ _ 36 rfl Tryz.underlying36 Tryz.infoDd rfl (by decide) (by decide) encDd_len encDd_one w.heap.size _ ds [((k1, nm1, n1) : Dd)] rfl HO.out (some ⟨_, 0, none⟩) 1 1 rfl (fun h => by cases h) HE.out (by have h9 := hnds; simp only [List.length_singleton]; omega) HB.out.1 ?_
    intro v7 x7 ho hgr hbel
    have bN := hbel _ (Below.refl _ x6)
    replace HX := hide (HX.out.grown hgr (HO.out.off HX.out tyDE))
    replace HG := hide (HG.out.grown hgr (HO.out.off HG.out tyDE))
    replace HR := hide (HR.out.belN hDN bN)
    replace HB := hide (HB.out.nextN bN)
    replace HO := hide ho
    obtain ⟨p7, c7, hv7, _, _⟩ := ho.open encDd_len
    subst hv7
    have hl7 : (ds ++ [((k1, nm1, n1) : Dd)]).length = 0 + 1 := by rw [List.length_append, List.length_singleton, hnds]
    rw [hl7] at HO ⊢
    clear ho hgr hbel bN HE z5
    have z5 := HX.out.cell 5 _ rfl
    have y5 := HX.out.free 5
    change K (Act.put _ (some 14) _) _
    first | (refine hK _ _ ?_; clear hK K) | skip
    try simp only [ly]
    refine takeP 6 15 ?v16 rfl rfl (by kernel_rfl) (by kernel_rfl) (by kernel_rfl) (fun _ _ _ h => h) (by kernel_rfl) ?hy16 ?_
    case hy16 => (intro W; go_simp; try rfl)
    simp only [ly]
    refine wpAny_ready (rs := [7]) (by kernel_rfl) (by simp) ?_
    refine AllReady.cons rfl (fun K hK => ?_) AllReady.nil
    go_simp
    first | (refine hK _ _ ?_; clear hK K) | skip
    try simp only [ly]
    refine wpAny_done (by kernel_rfl) ?_ _
    have hto := HO.out.off HX.out tyDE
    replace HR := hide (HR.out.other hgxD 5 (.slice p7 (0 + 1) c7))
    replace HB := hide (HB.out.new gx hgxw 5 (.slice p7 (0 + 1) c7))
    replace HG := hide (HG.out.other hgggx 5 (.slice p7 (0 + 1) c7))
    replace HO := hide (HO.out.set hto 5 (.slice p7 (0 + 1) c7))
    replace HX : Hid (BX (x7.setCell ⟨gx, 5, none⟩ (.slice p7 (0 + 1) c7)) gx #[.int .i64 10, .bool false, .string nm, .string ⟨#[]⟩, .int .i64 0, .slice p7 (0 + 1) c7, .int .i64 0] 38) := HX.out.set 5 _
    clear z5 y5 hto
    generalize x7.setCell ⟨gx, 5, none⟩ (.slice p7 (0 + 1) c7) = x8 at *
    exact KEY _ _ _ _ HR HB HG HO HX
 ·have HDN := hide hn
  have HF2 := HRS.out
  rw [opU_less hdq hk0 hfr] at HF2
  cases HF2
  clear hn hdq
  have hp2 : i + 1 + 1 + 1 + frmU l (i + 1 + 1 + 1) fm = i + 1 + 2 + frmU l (i + 1 + 2) fm := rfl
  rw [hp2] at HDN
  replace HR := hide (HR.out.below (Below.refl _ w4).drew)
  replace HX := hide (HX.out.below (Below.refl _ w4).drew)
  replace HG := hide (HG.out.below (Below.refl _ w4).drew)
  replace HO := hide (HO.out.below (Below.refl _ w4).drew)
  replace HB := hide HB.out.drew
  refine wp_region_any (by kernel_rfl) ?_
  change wpAny _ _ _ _ _ _ _ (World.drew _)
  generalize w4.drew = x1 at *
  have z5 := HX.out.cell 5 _ rfl
  refine takeP 0 9 ?v17 rfl rfl (by kernel_rfl) (by kernel_rfl) (by kernel_rfl) (fun _ _ _ h => h) (by kernel_rfl) ?hy17 ?_
  case hy17 => (intro W; go_simp; try rfl)
  simp only [ly]
  refine takeP 2 11 ?v18 rfl rfl (by kernel_rfl) (by kernel_rfl) (by kernel_rfl) (fun _ _ _ h => h) (by kernel_rfl) ?hy18 ?_
  case hy18 => (intro W; go_simp; try rfl)
  simp only [ly]
  refine wpAny_ready (rs := [1, 3]) (by kernel_rfl) (by simp) ?_
  refine AllReady.cons rfl (fun K hK => ?_) (AllReady.cons rfl (fun K hK => ?_) AllReady.nil)
  ·go_simp
   first | (refine hK _ _ ?_; clear hK K) | skip
   try simp only [ly]
   refine wpAny_ready (rs := [3]) (by kernel_rfl) (by simp) ?_
   refine AllReady.cons rfl (fun K hK => ?_) AllReady.nil
   go_simp
   refine (HDN.out _ HR.out).mono ?_
   rintro e x5 ⟨rfl, hb2⟩
   replace HB := hide (HB.out.trans hb2)
   clear hb2
   exact ⟨rfl, .inr ⟨.inl rfl, rfl, HB.out⟩⟩
  ·go_simp
   refine (HDN.out _ HR.out).mono ?_
   rintro e x5 ⟨rfl, hb2⟩
   replace HB := hide (HB.out.trans hb2)
   clear hb2
   exact ⟨rfl, .inr ⟨.inl rfl, rfl, HB.out⟩⟩
set_option maxHeartbeats 2000000 in
theorem oper_no1 {D : Nat} {l : List Tk} {i : Nat} {t : Tk} (ht : l[i]? = some t) (h : namU l i = false) : Up 95 [] D l i i := by
 have HN := hide (thing_no (D := D) 10 ht h)
 generalize lnU l i = y at *
 clear h ht
 intro w hr
 have bq0 := bel1 w (.cells #[.int .i64 0, .bool false, .string ⟨#[]⟩, .string ⟨#[]⟩, .int .i64 0, .slice none 0 0, .int .i64 0] 38)
 have HB : Hid (GB D w (w.alloc (.cells #[.int .i64 0, .bool false, .string ⟨#[]⟩, .string ⟨#[]⟩, .int .i64 0, .slice none 0 0, .int .i64 0] 38))) := GB.below D bq0
 have HG : Hid (BX (w.alloc (.cells #[.int .i64 0, .bool false, .string ⟨#[]⟩, .string ⟨#[]⟩, .int .i64 0, .slice none 0 0, .int .i64 0] 38)) w.heap.size #[.int .i64 0, .bool false, .string ⟨#[]⟩, .string ⟨#[]⟩, .int .i64 0, .slice none 0 0, .int .i64 0] 38) := BX.new w _ rfl _ _
 have HR := hide (hr.below bq0)
 have hD := hr.size
 clear hr bq0
 obtain ⟨g, hg⟩ : ∃ g, w.heap.size = g := ⟨_, rfl⟩
 have hgD : D < g := by omega
 have hne : g ≠ D := by omega
 go_enter Tryz.func95, Tryz.ntmps95
 go_upto_region 1 with fail
 rw [hg] at HG
 have hg1 : w.heap.size ≤ g := by omega
 generalize w.alloc (.cells #[.int .i64 0, .bool false, .string ⟨#[]⟩, .string ⟨#[]⟩, .int .i64 0, .slice none 0 0, .int .i64 0] 38) = w1 at *
 go_wp2_with (go_at_call 93; refine (HN.out _ HR.out).mono ?_; rintro e w2 ⟨rfl, hb2⟩; replace HB := hide (HB.out.trans hb2); clear hb2)
 exact ⟨rfl, rfl, HB.out⟩
set_option maxHeartbeats 2000000 in
theorem oper_no2 {D : Nat} {l : List Tk} {i : Nat} {t : Tk} (ht : l[i + 1]? = some t) (h : namU l i = true) (h2 : isU l (i + 1) 3 = false) : Up 95 [] D l i (i + 1) := by
 obtain ⟨kd, tx, nn, ln⟩ := t
 rw [isU_at ht, decide_eq_false_iff_not] at h2
 have HN := hide (thing_ok (D := D) 10 h)
 have HM := hide (must_no (D := D) ht 3 h2)
 generalize txtU l i = nm at *
 generalize lnU l (i + 1) = y at *
 clear h h2 ht
 intro w hr
 have bq0 := bel1 w (.cells #[.int .i64 0, .bool false, .string ⟨#[]⟩, .string ⟨#[]⟩, .int .i64 0, .slice none 0 0, .int .i64 0] 38)
 have HB : Hid (GB D w (w.alloc (.cells #[.int .i64 0, .bool false, .string ⟨#[]⟩, .string ⟨#[]⟩, .int .i64 0, .slice none 0 0, .int .i64 0] 38))) := GB.below D bq0
 have HG : Hid (BX (w.alloc (.cells #[.int .i64 0, .bool false, .string ⟨#[]⟩, .string ⟨#[]⟩, .int .i64 0, .slice none 0 0, .int .i64 0] 38)) w.heap.size #[.int .i64 0, .bool false, .string ⟨#[]⟩, .string ⟨#[]⟩, .int .i64 0, .slice none 0 0, .int .i64 0] 38) := BX.new w _ rfl _ _
 have HR := hide (hr.below bq0)
 have hD := hr.size
 clear hr bq0
 obtain ⟨g, hg⟩ : ∃ g, w.heap.size = g := ⟨_, rfl⟩
 have hgD : D < g := by omega
 have hne : g ≠ D := by omega
 go_enter Tryz.func95, Tryz.ntmps95
 go_upto_region 1 with fail
 rw [hg] at HG
 have hg1 : w.heap.size ≤ g := by omega
 generalize w.alloc (.cells #[.int .i64 0, .bool false, .string ⟨#[]⟩, .string ⟨#[]⟩, .int .i64 0, .slice none 0 0, .int .i64 0] 38) = w1 at *
 go_upto_region 2 with (go_at_call 93; refine (HN.out _ HR.out).mono ?_; rintro e w2 ⟨rfl, hr2, hb2⟩; replace HR := hide hr2; replace HB := hide (HB.out.trans hb2); replace HG := hide (HG.out.gb hb2 hne); clear hr2 hb2)
 have bq1 := bel1 w2 (.cells #[.int .i64 10, .bool false, .string nm, .string ⟨#[]⟩, .int .i64 0, .slice none 0 0, .int .i64 0] 38)
 have HX : Hid (BX (w2.alloc (.cells #[.int .i64 10, .bool false, .string nm, .string ⟨#[]⟩, .int .i64 0, .slice none 0 0, .int .i64 0] 38)) w2.heap.size #[.int .i64 10, .bool false, .string nm, .string ⟨#[]⟩, .int .i64 0, .slice none 0 0, .int .i64 0] 38) := BX.new w2 _ rfl _ _
 have hgs := HG.out.size
 replace HG := hide (HG.out.below bq1)
 replace HR := hide (HR.out.below bq1)
 have hgw := HB.out.1
 have hD2 : D < w2.heap.size := by omega
 replace HB := hide (HB.out.next bq1)
 clear bq1
 obtain ⟨gx, hg2⟩ : ∃ g, w2.heap.size = g := ⟨_, rfl⟩
 have hgxw : w.heap.size ≤ gx := by omega
 have hnex : gx ≠ D := by omega
 have hgxD : D < gx := by omega
 have hgggx : gx ≠ g := by omega
 clear hgs
 rw [hg2] at HX ⊢
 clear hg2 hD2 hgw
 generalize w2.alloc (.cells #[.int .i64 10, .bool false, .string nm, .string ⟨#[]⟩, .int .i64 0, .slice none 0 0, .int .i64 0] 38) = w3 at *
 go_wp2_with (go_at_call 103; refine (HM.out _ HR.out).mono ?_; rintro e w4 ⟨rfl, hb2⟩; replace HB := hide (HB.out.trans hb2); clear hb2)
 exact ⟨rfl, rfl, HB.out⟩
def GvD (F : Nat) (xs : List Value) (D : Nat) (l : List Tk) (i j : Nat) (d : Dc) : Prop := ∀ W, RP D W (l.drop i) → Calls Tryz.prog F (.pointer (some ⟨D, 0, none⟩) :: xs).toArray W fun e w' => ∃ p c, e = .returned (.agg (decV d p d.2.2.2.2.2.1.length c)) ∧ OwnDd W.heap.size w' (.slice p d.2.2.2.2.2.1.length c) d.2.2.2.2.2.1 ∧ RP D w' (l.drop j) ∧ GB D W w'
theorem Gv.flat {F : Nat} {xs : List Value} {D : Nat} {l : List Tk} {i j : Nat} {d : Dc} (hd : d.2.2.2.2.2.1 = []) (h : Gv F xs D l i j (.agg (decV d none 0 0))) : GvD F xs D l i j d := fun W hW => by
 refine (h W hW).mono ?_
 rintro e w' ⟨rfl, h1, h2⟩
 refine ⟨none, 0, ?_, ?_, h1, h2⟩
 ·rw [hd]; rfl
 ·rw [hd]; exact OwnR.nil _ _
theorem oper15P {D : Nat} {l : List Tk} {m i : Nat} (hL : Ln l m) (hi : i ≤ m) {d : Dc} {at' : Nat} {ok : Bool} (hr : opR l i = (d, at', ok)) : (ok = true ∧ GvD 95 [] D l i at' d) ∨ ((ok = false ∨ at' ≠ m) ∧ Up 95 [] D l i at') := by
 unfold opR at hr
 rcases h : namU l i with _ | _
 ·rw [if_pos h] at hr
  cases hr
  obtain ⟨u, hu⟩ := hL.1 i hi
  exact .inr ⟨.inl rfl, oper_no1 hu h⟩
 rw [if_neg (by rw [h]; decide)] at hr
 rcases h2 : isU l (i + 1) 3 with _ | _
 ·rw [if_pos h2] at hr
  cases hr
  obtain ⟨u, hu⟩ := hL.1 (i + 1) (hL.nam hi h)
  exact .inr ⟨.inl rfl, oper_no2 hu h h2⟩
 rw [if_neg (by rw [h2]; decide)] at hr
 rcases hrs : opU l 17 (i + 1) [] with ⟨RD, RA, RK⟩
 rw [hrs] at hr
 cases hr
 have hm := oper_main (D := D) hL hi h h2 hrs
 by_cases hq : ok = true ∧ isU l at' 4 = false
 ·refine .inl ⟨hq.1, fun W hW => (hm W hW).mono ?_⟩
  rintro e w' (⟨_, _, p, c, rfl, h3, h4, h5⟩ | ⟨h1 | h1, _⟩)
  ·exact ⟨p, c, rfl, h3, h4, h5⟩
  ·rw [hq.1] at h1; cases h1
  ·rw [hq.2] at h1; cases h1
 ·refine .inr ⟨?_, fun W hW => (hm W hW).mono ?_⟩
  ·rcases ok with _ | _
   ·exact .inl rfl
   ·refine .inr (fun e => hq ⟨rfl, ?_⟩)
    rw [e]
    exact hL.2.1 4 (by decide) (by decide)
  ·rintro e w' (⟨h1, h2, _⟩ | ⟨_, rfl, h5⟩)
   ·exact absurd ⟨h1, h2⟩ hq
   ·exact ⟨rfl, h5⟩
end Go.Proofs.YtomppblgalepjaaGreatDoor

