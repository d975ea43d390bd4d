/- Texts of this claim, joined: N6, NR6. -/
import Derived.Test.YtomppblgalepjaaGreatDoorJ12
import Derived.Test.YtomppblgalepjaaGreatDoorJ8
/- Lines of the document (layer 15). -/
namespace Go.Proofs.YtomppblgalepjaaGreatDoor
open Go.RowKit Go.Lib
set_option linter.unusedVariables false
theorem lexB_l15 (l : List Int) : (lexB l).1.length ≤ 800 := by
 unfold lexB
 split
 ·simp
 ·unfold finL
  split
  ·simp
  ·split
   ·simp
   ·simp only [List.length_append, List.length_singleton]; omega
theorem Tryz.infoDc : (Tryz.prog.info? 38).map (fun i => (i.zero, i.size, i.bytes)) = some (some (.agg #[.int .i64 0, .bool false, .string ⟨#[]⟩, .string ⟨#[]⟩, .int .i64 0, .slice none 0 0, .int .i64 0]), 7, 88) := by kernel_rfl
theorem decV_one (d : Dc) (p : Option Addr) (n c : Nat) : ∀ v ∈ (decV d p n c).toList, v.oneCell' = true := fun v hv => by
 simp only [decV, List.mem_cons, List.not_mem_nil, or_false] at hv
 rcases hv with rfl | rfl | rfl | rfl | rfl | rfl | rfl <;> rfl
def rowD (d : Dc) (p : Option Addr) (n c : Nat) : Row 7 := ⟨(decV d p n c).toList, rfl, decV_one d p n c⟩
end Go.Proofs.YtomppblgalepjaaGreatDoor

/- The program's lines, one behind the other (layer 15). -/
namespace Go.Proofs.YtomppblgalepjaaGreatDoor
open Go.RowKit Go.Lib
set_option linter.unusedVariables false
def RDx (D : Nat) : Rf Dc := fun w r d F => RDc w r d F ∧ ∀ g, F g → D < g
theorem RDx.st (D : Nat) : StF (RDx D) := ⟨fun w w' r x F h hk => ⟨RDc.st.1 w w' r x F h.1 hk, h.2⟩, fun w r x F h => RDc.st.2 w r x F h.1⟩
theorem OwnF.flat {D N : Nat} {w : World} {v : Value} {l : List Dc} (h : OwnF 7 (RDx D) 38 N w v l) : OwnF 7 RDc 38 N w v l := by
 obtain ⟨rows, h1, h2, h3⟩ := h
 exact ⟨rows, h1, h2, fun i r x hr hx => by obtain ⟨F, hF, hf⟩ := h3 i r x hr hx; exact ⟨F, hF.1, hf⟩⟩
theorem OwnF.gb {D N : Nat} {w w' : World} {v : Value} {l : List Dc} (h : OwnF 7 (RDx D) 38 N w v l) (hg : GB D w w') (hD : D < N) : OwnF 7 (RDx D) 38 N w' v l := by
 obtain ⟨rows, h1, h2, h3⟩ := h
 refine ⟨rows, h1.gb hg (h1.ne hD), h2, fun i r x hr hx => ?_⟩
 obtain ⟨F, hF, hf⟩ := h3 i r x hr hx
 have hk : ∀ g, F g → w'.heap[g]? = w.heap[g]? := fun g hgF => hg.2.1 g ((RDx.st D).2 _ _ _ _ hF g hgF) (fun e => by have := hF.2 g hgF; omega)
 exact ⟨F, (RDx.st D).1 _ _ _ _ _ hF hk, hf.keep hk⟩
theorem rdx_own {D N : Nat} {w : World} {p : Option Addr} {c : Nat} {d : Dc} {n : Nat} (hn : d.2.2.2.2.2.1.length = n) (h : OwnDd N w (.slice p n c) d.2.2.2.2.2.1) (hD : D < N) : ∃ F, RDx D w (rowD d p n c).1 d F ∧ Fok 0 38 w F := by
 subst hn
 have ho := h.open encDd_len
 obtain ⟨p', c', he, hr, hc⟩ := ho
 cases he
 rcases h.2 with ⟨hv, _⟩ | ⟨g, cap, cur, hv, hb, hg, _⟩
 ·have hp : p = none := by injection hv
  refine ⟨fun _ => False, ⟨⟨_, _, _, rfl, hr, hc, ⟨fun _ h => h.elim, fun _ a ha => by rw [hp] at ha; cases ha⟩⟩, fun _ h => h.elim⟩, fun _ h => h.elim⟩
 ·have hp : p = some ⟨g, 0, none⟩ := by injection hv
  have hs := (Array.getElem?_eq_some_iff.1 hg).1
  refine ⟨fun x => x = g, ⟨⟨_, _, _, rfl, hr, hc, ⟨fun x hx => by rw [hx]; exact hs, fun _ a ha => by rw [hp] at ha; cases ha; rfl⟩⟩, fun x hx => by rw [hx]; omega⟩, fun x hx => .inr ⟨cur, _, (0, 0), by rw [hx]; exact hg, tyDE⟩⟩
theorem OwnF.old2 {D N k : Nat} {w : World} {v : Value} {l : List Dc} (h : OwnF 7 (RDx D) 38 N w v l) (hk : k < D) (hD : D < N) (i : Nat) (x : Value) : OwnF 7 (RDx D) 38 N (w.setCell ⟨k, i, none⟩ x) v l := by
 obtain ⟨rows, h1, h2, h3⟩ := h
 refine ⟨rows, h1.set (fun e => by have := (h1.at e).1; omega) i x, h2, fun j r y hr hy => ?_⟩
 obtain ⟨F, hF, hf⟩ := h3 j r y hr hy
 have hk : ∀ g, F g → (w.setCell ⟨k, i, none⟩ x).heap[g]? = w.heap[g]? := fun g hgF => by
  have e : k ≠ g := by have := hF.2 g hgF; omega
  simp [World.setCell, Array.getElem?_modify, e]
 exact ⟨F, (RDx.st D).1 _ _ _ _ _ hF hk, hf.keep hk⟩
theorem OwnF.lts {D N : Nat} {w : World} {v : Value} {l : List Dc} (h : OwnF 7 (RDx D) 38 N w v l) {g : Nat} (hg : v.ownBlock = some g) : g < w.heap.size := by
 obtain ⟨rows, h1, _⟩ := h
 obtain ⟨_, C, fr, hc⟩ := h1.at hg
 exact (Array.getElem?_eq_some_iff.1 hc).1
theorem OwnF.setX {D N gx : Nat} {w : World} {v : Value} {l : List Dc} {C : Array Value} (h : OwnF 7 (RDx D) 38 N w v l) (hx : BX w gx C 38) (hne : v.ownBlock ≠ some gx) (i : Nat) (x : Value) : OwnF 7 (RDx D) 38 N (w.setCell ⟨gx, i, none⟩ x) v l := by
 obtain ⟨rows, h1, h2, h3⟩ := h
 refine ⟨rows, h1.set hne i x, h2, fun j r y hr hy => ?_⟩
 obtain ⟨F, hF, hf⟩ := h3 j r y hr hy
 have hk : ∀ g, F g → (w.setCell ⟨gx, i, none⟩ x).heap[g]? = w.heap[g]? := fun g hgF => by
  have e : gx ≠ g := fun e => by
   subst e
   rcases hf _ hgF with q | ⟨C', t, fr, q, hn⟩
   ·exact absurd q (Nat.not_lt_zero _)
   ·unfold BX at hx
    rw [hx] at q
    cases q
    exact hn rfl
  simp [World.setCell, Array.getElem?_modify, e]
 exact ⟨F, (RDx.st D).1 _ _ _ _ _ hF hk, hf.keep hk⟩
def LsQ (D : Nat) (w : World) (R : Except Int (List Dc)) (e : Ending) (w' : World) : Prop := (∃ ds v, R = .ok ds ∧ e = .returned v ∧ OwnF 7 (RDx D) 38 w.heap.size w' v ds ∧ ds.length ≤ 800 ∧ GB D w w') ∨ (∃ x, R = .error x ∧ e = .panicked [{ v := noL x, recovered := false }] ∧ GB D w w')
theorem isU5 {l : List Tk} {i : Nat} {t : Tk} (h : l[i]? = some t) : (isU l i 5 = true ∨ isU l i 0 = true) ↔ (t.1 = 5 ∨ t.1 = 0) := by
 rw [isU_at h, isU_at h, decide_eq_true_iff, decide_eq_true_iff]
set_option maxRecDepth 2000 in
set_option maxHeartbeats 8000000 in
theorem lines15 {D : Nat} {l : List Tk} (hE : EndT l) (hTx : Txt0 l) (hNm : Num0 l) (hZ : EndZ l) (h8 : l.length ≤ 800) {R : Except Int (List Dc)} (hR : linX l [] = R) : ∀ w, RP D w l → Calls Tryz.prog 73 #[.pointer (some ⟨D, 0, none⟩)] w (LsQ D w R) := by
 intro w hr
 have hDN : D < w.heap.size := hr.size
 have HR := hide hr
 have HF := hide hR
 have HE : Hid (EndT l ∧ Txt0 l ∧ Num0 l ∧ EndZ l) := ⟨hE, hTx, hNm, hZ⟩
 clear hr hR hE hTx hNm hZ
 go_enter Tryz.func73, Tryz.ntmps73
 go_upto_region 2 with fail
 go_loopw [3, 4, 5, 6] (fun vl _ _ _ wr => ∃ (lt : List Tk) (ds : List Dc), Hid (RP D wr lt) ∧ Hid (EndT lt ∧ Txt0 lt ∧ Num0 lt ∧ EndZ lt) ∧ Hid (linX lt ds = R) ∧ ds.length + lt.length ≤ 800 ∧ Hid (OwnF 7 (RDx D) 38 w.heap.size wr vl ds) ∧ Hid (GB D w wr)) (fun _ _ _ _ wr => lnR D wr)
 case atStart => exact ⟨l, [], HR, HE, HF, by simpa using h8, OwnF.nil _ _, GB.refl D w⟩
 case round =>
  clear HR HF HE h8
  obtain ⟨lt, ds, HR, HE, HF, h8, HO, HB⟩ := hrel
  have hme : lnR D wr = lt.length := HR.out.len
  obtain ⟨pv, cv, hv, _, _⟩ := HO.out.open
  subst hv
  rcases lt with _ | ⟨⟨kd, tx, nn, ln⟩, r⟩
  ·obtain ⟨a, cc, hx, _⟩ := HR.out
   have x0 := hx.cell 0 _ rfl
   rw [List.length_nil] at x0
   clear hx
   go_wp2
   go_ret
   exact .inl ⟨ds, _, HF.out.symm, rfl, HO.out, by omega, HB.out⟩
  ·obtain ⟨b, off, cc, hx, _, _, _, _, _, _, _⟩ := HR.out.head
   have x0 := hx.cell 0 _ rfl
   obtain ⟨nr, hnr⟩ : ∃ nr, r.length = nr := ⟨_, rfl⟩
   rw [hnr] at x0
   have hn0 : (0 : Int) < ((nr + 1 : Nat) : Int) := by omega
   clear hx
   rw [List.length_cons, hnr] at h8 hme
   have HN0 := hide (nextP (D := D) (l := (kd, tx, nn, ln) :: r) (i := 0) rfl)
   obtain ⟨lt, hlt⟩ : ∃ lt, lt = (kd, tx, nn, ln) :: r := ⟨_, rfl⟩
   have hlt1 : lt.drop 1 = r := by rw [hlt]; rfl
   have ht0 : lt[0]? = some (kd, tx, nn, ln) := by rw [hlt]; rfl
   have hlen : lt.length = nr + 1 := by rw [hlt, List.length_cons, hnr]
   rw [← hlt] at HR HE HF HN0
   replace HR : Hid (RP D wr (lt.drop 0)) := HR
   clear hlt hnr
   go_upto_region 3 with fail
   clear x0 hn0
   go_upto_region 4 with (go_at_call 84; refine (HN0.out _ HR.out).mono ?_; rintro e w2 ⟨rfl, hr2, hb2⟩; replace HR := hide hr2; replace HB := hide (HB.out.trans hb2); replace HO := hide (HO.out.gb hb2 hDN); clear hr2 hb2)
   have bq1 := bel1 w2 (.cells #[.int .i64 kd, .string tx, .int .i64 nn, .int .i64 ln] 129)
   have HT : Hid (BX (w2.alloc (.cells #[.int .i64 kd, .string tx, .int .i64 nn, .int .i64 ln] 129)) w2.heap.size #[.int .i64 kd, .string tx, .int .i64 nn, .int .i64 ln] 129) := BX.new w2 _ rfl _ _
   replace HR := hide (HR.out.below bq1)
   replace HO := hide (HO.out.below (RDx.st D) bq1)
   have hgw := HB.out.1
   have hD2 : D < w2.heap.size := by omega
   replace HB := hide (HB.out.next bq1)
   clear bq1
   obtain ⟨gt, hg2⟩ : ∃ g, w2.heap.size = g := ⟨_, rfl⟩
   have hgtw : w.heap.size ≤ gt := by omega
   have hnet : gt ≠ D := by omega
   have hgtD : D < gt := by omega
   rw [hg2] at HT ⊢
   clear hg2 hD2 hgw
   generalize w2.alloc (.cells #[.int .i64 kd, .string tx, .int .i64 nn, .int .i64 ln] 129) = w3 at *
   have t0 := HT.out.cell 0 _ rfl
   have t1 := HT.out.cell 1 _ rfl
   have t2 := HT.out.cell 2 _ rfl
   have t3 := HT.out.cell 3 _ rfl
   have HV : Hid (decide (kd = 5 ∨ kd = 0) = decide (kd = 5 ∨ kd = 0)) := rfl
   by_cases hek : kd = 5 ∨ kd = 0
   ·have HV2 : Hid (decide (kd = 5 ∨ kd = 0) = true) := decide_eq_true hek
    clear HV t1 t2 t3 t0
    have t0 := HT.out.cell 0 _ rfl
    have t1 := HT.out.cell 1 _ rfl
    have t2 := HT.out.cell 2 _ rfl
    have t3 := HT.out.cell 3 _ rfl
    have HF1 : Hid (linX (lt.drop 1) ds = R) := by
     unfold Hid
     rw [← HF.out]
     have hlt2 := drop_at1 ht0
     rw [List.drop_zero] at hlt2
     rcases hek with h5 | h0
     ·exact (by rw [hlt2]; exact (linX_line (t := (kd, tx, nn, ln)) h5 _ ds).symm)
     ·have hz := HE.out.2.2.2 0 _ ht0 h0
      rw [hlt2, linX_end (t := (kd, tx, nn, ln)) h0]
      rw [List.drop_eq_nil_of_le (show lt.length ≤ 1 by omega)]
      rfl
    go_wp2_with (go_at_call 85; refine (ends15 kd tx nn ln _).mono ?_; rintro e w4 ⟨rfl, hb⟩; (try rw [HV2.out]); replace HR := hide (HR.out.below hb); replace HO := hide (HO.out.below (RDx.st D) hb); replace HB := hide (HB.out.next hb); clear hb)
    go_roundw
    case rel => exact ⟨lt.drop 1, ds, HR, ⟨HE.out.1.drop _, HE.out.2.1.drop _, HE.out.2.2.1.drop _, HE.out.2.2.2.drop _⟩, HF1, by rw [List.length_drop, hlen]; omega, HO, HB⟩
    case measure => rw [HR.out.len, List.length_drop, hlen, hme]; omega
   ·have HV2 : Hid (decide (kd = 5 ∨ kd = 0) = false) := decide_eq_false hek
    have hk5 : kd ≠ 5 := fun h => hek (.inl h)
    have hk0 : kd ≠ 0 := fun h => hek (.inr h)
    have hne : lt ≠ [] := fun h => by rw [h] at ht0; cases ht0
    have hL := ln_of HE.out.1 hne HE.out.2.1 HE.out.2.2.1
    have hdr := (List.drop_zero (l := lt)).symm.trans (drop_at1 ht0)
    have h1m : 1 ≤ (lt.takeWhile inU).length := by
     rw [hdr, List.takeWhile_cons, if_pos (by unfold inU; rw [decide_eq_true_iff]; exact ⟨hk0, hk5⟩)]
     simp
    obtain ⟨hdl, hat, hall⟩ := dcl_at HE.out.1 hne
    rcases hdu : dclU lt with ⟨⟨k1, k2, k3, k4, k5, k6, k7⟩, at', ok⟩
    rw [hdu] at hat hdl
    obtain ⟨⟨kdu, txu, nnu, lnu⟩, hu, hiff⟩ := hall at' hat
    rw [isU5 hu] at hiff
    have hau := (List.getElem?_eq_some_iff.1 hu).1
    have HBAD : Hid (ok = false ∨ at' ≠ (lt.takeWhile inU).length → R = .error (lnU lt at')) := fun hb => by
     rw [← HF.out, hdr]
     rw [hdr] at hdl hu hb
     rw [linX_bad (t := (kd, tx, nn, ln)) hk0 hk5 _ hdl.symm hb hu]
     rw [lnU_at hu]
    clear HV t0 t1 t2 t3
    have t0 := HT.out.cell 0 _ rfl
    have t1 := HT.out.cell 1 _ rfl
    have t2 := HT.out.cell 2 _ rfl
    have t3 := HT.out.cell 3 _ rfl
    go_upto_region 5 with (go_at_call 85; refine (ends15 kd tx nn ln _).mono ?_; rintro e w4 ⟨rfl, hb⟩; (try rw [HV2.out]); replace HR := hide (HR.out.below hb); replace HT := hide (HT.out.below hb); replace HO := hide (HO.out.below (RDx.st D) hb); replace HB := hide (HB.out.next hb); clear hb)
    clear t0 t1 t2 t3
    have t0 := HT.out.cell 0 _ rfl
    have t1 := HT.out.cell 1 _ rfl
    have t2 := HT.out.cell 2 _ rfl
    have t3 := HT.out.cell 3 _ rfl
    rcases line15P (D := D) hL h1m ht0 hdu with ⟨hok, hn⟩ | ⟨hb, hn⟩
    ·subst hok
     have HN := hide hn
     clear hn hL hall
     go_upto_region 6 with (go_at_call 86; refine (HN.out _ HR.out).mono ?_; rintro e w5 ⟨p, c, rfl, ho2, hr2, hb2⟩; replace HO := hide (HO.out.gb hb2 hDN); replace HR := hide hr2; have HD := hide (OwnR.mono ho2 HB.out.1); replace HB := hide (HB.out.trans hb2); replace HT := hide (HT.out.gb hb2 hnet); clear hr2 hb2 ho2; unfold decV)
     clear t0 t1 t2 t3 HN
     have hvx0 := fun g h => OwnF.lts HO.out (g := g) h
     have bq1 := bel1 w5 (.cells #[.int .i64 k1, .bool k2, .string k3, .string k4, .int .i64 k5, .slice p k6.length c, .int .i64 k7] 38)
     have HX : Hid (BX (w5.alloc (.cells #[.int .i64 k1, .bool k2, .string k3, .string k4, .int .i64 k5, .slice p k6.length c, .int .i64 k7] 38)) w5.heap.size #[.int .i64 k1, .bool k2, .string k3, .string k4, .int .i64 k5, .slice p k6.length c, .int .i64 k7] 38) := BX.new w5 _ rfl _ _
     replace HT := hide (HT.out.below bq1)
     replace HD := hide (OwnR.below HD.out bq1)
     replace HR := hide (HR.out.below bq1)
     replace HO := hide (HO.out.below (RDx.st D) bq1)
     have hgw := HB.out.1
     have hD2 : D < w5.heap.size := by omega
     replace HB := hide (HB.out.next bq1)
     clear bq1
     obtain ⟨gx, hg2⟩ : ∃ g, w5.heap.size = g := ⟨_, rfl⟩
     have hgxw : w.heap.size ≤ gx := by omega
     have hnex : gx ≠ D := by omega
     have hgxD : D < gx := by omega
     have hvx : (Value.slice pv ds.length cv).ownBlock ≠ some gx := fun e => by have := hvx0 _ e; omega
     clear hvx0
     rw [hg2] at HX ⊢
     clear hg2 hD2 hgw
     generalize w5.alloc (.cells #[.int .i64 k1, .bool k2, .string k3, .string k4, .int .i64 k5, .slice p k6.length c, .int .i64 k7] 38) = w6 at *
     have HN := hide (nextP (D := D) hu)
     go_upto_region 7 with (go_at_call 84; refine (HN.out _ HR.out).mono ?_; rintro e w7 ⟨rfl, hr2, hb2⟩; replace HR := hide hr2; replace HB := hide (HB.out.trans hb2); replace HO := hide (HO.out.gb hb2 hDN); replace HT := hide (HT.out.gb hb2 hnet); replace HX := hide (HX.out.gb hb2 hnex); replace HD := hide (OwnR.gb HD.out hb2 (HD.out.ne hDN)); clear hr2 hb2)
     clear HN
     have bq1 := bel1 w7 (.cells #[.int .i64 kdu, .string txu, .int .i64 nnu, .int .i64 lnu] 129)
     have HU : Hid (BX (w7.alloc (.cells #[.int .i64 kdu, .string txu, .int .i64 nnu, .int .i64 lnu] 129)) w7.heap.size #[.int .i64 kdu, .string txu, .int .i64 nnu, .int .i64 lnu] 129) := BX.new w7 _ rfl _ _
     replace HT := hide (HT.out.below bq1)
     replace HX := hide (HX.out.below bq1)
     replace HD := hide (OwnR.below HD.out bq1)
     replace HR := hide (HR.out.below bq1)
     replace HO := hide (HO.out.below (RDx.st D) bq1)
     have hgw := HB.out.1
     have hD2 : D < w7.heap.size := by omega
     replace HB := hide (HB.out.next bq1)
     clear bq1
     obtain ⟨gu, hg2⟩ : ∃ g, w7.heap.size = g := ⟨_, rfl⟩
     have hguw : w.heap.size ≤ gu := by omega
     have hneu : gu ≠ D := by omega
     have hguD : D < gu := by omega
     rw [hg2] at HU ⊢
     clear hg2 hD2 hgw
     generalize w7.alloc (.cells #[.int .i64 kdu, .string txu, .int .i64 nnu, .int .i64 lnu] 129) = w8 at *
     have u0 := HU.out.cell 0 _ rfl
     have u1 := HU.out.cell 1 _ rfl
     have u2 := HU.out.cell 2 _ rfl
     have u3 := HU.out.cell 3 _ rfl
     by_cases hend : kdu = 5 ∨ kdu = 0
     ·have HV3 : Hid (decide (kdu = 5 ∨ kdu = 0) = true) := decide_eq_true hend
      have hm := hiff.1 hend
      have HF1 : Hid (linX (lt.drop (at' + 1)) (ds ++ [((k1, k2, k3, k4, k5, k6, ln) : Dc)]) = R) := by
       unfold Hid
       rw [← HF.out]
       have q := linX_good (t := (kd, tx, nn, ln)) hk0 hk5 (lt.drop 1) (out := ds) (d := (k1, k2, k3, k4, k5, k6, k7)) (at' := at') (by rw [← hdr]; exact hdl.symm) (by rw [← hdr]; exact hm)
       rw [← hdr] at q
       rw [q, drop_at1 hu]
       show _ = linX _ (ds ++ [((k1, k2, k3, k4, k5, k6, ln) : Dc)])
       rcases hend with h5 | h0
       ·exact (linX_line (t := (kdu, txu, nnu, lnu)) h5 _ _).symm
       ·have hz := HE.out.2.2.2 at' _ hu h0
        rw [linX_end (t := (kdu, txu, nnu, lnu)) h0, List.drop_eq_nil_of_le (show lt.length ≤ at' + 1 by omega)]
        rfl
      clear HBAD hiff hdl hdu hu hdr h1m hat HF
      go_upto_region 9 with (go_at_call 85; refine (ends15 kdu txu nnu lnu _).mono ?_; rintro e w9 ⟨rfl, hb⟩; (try rw [HV3.out]); replace HR := hide (HR.out.below hb); replace HT := hide (HT.out.below hb); replace HX := hide (HX.out.below hb); replace HO := hide (HO.out.below (RDx.st D) hb); replace HB := hide (HB.out.next hb); replace HD := hide (OwnR.below HD.out hb); clear hb)
      clear u0 u1 u2 u3 HU HV3
      have t3 := HT.out.cell 3 _ rfl
      have x6 := HX.out.cell 6 _ rfl
      have y6 := HX.out.free 6
      go_upto_region 10 with fail
      replace HR := hide (HR.out.other hgxD 6 (.int .i64 ln))
      have hod : (Value.slice p k6.length c).ownBlock ≠ some gx := HD.out.off HX.out tyDE
      replace HD := hide (OwnR.set HD.out hod 6 (.int .i64 ln))
      have hx0 := HX.out
      replace HX : Hid (BX (w9.setCell ⟨gx, 6, none⟩ (.int .i64 ln)) gx #[.int .i64 k1, .bool k2, .string k3, .string k4, .int .i64 k5, .slice p k6.length c, .int .i64 ln] 38) := HX.out.set 6 _
      replace HB := hide (HB.out.new gx hgxw 6 (.int .i64 ln))
      replace HO := hide (HO.out.setX hx0 hvx 6 (.int .i64 ln))
      clear hx0 x6 y6 t3 hod
      generalize w9.setCell ⟨gx, 6, none⟩ (.int .i64 ln) = w10 at *
      have hb6 := bel1 w10 (.cells #[.int .i64 k1, .bool k2, .string k3, .string k4, .int .i64 k5, .slice p k6.length c, .int .i64 ln] 38)
      obtain ⟨F, hF, hf⟩ := rdx_own (d := (k1, k2, k3, k4, k5, k6, ln)) rfl (OwnR.below HD.out hb6) hDN
      have HFF := hide hF
      have HFO := hide hf
      clear hF hf
      replace HB := hide (HB.out.next hb6)
      replace HR := hide (HR.out.below hb6)
      have HO2 := hide (HO.out.below (RDx.st D) hb6)
      have hdsl : ds.length + 1 ≤ 1000000 := by omega
      have c0x := HX.out.cell 0 _ rfl
      have c1x := HX.out.cell 1 _ rfl
      have c2x := HX.out.cell 2 _ rfl
      have c3x := HX.out.cell 3 _ rfl
      have c4x := HX.out.cell 4 _ rfl
      have c5x := HX.out.cell 5 _ rfl
      have c6x := HX.out.cell 6 _ rfl
      clear HT HO HD hb6
      go_wp2_with (at_builtin; refine Stop.at ?_)
      unfold Stop
      refine append_ft (RDx.st D) rfl _ _ 22 rfl Tryz.underlying22 Tryz.infoDc rfl (by decide) (by decide) w.heap.size _ ds rfl HO2.out (some ⟨w10.heap.size, 0, none⟩) 1 rfl (fun h => by cases h) (rowD (k1, k2, k3, k4, k5, k6, ln) p k6.length c) (RS.new rv_len w10 _ rfl [rowD (k1, k2, k3, k4, k5, k6, ln) p k6.length c] _ rfl _ _ 1 rfl (by decide)) (k1, k2, k3, k4, k5, k6, ln) F HFF.out HFO.out hdsl HB.out.1 ?_
      intro v9 w11 ho9 hgr hbel
      have bN := hbel _ (Below.refl _ _)
      replace HR := hide (HR.out.belN hDN bN)
      replace HB := hide (HB.out.nextN bN)
      have HO9 := hide ho9
      clear ho9 hgr hbel bN HFF HFO HO2 HX c0x c1x c2x c3x c4x c5x c6x
      have hle : (ds ++ [((k1, k2, k3, k4, k5, k6, ln) : Dc)]).length = ds.length + 1 := by simp
      generalize ds ++ [((k1, k2, k3, k4, k5, k6, ln) : Dc)] = ds2 at *
      have hdd : (lt.drop (at' + 1)).length = nr + 1 - (at' + 1) := by rw [List.length_drop, hlen]
      go_wp2
      go_roundw
      case rel => exact ⟨lt.drop (at' + 1), ds2, HR, ⟨HE.out.1.drop _, HE.out.2.1.drop _, HE.out.2.2.1.drop _, HE.out.2.2.2.drop _⟩, HF1, by rw [hdd, hle]; omega, HO9, HB⟩
      case measure => rw [HR.out.len, hdd, hme]; omega
     ·have HV3 : Hid (decide (kdu = 5 ∨ kdu = 0) = false) := decide_eq_false hend
      have HRE := hide (HBAD.out (.inr (fun e => hend (hiff.2 e))))
      have HLN : Hid (lnU lt at' = lnu) := lnU_at hu
      clear HBAD hiff hdl hdu hu hdr h1m hat HF HO
      go_wp2_with (go_at_call 85; refine (ends15 kdu txu nnu lnu _).mono ?_; rintro e w9 ⟨rfl, hb⟩; (try rw [HV3.out]); replace HR := hide (HR.out.below hb); replace HU := hide (HU.out.below hb); replace HB := hide (HB.out.next hb); have u3b := HU.out.cell 3 _ rfl; clear hb)
      exact ⟨rfl, .inr ⟨lnu, by rw [HRE.out, HLN.out], rfl, HB.out⟩⟩
    ·have HN := hide hn
     have HRE := hide (HBAD.out hb)
     clear hn hL hall HBAD hb hiff hdl hdu hu hdr h1m hat HF
     go_wp2_with (go_at_call 86; refine (HN.out _ HR.out).mono ?_; rintro e w5 ⟨rfl, hb2⟩; replace HB := hide (HB.out.trans hb2); clear hb2)
     exact ⟨rfl, .inr ⟨_, HRE.out, rfl, HB.out⟩⟩
end Go.Proofs.YtomppblgalepjaaGreatDoor

