/- Texts of this claim, joined: HP4. -/
import Derived.Test.YtkbbegbpkndebaaGreatJ33
import Derived.Test.YtkbbegbpkndebaaGreatJ40
/- copyRaw of layer 13 (the program). -/
namespace Go.Proofs.YtkbbegbpkndebaaGreat
open Go.RowKit Go.Lib
set_option linter.unusedVariables false
structure SzW (r : Rw) : Prop where
 s : ∀ l ∈ r.1, l.length ≤ 100000 ∧ ∀ x ∈ l, x.2.1.length ≤ 1000000 ∧ x.2.2.length ≤ 1000000
 t : ∀ l ∈ r.2.1, l.length ≤ 100000
 a : ∀ l ∈ r.2.2.1, l.length ≤ 100000
 g : ∀ l ∈ r.2.2.2, l.length ≤ 100000
def SD (w : World) (gB gR : Nat) (C : Array Value) (T T' : TypeId) (W : World) : Prop := Below w.heap.size w W ∧ BX W gB C T ∧ ∃ p1 n1 c1 p2 n2 c2 p3 n3 c3 p4 n4 c4, BX W gR #[.slice p1 n1 c1, .slice p2 n2 c2, .slice p3 n3 c3, .slice p4 n4 c4] T'
theorem SD.next {w : World} {gB gR : Nat} {C : Array Value} {T T' : TypeId} {W W' : World} (h : SD w gB gR C T T' W) (hb : Below W.heap.size W W') : SD w gB gR C T T' W' := by
 obtain ⟨h1, h2, p1, n1, c1, p2, n2, c2, p3, n3, c3, p4, n4, c4, h3⟩ := h
 exact ⟨bel_next h1 hb, h2.below hb, p1, n1, c1, p2, n2, c2, p3, n3, c3, p4, n4, c4, h3.below hb⟩
theorem SD.put {w : World} {gB gR : Nat} {C : Array Value} {T T' : TypeId} {W : World} (h : SD w gB gR C T T' W) (hne : gR ≠ gB) (hge : w.heap.size ≤ gR) (p1 : Option Addr) (n1 c1 : Nat) (p2 : Option Addr) (n2 c2 : Nat) (p3 : Option Addr) (n3 c3 : Nat) (p4 : Option Addr) (n4 c4 : Nat) : SD w gB gR C T T' ((((W.setCell ⟨gR, 0, none⟩ (.slice p1 n1 c1)).setCell ⟨gR, 1, none⟩ (.slice p2 n2 c2)).setCell ⟨gR, 2, none⟩ (.slice p3 n3 c3)).setCell ⟨gR, 3, none⟩ (.slice p4 n4 c4)) := by
 obtain ⟨h1, h2, _, _, _, _, _, _, _, _, _, _, _, _, h3⟩ := h
 refine ⟨(((h1.setCell (p := ⟨gR, 0, none⟩) hge _).setCell (p := ⟨gR, 1, none⟩) hge _).setCell (p := ⟨gR, 2, none⟩) hge _).setCell (p := ⟨gR, 3, none⟩) hge _, (((h2.other hne 0 _).other hne 1 _).other hne 2 _).other hne 3 _, p1, n1, c1, p2, n2, c2, p3, n3, c3, p4, n4, c4, h3.put4 _ _ _ _⟩
set_option maxRecDepth 2000 in
set_option maxHeartbeats 8000000 in
theorem copyRaw13 (p1 : Option Addr) (n1 c1 : Nat) (p2 : Option Addr) (n2 c2 : Nat) (p3 : Option Addr) (n3 c3 : Nat) (p4 : Option Addr) (n4 c4 : Nat) (r : Rw) (w : World) (hR : RM w p1 n1 c1 p2 n2 c2 p3 n3 c3 p4 n4 c4 r) (hn : n1 ≤ 1000 ∧ n2 ≤ 1000 ∧ n3 ≤ 1000 ∧ n4 ≤ 1000) (hz : SzW r) : Calls Tryz.prog 50 #[.agg #[.slice p1 n1 c1, .slice p2 n2 c2, .slice p3 n3 c3, .slice p4 n4 c4]] w fun e w' => ∃ q1 d1 q2 d2 q3 d3 q4 d4, e = .returned (.agg #[.slice q1 n1 d1, .slice q2 n2 d2, .slice q3 n3 d3, .slice q4 n4 d4]) ∧ OO w.heap.size w' q1 n1 d1 q2 n2 d2 q3 n3 d3 q4 n4 d4 r ∧ Below w.heap.size w w' := by
 have HR := hide hR
 have HZ := hide hz
 have HS0 : Hid (SD w w.heap.size (w.heap.size + 1) #[.slice p1 n1 c1, .slice p2 n2 c2, .slice p3 n3 c3, .slice p4 n4 c4] 31 31 ((w.alloc (.cells #[.slice p1 n1 c1, .slice p2 n2 c2, .slice p3 n3 c3, .slice p4 n4 c4] 31)).alloc (.cells #[.slice none 0 0, .slice none 0 0, .slice none 0 0, .slice none 0 0] 31))) := ⟨bel2 _ _ _, (BX.new w _ rfl _ _).alloc _, none, 0, 0, none, 0, 0, none, 0, 0, none, 0, 0, BX.new (w.alloc (.cells #[.slice p1 n1 c1, .slice p2 n2 c2, .slice p3 n3 c3, .slice p4 n4 c4] 31)) _ (by simp) _ _⟩
 have hne : w.heap.size + 1 ≠ w.heap.size := by omega
 have hge : w.heap.size ≤ w.heap.size + 1 := by omega
 clear hR hz
 go_enter Tryz.func50, Tryz.ntmps50
 go_wp2
 generalize (w.alloc (.cells #[.slice p1 n1 c1, .slice p2 n2 c2, .slice p3 n3 c3, .slice p4 n4 c4] 31)).alloc (.cells #[.slice none 0 0, .slice none 0 0, .slice none 0 0, .slice none 0 0] 31) = u at *
 refine wp_region_held_drew (S := SD w w.heap.size (w.heap.size + 1) #[.slice p1 n1 c1, .slice p2 n2 c2, .slice p3 n3 c3, .slice p4 n4 c4] 31 31) (by kernel_rfl) (SD.next HS0.out (Below.refl _ _).drew) (fun hS0 => ?_)
 refine tkJ 0 3 hS0 ?_; simp only [ly]
 refine tkL 1 4 hS0 ?h ?_; case h => (intro W hW; have e0 := hW.2.1.cell 0 _ rfl; have e1 := hW.2.1.cell 1 _ rfl; have e2 := hW.2.1.cell 2 _ rfl; have e3 := hW.2.1.cell 3 _ rfl; clear hW; go_simp; try rfl); simp only [ly]
 refine tkJ 3 6 hS0 ?_; simp only [ly]
 refine tkL 4 7 hS0 ?h ?_; case h => (intro W hW; have e0 := hW.2.1.cell 0 _ rfl; have e1 := hW.2.1.cell 1 _ rfl; have e2 := hW.2.1.cell 2 _ rfl; have e3 := hW.2.1.cell 3 _ rfl; clear hW; go_simp; try rfl); simp only [ly]
 refine tkJ 6 9 hS0 ?_; simp only [ly]
 refine tkL 7 10 hS0 ?h ?_; case h => (intro W hW; have e0 := hW.2.1.cell 0 _ rfl; have e1 := hW.2.1.cell 1 _ rfl; have e2 := hW.2.1.cell 2 _ rfl; have e3 := hW.2.1.cell 3 _ rfl; clear hW; go_simp; try rfl); simp only [ly]
 refine tkJ 9 12 hS0 ?_; simp only [ly]
 refine tkL 10 13 hS0 ?h ?_; case h => (intro W hW; have e0 := hW.2.1.cell 0 _ rfl; have e1 := hW.2.1.cell 1 _ rfl; have e2 := hW.2.1.cell 2 _ rfl; have e3 := hW.2.1.cell 3 _ rfl; clear hW; go_simp; try rfl); simp only [ly]
 refine wpAnyH_ready (rs := [2]) (by kernel_rfl) (by simp) ?_
 refine AllReadyH.cons rfl (fun K hK => ?_) AllReadyH.nil
 go_simp
 refine (copySets13 p1 n1 c1 r.1 _ (HR.out.s.below kept_ent hS0.1) hn.1 HZ.out.s).mono ?_
 rintro e w1 ⟨q1, d1, hs1, rfl, ho, hr, hb⟩
 have O1 := hide (OH.mono ho hS0.1.size)
 have E1 := hide hr
 clear ho hr
 refine hK.out _ _ ?hs9 (fun hS1 => ?_)
 case hs9 => exact SD.next hS0 hb
 clear hK K
 try simp only [ly]
 refine wpAnyH_ready (rs := [5]) (by kernel_rfl) (by simp) ?_
 refine AllReadyH.cons rfl (fun K hK => ?_) AllReadyH.nil
 go_simp
 refine (copyLC p2 n2 c2 r.2.1 _ (HR.out.t.below kept_cel hS1.1) hn.2.1 HZ.out.t).mono ?_
 rintro e w2 ⟨q2, d2, hs2, rfl, ho, hr, _, hb⟩
 have O2 := hide (OH.mono ho hS1.1.size)
 have E2 := hide hr
 clear ho hr
 replace O1 := hide (O1.out.below hb)
 replace E1 := hide (E1.out.below kept_ent hb)
 refine hK.out _ _ ?hs10 (fun hS2 => ?_)
 case hs10 => exact SD.next hS1 hb
 clear hK K
 try simp only [ly]
 refine wpAnyH_ready (rs := [8]) (by kernel_rfl) (by simp) ?_
 refine AllReadyH.cons rfl (fun K hK => ?_) AllReadyH.nil
 go_simp
 refine (copyLA p3 n3 c3 r.2.2.1 _ (HR.out.a.below kept_acc hS2.1) hn.2.2.1 HZ.out.a).mono ?_
 rintro e w3 ⟨q3, d3, hs3, rfl, ho, hr, _, hb⟩
 have O3 := hide (OH.mono ho hS2.1.size)
 have E3 := hide hr
 clear ho hr
 replace O1 := hide (O1.out.below hb)
 replace E1 := hide (E1.out.below kept_ent hb)
 replace O2 := hide (O2.out.below hb)
 replace E2 := hide (E2.out.below kept_cel hb)
 refine hK.out _ _ ?hs11 (fun hS3 => ?_)
 case hs11 => exact SD.next hS2 hb
 clear hK K
 try simp only [ly]
 refine wpAnyH_ready (rs := [11]) (by kernel_rfl) (by simp) ?_
 refine AllReadyH.cons rfl (fun K hK => ?_) AllReadyH.nil
 go_simp
 refine (copyLN p4 n4 c4 r.2.2.2 _ (HR.out.g.below kept_not hS3.1) hn.2.2.2 HZ.out.g).mono ?_
 rintro e w4 ⟨q4, d4, hs4, rfl, ho, hr, _, hb⟩
 have O4 := hide (OH.mono ho hS3.1.size)
 have E4 := hide hr
 clear ho hr
 replace O1 := hide (O1.out.below hb)
 replace E1 := hide (E1.out.below kept_ent hb)
 replace O2 := hide (O2.out.below hb)
 replace E2 := hide (E2.out.below kept_cel hb)
 replace O3 := hide (O3.out.below hb)
 replace E3 := hide (E3.out.below kept_acc hb)
 refine hK.out _ _ ?hs12 (fun hS4 => ?_)
 case hs12 => exact SD.next hS3 hb
 clear hK K
 try simp only [ly]
 refine tkJ 12 15 hS4 ?_; simp only [ly]
 refine wpAnyH_ready (rs := [13]) (by kernel_rfl) (by simp) ?_
 refine AllReadyH.cons rfl (fun K hK => ?_) AllReadyH.nil
 obtain ⟨a1, b1, e1, a2, b2, e2, a3, b3, e3, a4, b4, e4, hXR⟩ := hS4.2.2
 have f0 := hXR.cell 0 _ rfl
 have f1 := hXR.cell 1 _ rfl
 have f2 := hXR.cell 2 _ rfl
 have f3 := hXR.cell 3 _ rfl
 have z0 := hXR.free 0
 have z1 := hXR.free 1
 have z2 := hXR.free 2
 have z3 := hXR.free 3
 go_simp
 refine hK.out _ _ ?hs14 (fun hS5 => ?_)
 case hs14 => exact SD.put hS4 hne hge q1 n1 d1 q2 n2 d2 q3 n3 d3 q4 n4 d4
 clear hK K
 try simp only [ly]
 refine wpAnyH_done (by kernel_rfl) ?_ _
 have hY := hXR.put4 (.slice q1 n1 d1) (.slice q2 n2 d2) (.slice q3 n3 d3) (.slice q4 n4 d4)
 have HOO : Hid (OO w.heap.size w4 q1 n1 d1 q2 n2 d2 q3 n3 d3 q4 n4 d4 r) := ⟨hs1, hs2, hs3, hs4, ⟨O1.out, O2.out, O3.out, O4.out⟩, ⟨E1.out, E2.out, E3.out, E4.out⟩⟩
 have HOP := hide (OO.put4 HOO.out hXR (by decide) (by decide) (by decide) (by decide) q1 n1 d1 q2 n2 d2 q3 n3 d3 q4 n4 d4)
 go_wp2
 refine bodyPost_ret (results_cell_row rfl _ _ _ _ _ _ _ rfl hY Tryz.underlying31 rfl (by kernel_rfl)) rfl ?_
 exact ⟨q1, d1, q2, d2, q3, d3, q4, d4, rfl, HOP.out, hS5.1⟩
end Go.Proofs.YtkbbegbpkndebaaGreat

