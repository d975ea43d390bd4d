/- Texts of this claim, joined: H10. -/
import Derived.Test.YtkbbegbpkndebaaGreatJ14
/- Raw copied, as the document's functions of layer 13 do it. -/
namespace Go.Proofs.YtkbbegbpkndebaaGreat
open Go.RowKit Go.Lib
set_option linter.unusedVariables false
theorem OH.put4 {T : TypeId} {N : Nat} {w : World} {v : Value} {hs : List Hd} {g : Nat} {x y z u : Value} {t : TypeId} (h : OH T N w v hs) (hx : BX w g #[x, y, z, u] t) (hne : T ≠ t) (a b c d : Value) : OH T N ((((w.setCell ⟨g, 0, none⟩ a).setCell ⟨g, 1, none⟩ b).setCell ⟨g, 2, none⟩ c).setCell ⟨g, 3, none⟩ d) v hs :=
 (((h.put hx hne 0 a).put (hx.set 0 a) hne 1 b).put ((hx.set 0 a).set 1 b) hne 2 c).put (((hx.set 0 a).set 1 b).set 2 c) hne 3 d
def GeN (N g : Nat) (w : World) : Prop := N ≤ g
theorem GeN.below {N g : Nat} {w w' : World} (h : GeN N g w) (hb : Below w.heap.size w w') : GeN N g w' := h
set_option maxRecDepth 4000 in
set_option maxHeartbeats 16000000 in
theorem copied_raw (p1 : Option Addr) (n1 c1 : Nat) (p2 : Option Addr) (n2 c2 : Nat) (p3 : Option Addr) (n3 c3 : Nat) (p4 : Option Addr) (n4 c4 : Nat) (hs1 hs2 hs3 hs4 : List Hd) (w : World) (h1 : RS encH 1 w p1 n1 hs1) (h2 : RS encH 1 w p2 n2 hs2) (h3 : RS encH 1 w p3 n3 hs3) (h4 : RS encH 1 w p4 n4 hs4) (k1 : CP p1 n1 c1) (k2 : CP p2 n2 c2) (k3 : CP p3 n3 c3) (k4 : CP p4 n4 c4) (hn : n1 ≤ 1000 ∧ n2 ≤ 1000 ∧ n3 ≤ 1000 ∧ n4 ≤ 1000) : Calls Tryz.prog 60 #[.agg #[.slice p1 n1 c1, .slice p2 n2 c2, .slice p3 n3 c3, .slice p4 n4 c4]] w fun e w' => ∃ q1 d1 q2 d2 q3 d3 q4 d4, e = .returned (.agg #[.slice q1 n1 d1, .slice q2 n2 d2, .slice q3 n3 d3, .slice q4 n4 d4]) ∧ OW w.heap.size w' q1 n1 d1 q2 n2 d2 q3 n3 d3 q4 n4 d4 hs1 hs2 hs3 hs4 ∧ Below w.heap.size w w' := by
 have R1 := hide h1
 have K1 := hide k1.2.2
 have L1 := hide h1.1
 have R2 := hide h2
 have K2 := hide k2.2.2
 have L2 := hide h2.1
 have R3 := hide h3
 have K3 := hide k3.2.2
 have L3 := hide h3.1
 have R4 := hide h4
 have K4 := hide k4.2.2
 have L4 := hide h4.1
 have HS0 : Hid (SC w w.heap.size (w.heap.size + 1) #[.slice p1 n1 c1, .slice p2 n2 c2, .slice p3 n3 c3, .slice p4 n4 c4] 31 31 ((w.alloc (.cells #[.slice p1 n1 c1, .slice p2 n2 c2, .slice p3 n3 c3, .slice p4 n4 c4] 31)).alloc (.cells #[.slice none 0 0, .slice none 0 0, .slice none 0 0, .slice none 0 0] 31))) := ⟨bel2 _ _ _, (BX.new w _ rfl _ _).alloc _, _, _, _, _, BX.new (w.alloc (.cells #[.slice p1 n1 c1, .slice p2 n2 c2, .slice p3 n3 c3, .slice p4 n4 c4] 31)) _ (by simp) _ _⟩
 have hne : w.heap.size + 1 ≠ w.heap.size := by omega
 have hge : w.heap.size ≤ w.heap.size + 1 := by omega
 clear h1 h2 h3 h4 k1 k2 k3 k4
 go_enter Tryz.func60, Tryz.ntmps60
 go_wp2
 generalize (w.alloc (.cells #[.slice p1 n1 c1, .slice p2 n2 c2, .slice p3 n3 c3, .slice p4 n4 c4] 31)).alloc (.cells #[.slice none 0 0, .slice none 0 0, .slice none 0 0, .slice none 0 0] 31) = u at *
 refine wp_region_held_drew (S := SC w w.heap.size (w.heap.size + 1) #[.slice p1 n1 c1, .slice p2 n2 c2, .slice p3 n3 c3, .slice p4 n4 c4] 31 31) (by kernel_rfl) (HS0.out.next (Below.refl _ _).drew) (fun hS0 => ?_)
 refine tkJ 1 4 hS0 ?_; simp only [ly]
 refine tkL 2 5 hS0 ?h ?_; case h => (intro W hW; have e0 := hW.2.1.cell 0 _ rfl; have e1 := hW.2.1.cell 1 _ rfl; have e2 := hW.2.1.cell 2 _ rfl; have e3 := hW.2.1.cell 3 _ rfl; clear hW; go_simp; try rfl); simp only [ly]
 refine tkJ 5 8 hS0 ?_; simp only [ly]
 refine tkL 6 9 hS0 ?h ?_; case h => (intro W hW; have e0 := hW.2.1.cell 0 _ rfl; have e1 := hW.2.1.cell 1 _ rfl; have e2 := hW.2.1.cell 2 _ rfl; have e3 := hW.2.1.cell 3 _ rfl; clear hW; go_simp; try rfl); simp only [ly]
 refine tkJ 9 12 hS0 ?_; simp only [ly]
 refine tkL 10 13 hS0 ?h ?_; case h => (intro W hW; have e0 := hW.2.1.cell 0 _ rfl; have e1 := hW.2.1.cell 1 _ rfl; have e2 := hW.2.1.cell 2 _ rfl; have e3 := hW.2.1.cell 3 _ rfl; clear hW; go_simp; try rfl); simp only [ly]
 refine tkJ 13 16 hS0 ?_; simp only [ly]
 refine tkL 14 17 hS0 ?h ?_; case h => (intro W hW; have e0 := hW.2.1.cell 0 _ rfl; have e1 := hW.2.1.cell 1 _ rfl; have e2 := hW.2.1.cell 2 _ rfl; have e3 := hW.2.1.cell 3 _ rfl; clear hW; go_simp; try rfl); simp only [ly]
 refine share_intro _ _ _ _ _ _ _ _ _ (fun Z => ∀ listed : Array Bool, listed = #[true, true, true, true, true, true, true, true, true, true, true, true, true, true, true, true, false, false] → ∀ (g1 : Nat) (q1 : Option Addr) (d1 : Nat) (g2 : Nat) (q2 : Option Addr) (d2 : Nat) (g3 : Nat) (q3 : Option Addr) (d3 : Nat) (g4 : Nat) (q4 : Option Addr) (d4 : Nat) (W : World), SC w w.heap.size (w.heap.size + 1) #[.slice p1 n1 c1, .slice p2 n2 c2, .slice p3 n3 c3, .slice p4 n4 c4] 31 31 W → Hid (OH 74 w.heap.size W (.slice q1 n1 d1) hs1) → Hid (OH 76 w.heap.size W (.slice q2 n2 d2) hs2) → Hid (OH 78 w.heap.size W (.slice q3 n3 d3) hs3) → Hid (OH 80 w.heap.size W (.slice q4 n4 d4) hs4) → Z 2 listed ⟨#[.agg #[.slice p1 n1 c1, .slice p2 n2 c2, .slice p3 n3 c3, .slice p4 n4 c4], .pointer (some ⟨w.heap.size, 0, none⟩), .pointer (some ⟨w.heap.size + 1, 0, none⟩), .slice (some ⟨g1, 0, none⟩) 0 0, .pointer (some ⟨w.heap.size, 0, none⟩), .slice p1 n1 c1, .slice q1 n1 d1, .slice (some ⟨g2, 0, none⟩) 0 0, .pointer (some ⟨w.heap.size, 1, none⟩), .slice p2 n2 c2, .slice q2 n2 d2, .slice (some ⟨g3, 0, none⟩) 0 0, .pointer (some ⟨w.heap.size, 2, none⟩), .slice p3 n3 c3, .slice q3 n3 d3, .slice (some ⟨g4, 0, none⟩) 0 0, .pointer (some ⟨w.heap.size, 3, none⟩), .slice p4 n4 c4, .slice q4 n4 d4, undef], []⟩ W) ?_ (fun H11111111 => ?_)
 ·intro listed hl g1 q1 d1 g2 q2 d2 g3 q3 d3 g4 q4 d4 W hS A1 A2 A3 A4
  subst hl
  have hS0 := hS
  refine tkJ 16 19 hS0 ?_; simp only [ly]
  refine wpAnyH_ready (rs := [17]) (by kernel_rfl) (by simp) ?_
  refine AllReadyH.cons rfl (fun K hK => ?_) AllReadyH.nil
  obtain ⟨x0, x1, x2, x3, hXR⟩ := hS0.2.2
  have e0 := hXR.cell 0 _ rfl
  have e1 := hXR.cell 1 _ rfl
  have e2 := hXR.cell 2 _ rfl
  have e3 := hXR.cell 3 _ rfl
  have z0 := hXR.free 0
  have z1 := hXR.free 1
  have z2 := hXR.free 2
  have z3 := hXR.free 3
  go_simp
  refine hK.out _ _ ?hs10 (fun hS1 => ?_)
  case hs10 => exact SC.put hS0 hne hge _ _ _ _
  clear hK K
  try simp only [List.setIfInBounds_toArray, List.set_cons_zero, List.set_cons_succ]
  refine wpAnyH_done (by kernel_rfl) ?_ _
  have hY := hXR.put4 (.slice q1 n1 d1) (.slice q2 n2 d2) (.slice q3 n3 d3) (.slice q4 n4 d4)
  go_wp2
  refine bodyPost_ret (results_cell_row rfl _ _ _ _ _ _ _ rfl hY Tryz.underlying31 rfl (by kernel_rfl)) rfl ?_
  exact ⟨q1, d1, q2, d2, q3, d3, q4, d4, rfl, ⟨A1.out.put4 hXR (by decide) _ _ _ _, A2.out.put4 hXR (by decide) _ _ _ _, A3.out.put4 hXR (by decide) _ _ _ _, A4.out.put4 hXR (by decide) _ _ _ _⟩, hS1.1⟩
 refine share_intro _ _ _ _ _ _ _ _ _ (fun Z => ∀ listed : Array Bool, listed = #[true, true, true, true, true, true, true, true, true, true, true, true, true, true, true, false, false, false] → ∀ (g1 : Nat) (q1 : Option Addr) (d1 : Nat) (g2 : Nat) (q2 : Option Addr) (d2 : Nat) (g3 : Nat) (q3 : Option Addr) (d3 : Nat) (g4 : Nat) (W : World), SC w w.heap.size (w.heap.size + 1) #[.slice p1 n1 c1, .slice p2 n2 c2, .slice p3 n3 c3, .slice p4 n4 c4] 31 31 W → Hid (OH 74 w.heap.size W (.slice q1 n1 d1) hs1) → Hid (OH 76 w.heap.size W (.slice q2 n2 d2) hs2) → Hid (OH 78 w.heap.size W (.slice q3 n3 d3) hs3) → Hid (BX W g4 #[] 80) → Hid (GeN w.heap.size g4 W) → Z 3 listed ⟨#[.agg #[.slice p1 n1 c1, .slice p2 n2 c2, .slice p3 n3 c3, .slice p4 n4 c4], .pointer (some ⟨w.heap.size, 0, none⟩), .pointer (some ⟨w.heap.size + 1, 0, none⟩), .slice (some ⟨g1, 0, none⟩) 0 0, .pointer (some ⟨w.heap.size, 0, none⟩), .slice p1 n1 c1, .slice q1 n1 d1, .slice (some ⟨g2, 0, none⟩) 0 0, .pointer (some ⟨w.heap.size, 1, none⟩), .slice p2 n2 c2, .slice q2 n2 d2, .slice (some ⟨g3, 0, none⟩) 0 0, .pointer (some ⟨w.heap.size, 2, none⟩), .slice p3 n3 c3, .slice q3 n3 d3, .slice (some ⟨g4, 0, none⟩) 0 0, .pointer (some ⟨w.heap.size, 3, none⟩), .slice p4 n4 c4, undef, undef], []⟩ W) ?_ (fun H11111110 => ?_)
 ·intro listed hl g1 q1 d1 g2 q2 d2 g3 q3 d3 g4 W hS A1 A2 A3 B4 G4
  subst hl
  refine wpAnyH_ready (rs := [15]) (by kernel_rfl) (by simp) ?_
  refine AllReadyH.cons rfl (fun K hK => ?_) AllReadyH.nil
  rw [if_pos (by kernel_rfl)]
  refine append_fresh _ _ 29 rfl Tryz.underlying29 Tryz.infoH4 w.heap.size g4 hs4 rfl B4.out G4.out p4 n4 c4 rfl K4.out (R4.out.below hS.1) (by have h9 := L4.out; omega) hS.1.size ?_
  intro q4 d4 w' ho5 hb
  have A4 := hide ho5
  clear ho5
  change K (Act.put _ (some 18) _) _
  refine hK.out _ _ ?hs11 (fun hS2 => ?_)
  case hs11 => exact SC.next hS hb
  try simp only [ly]
  exact H11111111 _ (by kernel_rfl) g1 q1 d1 g2 q2 d2 g3 q3 d3 g4 q4 d4 _ hS2 (hide (A1.out.below hb)) (hide (A2.out.below hb)) (hide (A3.out.below hb)) A4
 refine share_intro _ _ _ _ _ _ _ _ _ (fun Z => ∀ listed : Array Bool, listed = #[true, true, true, true, true, true, true, true, true, true, true, true, false, true, true, false, false, false] → ∀ (g1 : Nat) (q1 : Option Addr) (d1 : Nat) (g2 : Nat) (q2 : Option Addr) (d2 : Nat) (g3 : Nat) (q3 : Option Addr) (d3 : Nat) (W : World), SC w w.heap.size (w.heap.size + 1) #[.slice p1 n1 c1, .slice p2 n2 c2, .slice p3 n3 c3, .slice p4 n4 c4] 31 31 W → Hid (OH 74 w.heap.size W (.slice q1 n1 d1) hs1) → Hid (OH 76 w.heap.size W (.slice q2 n2 d2) hs2) → Hid (OH 78 w.heap.size W (.slice q3 n3 d3) hs3) → Z 4 listed ⟨#[.agg #[.slice p1 n1 c1, .slice p2 n2 c2, .slice p3 n3 c3, .slice p4 n4 c4], .pointer (some ⟨w.heap.size, 0, none⟩), .pointer (some ⟨w.heap.size + 1, 0, none⟩), .slice (some ⟨g1, 0, none⟩) 0 0, .pointer (some ⟨w.heap.size, 0, none⟩), .slice p1 n1 c1, .slice q1 n1 d1, .slice (some ⟨g2, 0, none⟩) 0 0, .pointer (some ⟨w.heap.size, 1, none⟩), .slice p2 n2 c2, .slice q2 n2 d2, .slice (some ⟨g3, 0, none⟩) 0 0, .pointer (some ⟨w.heap.size, 2, none⟩), .slice p3 n3 c3, .slice q3 n3 d3, undef, .pointer (some ⟨w.heap.size, 3, none⟩), .slice p4 n4 c4, undef, undef], []⟩ W) ?_ (fun H11111100 => ?_)
 ·intro listed hl g1 q1 d1 g2 q2 d2 g3 q3 d3 W hS A1 A2 A3
  subst hl
  refine wpAnyH_ready (rs := [12]) (by kernel_rfl) (by simp) ?_
  refine AllReadyH.cons rfl (fun K hK => ?_) AllReadyH.nil
  go_simp
  have B4 : Hid (BX (W.alloc (.cells #[] 80)) W.heap.size #[] 80) := BX.new W _ rfl _ _
  have G4 : Hid (GeN w.heap.size W.heap.size (W.alloc (.cells #[] 80))) := hS.1.size
  have hb := bel1 W (.cells #[] 80)
  refine hK.out _ _ ?hs12 (fun hS2 => ?_)
  case hs12 => exact SC.next hS hb
  try simp only [List.setIfInBounds_toArray, List.set_cons_zero, List.set_cons_succ]
  exact H11111110 _ (by kernel_rfl) g1 q1 d1 g2 q2 d2 g3 q3 d3 _ _ hS2 (hide (A1.out.below hb)) (hide (A2.out.below hb)) (hide (A3.out.below hb)) B4 G4
 refine share_intro _ _ _ _ _ _ _ _ _ (fun Z => ∀ listed : Array Bool, listed = #[true, true, true, true, true, true, true, true, true, true, true, false, true, true, true, false, false, false] → ∀ (g1 : Nat) (q1 : Option Addr) (d1 : Nat) (g2 : Nat) (q2 : Option Addr) (d2 : Nat) (g3 : Nat) (g4 : Nat) (W : World), SC w w.heap.size (w.heap.size + 1) #[.slice p1 n1 c1, .slice p2 n2 c2, .slice p3 n3 c3, .slice p4 n4 c4] 31 31 W → Hid (OH 74 w.heap.size W (.slice q1 n1 d1) hs1) → Hid (OH 76 w.heap.size W (.slice q2 n2 d2) hs2) → Hid (BX W g3 #[] 78) → Hid (GeN w.heap.size g3 W) → Hid (BX W g4 #[] 80) → Hid (GeN w.heap.size g4 W) → Z 4 listed ⟨#[.agg #[.slice p1 n1 c1, .slice p2 n2 c2, .slice p3 n3 c3, .slice p4 n4 c4], .pointer (some ⟨w.heap.size, 0, none⟩), .pointer (some ⟨w.heap.size + 1, 0, none⟩), .slice (some ⟨g1, 0, none⟩) 0 0, .pointer (some ⟨w.heap.size, 0, none⟩), .slice p1 n1 c1, .slice q1 n1 d1, .slice (some ⟨g2, 0, none⟩) 0 0, .pointer (some ⟨w.heap.size, 1, none⟩), .slice p2 n2 c2, .slice q2 n2 d2, .slice (some ⟨g3, 0, none⟩) 0 0, .pointer (some ⟨w.heap.size, 2, none⟩), .slice p3 n3 c3, undef, .slice (some ⟨g4, 0, none⟩) 0 0, .pointer (some ⟨w.heap.size, 3, none⟩), .slice p4 n4 c4, undef, undef], []⟩ W) ?_ (fun H11111010 => ?_)
 ·intro listed hl g1 q1 d1 g2 q2 d2 g3 g4 W hS A1 A2 B3 G3 B4 G4
  subst hl
  refine wpAnyH_ready (rs := [11]) (by kernel_rfl) (by simp) ?_
  refine AllReadyH.cons rfl (fun K hK => ?_) AllReadyH.nil
  rw [if_pos (by kernel_rfl)]
  refine append_fresh _ _ 28 rfl Tryz.underlying28 Tryz.infoH3 w.heap.size g3 hs3 rfl B3.out G3.out p3 n3 c3 rfl K3.out (R3.out.below hS.1) (by have h9 := L3.out; omega) hS.1.size ?_
  intro q3 d3 w' ho5 hb
  have A3 := hide ho5
  clear ho5
  change K (Act.put _ (some 14) _) _
  refine hK.out _ _ ?hs13 (fun hS2 => ?_)
  case hs13 => exact SC.next hS hb
  try simp only [ly]
  exact H11111110 _ (by kernel_rfl) g1 q1 d1 g2 q2 d2 g3 q3 d3 g4 _ hS2 (hide (A1.out.below hb)) (hide (A2.out.below hb)) A3 (hide (B4.out.below hb)) (hide (G4.out.below hb))
 refine share_intro _ _ _ _ _ _ _ _ _ (fun Z => ∀ listed : Array Bool, listed = #[true, true, true, true, true, true, true, true, true, true, true, false, false, true, true, false, false, false] → ∀ (g1 : Nat) (q1 : Option Addr) (d1 : Nat) (g2 : Nat) (q2 : Option Addr) (d2 : Nat) (g3 : Nat) (W : World), SC w w.heap.size (w.heap.size + 1) #[.slice p1 n1 c1, .slice p2 n2 c2, .slice p3 n3 c3, .slice p4 n4 c4] 31 31 W → Hid (OH 74 w.heap.size W (.slice q1 n1 d1) hs1) → Hid (OH 76 w.heap.size W (.slice q2 n2 d2) hs2) → Hid (BX W g3 #[] 78) → Hid (GeN w.heap.size g3 W) → Z 5 listed ⟨#[.agg #[.slice p1 n1 c1, .slice p2 n2 c2, .slice p3 n3 c3, .slice p4 n4 c4], .pointer (some ⟨w.heap.size, 0, none⟩), .pointer (some ⟨w.heap.size + 1, 0, none⟩), .slice (some ⟨g1, 0, none⟩) 0 0, .pointer (some ⟨w.heap.size, 0, none⟩), .slice p1 n1 c1, .slice q1 n1 d1, .slice (some ⟨g2, 0, none⟩) 0 0, .pointer (some ⟨w.heap.size, 1, none⟩), .slice p2 n2 c2, .slice q2 n2 d2, .slice (some ⟨g3, 0, none⟩) 0 0, .pointer (some ⟨w.heap.size, 2, none⟩), .slice p3 n3 c3, undef, undef, .pointer (some ⟨w.heap.size, 3, none⟩), .slice p4 n4 c4, undef, undef], []⟩ W) ?_ (fun H11111000 => ?_)
 ·intro listed hl g1 q1 d1 g2 q2 d2 g3 W hS A1 A2 B3 G3
  subst hl
  refine wpAnyH_ready (rs := [11, 12]) (by kernel_rfl) (by simp) ?_
  refine AllReadyH.cons rfl (fun K hK => ?_) (AllReadyH.cons rfl (fun K hK => ?_) AllReadyH.nil)
  ·rw [if_pos (by kernel_rfl)]
   refine append_fresh _ _ 28 rfl Tryz.underlying28 Tryz.infoH3 w.heap.size g3 hs3 rfl B3.out G3.out p3 n3 c3 rfl K3.out (R3.out.below hS.1) (by have h9 := L3.out; omega) hS.1.size ?_
   intro q3 d3 w' ho5 hb
   have A3 := hide ho5
   clear ho5
   change K (Act.put _ (some 14) _) _
   refine hK.out _ _ ?hs14 (fun hS2 => ?_)
   case hs14 => exact SC.next hS hb
   try simp only [ly]
   exact H11111100 _ (by kernel_rfl) g1 q1 d1 g2 q2 d2 g3 q3 d3 _ hS2 (hide (A1.out.below hb)) (hide (A2.out.below hb)) A3
  ·go_simp
   have B4 : Hid (BX (W.alloc (.cells #[] 80)) W.heap.size #[] 80) := BX.new W _ rfl _ _
   have G4 : Hid (GeN w.heap.size W.heap.size (W.alloc (.cells #[] 80))) := hS.1.size
   have hb := bel1 W (.cells #[] 80)
   refine hK.out _ _ ?hs15 (fun hS2 => ?_)
   case hs15 => exact SC.next hS hb
   try simp only [List.setIfInBounds_toArray, List.set_cons_zero, List.set_cons_succ]
   exact H11111010 _ (by kernel_rfl) g1 q1 d1 g2 q2 d2 g3 _ _ hS2 (hide (A1.out.below hb)) (hide (A2.out.below hb)) (hide (B3.out.below hb)) (hide (G3.out.below hb)) B4 G4
 refine share_intro _ _ _ _ _ _ _ _ _ (fun Z => ∀ listed : Array Bool, listed = #[true, true, true, true, true, true, true, true, false, true, true, false, true, true, true, false, false, false] → ∀ (g1 : Nat) (q1 : Option Addr) (d1 : Nat) (g2 : Nat) (q2 : Option Addr) (d2 : Nat) (g4 : Nat) (W : World), SC w w.heap.size (w.heap.size + 1) #[.slice p1 n1 c1, .slice p2 n2 c2, .slice p3 n3 c3, .slice p4 n4 c4] 31 31 W → Hid (OH 74 w.heap.size W (.slice q1 n1 d1) hs1) → Hid (OH 76 w.heap.size W (.slice q2 n2 d2) hs2) → Hid (BX W g4 #[] 80) → Hid (GeN w.heap.size g4 W) → Z 5 listed ⟨#[.agg #[.slice p1 n1 c1, .slice p2 n2 c2, .slice p3 n3 c3, .slice p4 n4 c4], .pointer (some ⟨w.heap.size, 0, none⟩), .pointer (some ⟨w.heap.size + 1, 0, none⟩), .slice (some ⟨g1, 0, none⟩) 0 0, .pointer (some ⟨w.heap.size, 0, none⟩), .slice p1 n1 c1, .slice q1 n1 d1, .slice (some ⟨g2, 0, none⟩) 0 0, .pointer (some ⟨w.heap.size, 1, none⟩), .slice p2 n2 c2, .slice q2 n2 d2, undef, .pointer (some ⟨w.heap.size, 2, none⟩), .slice p3 n3 c3, undef, .slice (some ⟨g4, 0, none⟩) 0 0, .pointer (some ⟨w.heap.size, 3, none⟩), .slice p4 n4 c4, undef, undef], []⟩ W) ?_ (fun H11110010 => ?_)
 ·intro listed hl g1 q1 d1 g2 q2 d2 g4 W hS A1 A2 B4 G4
  subst hl
  refine wpAnyH_ready (rs := [8]) (by kernel_rfl) (by simp) ?_
  refine AllReadyH.cons rfl (fun K hK => ?_) AllReadyH.nil
  go_simp
  have B3 : Hid (BX (W.alloc (.cells #[] 78)) W.heap.size #[] 78) := BX.new W _ rfl _ _
  have G3 : Hid (GeN w.heap.size W.heap.size (W.alloc (.cells #[] 78))) := hS.1.size
  have hb := bel1 W (.cells #[] 78)
  refine hK.out _ _ ?hs16 (fun hS2 => ?_)
  case hs16 => exact SC.next hS hb
  try simp only [List.setIfInBounds_toArray, List.set_cons_zero, List.set_cons_succ]
  exact H11111010 _ (by kernel_rfl) g1 q1 d1 g2 q2 d2 _ g4 _ hS2 (hide (A1.out.below hb)) (hide (A2.out.below hb)) B3 G3 (hide (B4.out.below hb)) (hide (G4.out.below hb))
 refine share_intro _ _ _ _ _ _ _ _ _ (fun Z => ∀ listed : Array Bool, listed = #[true, true, true, true, true, true, true, false, true, true, true, false, true, true, true, false, false, false] → ∀ (g1 : Nat) (q1 : Option Addr) (d1 : Nat) (g2 : Nat) (g3 : Nat) (g4 : Nat) (W : World), SC w w.heap.size (w.heap.size + 1) #[.slice p1 n1 c1, .slice p2 n2 c2, .slice p3 n3 c3, .slice p4 n4 c4] 31 31 W → Hid (OH 74 w.heap.size W (.slice q1 n1 d1) hs1) → Hid (BX W g2 #[] 76) → Hid (GeN w.heap.size g2 W) → Hid (BX W g3 #[] 78) → Hid (GeN w.heap.size g3 W) → Hid (BX W g4 #[] 80) → Hid (GeN w.heap.size g4 W) → Z 5 listed ⟨#[.agg #[.slice p1 n1 c1, .slice p2 n2 c2, .slice p3 n3 c3, .slice p4 n4 c4], .pointer (some ⟨w.heap.size, 0, none⟩), .pointer (some ⟨w.heap.size + 1, 0, none⟩), .slice (some ⟨g1, 0, none⟩) 0 0, .pointer (some ⟨w.heap.size, 0, none⟩), .slice p1 n1 c1, .slice q1 n1 d1, .slice (some ⟨g2, 0, none⟩) 0 0, .pointer (some ⟨w.heap.size, 1, none⟩), .slice p2 n2 c2, undef, .slice (some ⟨g3, 0, none⟩) 0 0, .pointer (some ⟨w.heap.size, 2, none⟩), .slice p3 n3 c3, undef, .slice (some ⟨g4, 0, none⟩) 0 0, .pointer (some ⟨w.heap.size, 3, none⟩), .slice p4 n4 c4, undef, undef], []⟩ W) ?_ (fun H11101010 => ?_)
 ·intro listed hl g1 q1 d1 g2 g3 g4 W hS A1 B2 G2 B3 G3 B4 G4
  subst hl
  refine wpAnyH_ready (rs := [7]) (by kernel_rfl) (by simp) ?_
  refine AllReadyH.cons rfl (fun K hK => ?_) AllReadyH.nil
  rw [if_pos (by kernel_rfl)]
  refine append_fresh _ _ 27 rfl Tryz.underlying27 Tryz.infoH2 w.heap.size g2 hs2 rfl B2.out G2.out p2 n2 c2 rfl K2.out (R2.out.below hS.1) (by have h9 := L2.out; omega) hS.1.size ?_
  intro q2 d2 w' ho5 hb
  have A2 := hide ho5
  clear ho5
  change K (Act.put _ (some 10) _) _
  refine hK.out _ _ ?hs17 (fun hS2 => ?_)
  case hs17 => exact SC.next hS hb
  try simp only [ly]
  exact H11111010 _ (by kernel_rfl) g1 q1 d1 g2 q2 d2 g3 g4 _ hS2 (hide (A1.out.below hb)) A2 (hide (B3.out.below hb)) (hide (G3.out.below hb)) (hide (B4.out.below hb)) (hide (G4.out.below hb))
 refine share_intro _ _ _ _ _ _ _ _ _ (fun Z => ∀ listed : Array Bool, listed = #[true, true, true, true, true, true, true, true, false, true, true, false, false, true, true, false, false, false] → ∀ (g1 : Nat) (q1 : Option Addr) (d1 : Nat) (g2 : Nat) (q2 : Option Addr) (d2 : Nat) (W : World), SC w w.heap.size (w.heap.size + 1) #[.slice p1 n1 c1, .slice p2 n2 c2, .slice p3 n3 c3, .slice p4 n4 c4] 31 31 W → Hid (OH 74 w.heap.size W (.slice q1 n1 d1) hs1) → Hid (OH 76 w.heap.size W (.slice q2 n2 d2) hs2) → Z 6 listed ⟨#[.agg #[.slice p1 n1 c1, .slice p2 n2 c2, .slice p3 n3 c3, .slice p4 n4 c4], .pointer (some ⟨w.heap.size, 0, none⟩), .pointer (some ⟨w.heap.size + 1, 0, none⟩), .slice (some ⟨g1, 0, none⟩) 0 0, .pointer (some ⟨w.heap.size, 0, none⟩), .slice p1 n1 c1, .slice q1 n1 d1, .slice (some ⟨g2, 0, none⟩) 0 0, .pointer (some ⟨w.heap.size, 1, none⟩), .slice p2 n2 c2, .slice q2 n2 d2, undef, .pointer (some ⟨w.heap.size, 2, none⟩), .slice p3 n3 c3, undef, undef, .pointer (some ⟨w.heap.size, 3, none⟩), .slice p4 n4 c4, undef, undef], []⟩ W) ?_ (fun H11110000 => ?_)
 ·intro listed hl g1 q1 d1 g2 q2 d2 W hS A1 A2
  subst hl
  refine wpAnyH_ready (rs := [8, 12]) (by kernel_rfl) (by simp) ?_
  refine AllReadyH.cons rfl (fun K hK => ?_) (AllReadyH.cons rfl (fun K hK => ?_) AllReadyH.nil)
  ·go_simp
   have B3 : Hid (BX (W.alloc (.cells #[] 78)) W.heap.size #[] 78) := BX.new W _ rfl _ _
   have G3 : Hid (GeN w.heap.size W.heap.size (W.alloc (.cells #[] 78))) := hS.1.size
   have hb := bel1 W (.cells #[] 78)
   refine hK.out _ _ ?hs18 (fun hS2 => ?_)
   case hs18 => exact SC.next hS hb
   try simp only [List.setIfInBounds_toArray, List.set_cons_zero, List.set_cons_succ]
   exact H11111000 _ (by kernel_rfl) g1 q1 d1 g2 q2 d2 _ _ hS2 (hide (A1.out.below hb)) (hide (A2.out.below hb)) B3 G3
  ·go_simp
   have B4 : Hid (BX (W.alloc (.cells #[] 80)) W.heap.size #[] 80) := BX.new W _ rfl _ _
   have G4 : Hid (GeN w.heap.size W.heap.size (W.alloc (.cells #[] 80))) := hS.1.size
   have hb := bel1 W (.cells #[] 80)
   refine hK.out _ _ ?hs19 (fun hS2 => ?_)
   case hs19 => exact SC.next hS hb
   try simp only [List.setIfInBounds_toArray, List.set_cons_zero, List.set_cons_succ]
   exact H11110010 _ (by kernel_rfl) g1 q1 d1 g2 q2 d2 _ _ hS2 (hide (A1.out.below hb)) (hide (A2.out.below hb)) B4 G4
 refine share_intro _ _ _ _ _ _ _ _ _ (fun Z => ∀ listed : Array Bool, listed = #[true, true, true, true, true, true, true, false, true, true, true, false, false, true, true, false, false, false] → ∀ (g1 : Nat) (q1 : Option Addr) (d1 : Nat) (g2 : Nat) (g3 : Nat) (W : World), SC w w.heap.size (w.heap.size + 1) #[.slice p1 n1 c1, .slice p2 n2 c2, .slice p3 n3 c3, .slice p4 n4 c4] 31 31 W → Hid (OH 74 w.heap.size W (.slice q1 n1 d1) hs1) → Hid (BX W g2 #[] 76) → Hid (GeN w.heap.size g2 W) → Hid (BX W g3 #[] 78) → Hid (GeN w.heap.size g3 W) → Z 6 listed ⟨#[.agg #[.slice p1 n1 c1, .slice p2 n2 c2, .slice p3 n3 c3, .slice p4 n4 c4], .pointer (some ⟨w.heap.size, 0, none⟩), .pointer (some ⟨w.heap.size + 1, 0, none⟩), .slice (some ⟨g1, 0, none⟩) 0 0, .pointer (some ⟨w.heap.size, 0, none⟩), .slice p1 n1 c1, .slice q1 n1 d1, .slice (some ⟨g2, 0, none⟩) 0 0, .pointer (some ⟨w.heap.size, 1, none⟩), .slice p2 n2 c2, undef, .slice (some ⟨g3, 0, none⟩) 0 0, .pointer (some ⟨w.heap.size, 2, none⟩), .slice p3 n3 c3, undef, undef, .pointer (some ⟨w.heap.size, 3, none⟩), .slice p4 n4 c4, undef, undef], []⟩ W) ?_ (fun H11101000 => ?_)
 ·intro listed hl g1 q1 d1 g2 g3 W hS A1 B2 G2 B3 G3
  subst hl
  refine wpAnyH_ready (rs := [7, 12]) (by kernel_rfl) (by simp) ?_
  refine AllReadyH.cons rfl (fun K hK => ?_) (AllReadyH.cons rfl (fun K hK => ?_) AllReadyH.nil)
  ·rw [if_pos (by kernel_rfl)]
   refine append_fresh _ _ 27 rfl Tryz.underlying27 Tryz.infoH2 w.heap.size g2 hs2 rfl B2.out G2.out p2 n2 c2 rfl K2.out (R2.out.below hS.1) (by have h9 := L2.out; omega) hS.1.size ?_
   intro q2 d2 w' ho5 hb
   have A2 := hide ho5
   clear ho5
   change K (Act.put _ (some 10) _) _
   refine hK.out _ _ ?hs20 (fun hS2 => ?_)
   case hs20 => exact SC.next hS hb
   try simp only [ly]
   exact H11111000 _ (by kernel_rfl) g1 q1 d1 g2 q2 d2 g3 _ hS2 (hide (A1.out.below hb)) A2 (hide (B3.out.below hb)) (hide (G3.out.below hb))
  ·go_simp
   have B4 : Hid (BX (W.alloc (.cells #[] 80)) W.heap.size #[] 80) := BX.new W _ rfl _ _
   have G4 : Hid (GeN w.heap.size W.heap.size (W.alloc (.cells #[] 80))) := hS.1.size
   have hb := bel1 W (.cells #[] 80)
   refine hK.out _ _ ?hs21 (fun hS2 => ?_)
   case hs21 => exact SC.next hS hb
   try simp only [List.setIfInBounds_toArray, List.set_cons_zero, List.set_cons_succ]
   exact H11101010 _ (by kernel_rfl) g1 q1 d1 g2 g3 _ _ hS2 (hide (A1.out.below hb)) (hide (B2.out.below hb)) (hide (G2.out.below hb)) (hide (B3.out.below hb)) (hide (G3.out.below hb)) B4 G4
 refine share_intro _ _ _ _ _ _ _ _ _ (fun Z => ∀ listed : Array Bool, listed = #[true, true, true, true, true, true, true, false, false, true, true, false, true, true, true, false, false, false] → ∀ (g1 : Nat) (q1 : Option Addr) (d1 : Nat) (g2 : Nat) (g4 : Nat) (W : World), SC w w.heap.size (w.heap.size + 1) #[.slice p1 n1 c1, .slice p2 n2 c2, .slice p3 n3 c3, .slice p4 n4 c4] 31 31 W → Hid (OH 74 w.heap.size W (.slice q1 n1 d1) hs1) → Hid (BX W g2 #[] 76) → Hid (GeN w.heap.size g2 W) → Hid (BX W g4 #[] 80) → Hid (GeN w.heap.size g4 W) → Z 6 listed ⟨#[.agg #[.slice p1 n1 c1, .slice p2 n2 c2, .slice p3 n3 c3, .slice p4 n4 c4], .pointer (some ⟨w.heap.size, 0, none⟩), .pointer (some ⟨w.heap.size + 1, 0, none⟩), .slice (some ⟨g1, 0, none⟩) 0 0, .pointer (some ⟨w.heap.size, 0, none⟩), .slice p1 n1 c1, .slice q1 n1 d1, .slice (some ⟨g2, 0, none⟩) 0 0, .pointer (some ⟨w.heap.size, 1, none⟩), .slice p2 n2 c2, undef, undef, .pointer (some ⟨w.heap.size, 2, none⟩), .slice p3 n3 c3, undef, .slice (some ⟨g4, 0, none⟩) 0 0, .pointer (some ⟨w.heap.size, 3, none⟩), .slice p4 n4 c4, undef, undef], []⟩ W) ?_ (fun H11100010 => ?_)
 ·intro listed hl g1 q1 d1 g2 g4 W hS A1 B2 G2 B4 G4
  subst hl
  refine wpAnyH_ready (rs := [7, 8]) (by kernel_rfl) (by simp) ?_
  refine AllReadyH.cons rfl (fun K hK => ?_) (AllReadyH.cons rfl (fun K hK => ?_) AllReadyH.nil)
  ·rw [if_pos (by kernel_rfl)]
   refine append_fresh _ _ 27 rfl Tryz.underlying27 Tryz.infoH2 w.heap.size g2 hs2 rfl B2.out G2.out p2 n2 c2 rfl K2.out (R2.out.below hS.1) (by have h9 := L2.out; omega) hS.1.size ?_
   intro q2 d2 w' ho5 hb
   have A2 := hide ho5
   clear ho5
   change K (Act.put _ (some 10) _) _
   refine hK.out _ _ ?hs22 (fun hS2 => ?_)
   case hs22 => exact SC.next hS hb
   try simp only [ly]
   exact H11110010 _ (by kernel_rfl) g1 q1 d1 g2 q2 d2 g4 _ hS2 (hide (A1.out.below hb)) A2 (hide (B4.out.below hb)) (hide (G4.out.below hb))
  ·go_simp
   have B3 : Hid (BX (W.alloc (.cells #[] 78)) W.heap.size #[] 78) := BX.new W _ rfl _ _
   have G3 : Hid (GeN w.heap.size W.heap.size (W.alloc (.cells #[] 78))) := hS.1.size
   have hb := bel1 W (.cells #[] 78)
   refine hK.out _ _ ?hs23 (fun hS2 => ?_)
   case hs23 => exact SC.next hS hb
   try simp only [List.setIfInBounds_toArray, List.set_cons_zero, List.set_cons_succ]
   exact H11101010 _ (by kernel_rfl) g1 q1 d1 g2 _ g4 _ hS2 (hide (A1.out.below hb)) (hide (B2.out.below hb)) (hide (G2.out.below hb)) B3 G3 (hide (B4.out.below hb)) (hide (G4.out.below hb))
 refine share_intro _ _ _ _ _ _ _ _ _ (fun Z => ∀ listed : Array Bool, listed = #[true, true, true, true, false, true, true, false, true, true, true, false, true, true, true, false, false, false] → ∀ (g1 : Nat) (q1 : Option Addr) (d1 : Nat) (g3 : Nat) (g4 : Nat) (W : World), SC w w.heap.size (w.heap.size + 1) #[.slice p1 n1 c1, .slice p2 n2 c2, .slice p3 n3 c3, .slice p4 n4 c4] 31 31 W → Hid (OH 74 w.heap.size W (.slice q1 n1 d1) hs1) → Hid (BX W g3 #[] 78) → Hid (GeN w.heap.size g3 W) → Hid (BX W g4 #[] 80) → Hid (GeN w.heap.size g4 W) → Z 6 listed ⟨#[.agg #[.slice p1 n1 c1, .slice p2 n2 c2, .slice p3 n3 c3, .slice p4 n4 c4], .pointer (some ⟨w.heap.size, 0, none⟩), .pointer (some ⟨w.heap.size + 1, 0, none⟩), .slice (some ⟨g1, 0, none⟩) 0 0, .pointer (some ⟨w.heap.size, 0, none⟩), .slice p1 n1 c1, .slice q1 n1 d1, undef, .pointer (some ⟨w.heap.size, 1, none⟩), .slice p2 n2 c2, undef, .slice (some ⟨g3, 0, none⟩) 0 0, .pointer (some ⟨w.heap.size, 2, none⟩), .slice p3 n3 c3, undef, .slice (some ⟨g4, 0, none⟩) 0 0, .pointer (some ⟨w.heap.size, 3, none⟩), .slice p4 n4 c4, undef, undef], []⟩ W) ?_ (fun H11001010 => ?_)
 ·intro listed hl g1 q1 d1 g3 g4 W hS A1 B3 G3 B4 G4
  subst hl
  refine wpAnyH_ready (rs := [4]) (by kernel_rfl) (by simp) ?_
  refine AllReadyH.cons rfl (fun K hK => ?_) AllReadyH.nil
  go_simp
  have B2 : Hid (BX (W.alloc (.cells #[] 76)) W.heap.size #[] 76) := BX.new W _ rfl _ _
  have G2 : Hid (GeN w.heap.size W.heap.size (W.alloc (.cells #[] 76))) := hS.1.size
  have hb := bel1 W (.cells #[] 76)
  refine hK.out _ _ ?hs24 (fun hS2 => ?_)
  case hs24 => exact SC.next hS hb
  try simp only [List.setIfInBounds_toArray, List.set_cons_zero, List.set_cons_succ]
  exact H11101010 _ (by kernel_rfl) g1 q1 d1 _ g3 g4 _ hS2 (hide (A1.out.below hb)) B2 G2 (hide (B3.out.below hb)) (hide (G3.out.below hb)) (hide (B4.out.below hb)) (hide (G4.out.below hb))
 refine share_intro _ _ _ _ _ _ _ _ _ (fun Z => ∀ listed : Array Bool, listed = #[true, true, true, false, true, true, true, false, true, true, true, false, true, true, true, false, false, false] → ∀ (g1 : Nat) (g2 : Nat) (g3 : Nat) (g4 : Nat) (W : World), SC w w.heap.size (w.heap.size + 1) #[.slice p1 n1 c1, .slice p2 n2 c2, .slice p3 n3 c3, .slice p4 n4 c4] 31 31 W → Hid (BX W g1 #[] 74) → Hid (GeN w.heap.size g1 W) → Hid (BX W g2 #[] 76) → Hid (GeN w.heap.size g2 W) → Hid (BX W g3 #[] 78) → Hid (GeN w.heap.size g3 W) → Hid (BX W g4 #[] 80) → Hid (GeN w.heap.size g4 W) → Z 6 listed ⟨#[.agg #[.slice p1 n1 c1, .slice p2 n2 c2, .slice p3 n3 c3, .slice p4 n4 c4], .pointer (some ⟨w.heap.size, 0, none⟩), .pointer (some ⟨w.heap.size + 1, 0, none⟩), .slice (some ⟨g1, 0, none⟩) 0 0, .pointer (some ⟨w.heap.size, 0, none⟩), .slice p1 n1 c1, undef, .slice (some ⟨g2, 0, none⟩) 0 0, .pointer (some ⟨w.heap.size, 1, none⟩), .slice p2 n2 c2, undef, .slice (some ⟨g3, 0, none⟩) 0 0, .pointer (some ⟨w.heap.size, 2, none⟩), .slice p3 n3 c3, undef, .slice (some ⟨g4, 0, none⟩) 0 0, .pointer (some ⟨w.heap.size, 3, none⟩), .slice p4 n4 c4, undef, undef], []⟩ W) ?_ (fun H10101010 => ?_)
 ·intro listed hl g1 g2 g3 g4 W hS B1 G1 B2 G2 B3 G3 B4 G4
  subst hl
  refine wpAnyH_ready (rs := [3]) (by kernel_rfl) (by simp) ?_
  refine AllReadyH.cons rfl (fun K hK => ?_) AllReadyH.nil
  rw [if_pos (by kernel_rfl)]
  refine append_fresh _ _ 26 rfl Tryz.underlying26 Tryz.infoH1 w.heap.size g1 hs1 rfl B1.out G1.out p1 n1 c1 rfl K1.out (R1.out.below hS.1) (by have h9 := L1.out; omega) hS.1.size ?_
  intro q1 d1 w' ho5 hb
  have A1 := hide ho5
  clear ho5
  change K (Act.put _ (some 6) _) _
  refine hK.out _ _ ?hs25 (fun hS2 => ?_)
  case hs25 => exact SC.next hS hb
  try simp only [ly]
  exact H11101010 _ (by kernel_rfl) g1 q1 d1 g2 g3 g4 _ hS2 A1 (hide (B2.out.below hb)) (hide (G2.out.below hb)) (hide (B3.out.below hb)) (hide (G3.out.below hb)) (hide (B4.out.below hb)) (hide (G4.out.below hb))
 refine share_intro _ _ _ _ _ _ _ _ _ (fun Z => ∀ listed : Array Bool, listed = #[true, true, true, true, true, true, true, false, false, true, true, false, false, true, true, false, false, false] → ∀ (g1 : Nat) (q1 : Option Addr) (d1 : Nat) (g2 : Nat) (W : World), SC w w.heap.size (w.heap.size + 1) #[.slice p1 n1 c1, .slice p2 n2 c2, .slice p3 n3 c3, .slice p4 n4 c4] 31 31 W → Hid (OH 74 w.heap.size W (.slice q1 n1 d1) hs1) → Hid (BX W g2 #[] 76) → Hid (GeN w.heap.size g2 W) → Z 7 listed ⟨#[.agg #[.slice p1 n1 c1, .slice p2 n2 c2, .slice p3 n3 c3, .slice p4 n4 c4], .pointer (some ⟨w.heap.size, 0, none⟩), .pointer (some ⟨w.heap.size + 1, 0, none⟩), .slice (some ⟨g1, 0, none⟩) 0 0, .pointer (some ⟨w.heap.size, 0, none⟩), .slice p1 n1 c1, .slice q1 n1 d1, .slice (some ⟨g2, 0, none⟩) 0 0, .pointer (some ⟨w.heap.size, 1, none⟩), .slice p2 n2 c2, undef, undef, .pointer (some ⟨w.heap.size, 2, none⟩), .slice p3 n3 c3, undef, undef, .pointer (some ⟨w.heap.size, 3, none⟩), .slice p4 n4 c4, undef, undef], []⟩ W) ?_ (fun H11100000 => ?_)
 ·intro listed hl g1 q1 d1 g2 W hS A1 B2 G2
  subst hl
  refine wpAnyH_ready (rs := [7, 8, 12]) (by kernel_rfl) (by simp) ?_
  refine AllReadyH.cons rfl (fun K hK => ?_) (AllReadyH.cons rfl (fun K hK => ?_) (AllReadyH.cons rfl (fun K hK => ?_) AllReadyH.nil))
  ·rw [if_pos (by kernel_rfl)]
   refine append_fresh _ _ 27 rfl Tryz.underlying27 Tryz.infoH2 w.heap.size g2 hs2 rfl B2.out G2.out p2 n2 c2 rfl K2.out (R2.out.below hS.1) (by have h9 := L2.out; omega) hS.1.size ?_
   intro q2 d2 w' ho5 hb
   have A2 := hide ho5
   clear ho5
   change K (Act.put _ (some 10) _) _
   refine hK.out _ _ ?hs26 (fun hS2 => ?_)
   case hs26 => exact SC.next hS hb
   try simp only [ly]
   exact H11110000 _ (by kernel_rfl) g1 q1 d1 g2 q2 d2 _ hS2 (hide (A1.out.below hb)) A2
  ·go_simp
   have B3 : Hid (BX (W.alloc (.cells #[] 78)) W.heap.size #[] 78) := BX.new W _ rfl _ _
   have G3 : Hid (GeN w.heap.size W.heap.size (W.alloc (.cells #[] 78))) := hS.1.size
   have hb := bel1 W (.cells #[] 78)
   refine hK.out _ _ ?hs27 (fun hS2 => ?_)
   case hs27 => exact SC.next hS hb
   try simp only [List.setIfInBounds_toArray, List.set_cons_zero, List.set_cons_succ]
   exact H11101000 _ (by kernel_rfl) g1 q1 d1 g2 _ _ hS2 (hide (A1.out.below hb)) (hide (B2.out.below hb)) (hide (G2.out.below hb)) B3 G3
  ·go_simp
   have B4 : Hid (BX (W.alloc (.cells #[] 80)) W.heap.size #[] 80) := BX.new W _ rfl _ _
   have G4 : Hid (GeN w.heap.size W.heap.size (W.alloc (.cells #[] 80))) := hS.1.size
   have hb := bel1 W (.cells #[] 80)
   refine hK.out _ _ ?hs28 (fun hS2 => ?_)
   case hs28 => exact SC.next hS hb
   try simp only [List.setIfInBounds_toArray, List.set_cons_zero, List.set_cons_succ]
   exact H11100010 _ (by kernel_rfl) g1 q1 d1 g2 _ _ hS2 (hide (A1.out.below hb)) (hide (B2.out.below hb)) (hide (G2.out.below hb)) B4 G4
 refine share_intro _ _ _ _ _ _ _ _ _ (fun Z => ∀ listed : Array Bool, listed = #[true, true, true, true, false, true, true, false, true, true, true, false, false, true, true, false, false, false] → ∀ (g1 : Nat) (q1 : Option Addr) (d1 : Nat) (g3 : Nat) (W : World), SC w w.heap.size (w.heap.size + 1) #[.slice p1 n1 c1, .slice p2 n2 c2, .slice p3 n3 c3, .slice p4 n4 c4] 31 31 W → Hid (OH 74 w.heap.size W (.slice q1 n1 d1) hs1) → Hid (BX W g3 #[] 78) → Hid (GeN w.heap.size g3 W) → Z 7 listed ⟨#[.agg #[.slice p1 n1 c1, .slice p2 n2 c2, .slice p3 n3 c3, .slice p4 n4 c4], .pointer (some ⟨w.heap.size, 0, none⟩), .pointer (some ⟨w.heap.size + 1, 0, none⟩), .slice (some ⟨g1, 0, none⟩) 0 0, .pointer (some ⟨w.heap.size, 0, none⟩), .slice p1 n1 c1, .slice q1 n1 d1, undef, .pointer (some ⟨w.heap.size, 1, none⟩), .slice p2 n2 c2, undef, .slice (some ⟨g3, 0, none⟩) 0 0, .pointer (some ⟨w.heap.size, 2, none⟩), .slice p3 n3 c3, undef, undef, .pointer (some ⟨w.heap.size, 3, none⟩), .slice p4 n4 c4, undef, undef], []⟩ W) ?_ (fun H11001000 => ?_)
 ·intro listed hl g1 q1 d1 g3 W hS A1 B3 G3
  subst hl
  refine wpAnyH_ready (rs := [4, 12]) (by kernel_rfl) (by simp) ?_
  refine AllReadyH.cons rfl (fun K hK => ?_) (AllReadyH.cons rfl (fun K hK => ?_) AllReadyH.nil)
  ·go_simp
   have B2 : Hid (BX (W.alloc (.cells #[] 76)) W.heap.size #[] 76) := BX.new W _ rfl _ _
   have G2 : Hid (GeN w.heap.size W.heap.size (W.alloc (.cells #[] 76))) := hS.1.size
   have hb := bel1 W (.cells #[] 76)
   refine hK.out _ _ ?hs29 (fun hS2 => ?_)
   case hs29 => exact SC.next hS hb
   try simp only [List.setIfInBounds_toArray, List.set_cons_zero, List.set_cons_succ]
   exact H11101000 _ (by kernel_rfl) g1 q1 d1 _ g3 _ hS2 (hide (A1.out.below hb)) B2 G2 (hide (B3.out.below hb)) (hide (G3.out.below hb))
  ·go_simp
   have B4 : Hid (BX (W.alloc (.cells #[] 80)) W.heap.size #[] 80) := BX.new W _ rfl _ _
   have G4 : Hid (GeN w.heap.size W.heap.size (W.alloc (.cells #[] 80))) := hS.1.size
   have hb := bel1 W (.cells #[] 80)
   refine hK.out _ _ ?hs30 (fun hS2 => ?_)
   case hs30 => exact SC.next hS hb
   try simp only [List.setIfInBounds_toArray, List.set_cons_zero, List.set_cons_succ]
   exact H11001010 _ (by kernel_rfl) g1 q1 d1 g3 _ _ hS2 (hide (A1.out.below hb)) (hide (B3.out.below hb)) (hide (G3.out.below hb)) B4 G4
 refine share_intro _ _ _ _ _ _ _ _ _ (fun Z => ∀ listed : Array Bool, listed = #[true, true, true, true, false, true, true, false, false, true, true, false, true, true, true, false, false, false] → ∀ (g1 : Nat) (q1 : Option Addr) (d1 : Nat) (g4 : Nat) (W : World), SC w w.heap.size (w.heap.size + 1) #[.slice p1 n1 c1, .slice p2 n2 c2, .slice p3 n3 c3, .slice p4 n4 c4] 31 31 W → Hid (OH 74 w.heap.size W (.slice q1 n1 d1) hs1) → Hid (BX W g4 #[] 80) → Hid (GeN w.heap.size g4 W) → Z 7 listed ⟨#[.agg #[.slice p1 n1 c1, .slice p2 n2 c2, .slice p3 n3 c3, .slice p4 n4 c4], .pointer (some ⟨w.heap.size, 0, none⟩), .pointer (some ⟨w.heap.size + 1, 0, none⟩), .slice (some ⟨g1, 0, none⟩) 0 0, .pointer (some ⟨w.heap.size, 0, none⟩), .slice p1 n1 c1, .slice q1 n1 d1, undef, .pointer (some ⟨w.heap.size, 1, none⟩), .slice p2 n2 c2, undef, undef, .pointer (some ⟨w.heap.size, 2, none⟩), .slice p3 n3 c3, undef, .slice (some ⟨g4, 0, none⟩) 0 0, .pointer (some ⟨w.heap.size, 3, none⟩), .slice p4 n4 c4, undef, undef], []⟩ W) ?_ (fun H11000010 => ?_)
 ·intro listed hl g1 q1 d1 g4 W hS A1 B4 G4
  subst hl
  refine wpAnyH_ready (rs := [4, 8]) (by kernel_rfl) (by simp) ?_
  refine AllReadyH.cons rfl (fun K hK => ?_) (AllReadyH.cons rfl (fun K hK => ?_) AllReadyH.nil)
  ·go_simp
   have B2 : Hid (BX (W.alloc (.cells #[] 76)) W.heap.size #[] 76) := BX.new W _ rfl _ _
   have G2 : Hid (GeN w.heap.size W.heap.size (W.alloc (.cells #[] 76))) := hS.1.size
   have hb := bel1 W (.cells #[] 76)
   refine hK.out _ _ ?hs31 (fun hS2 => ?_)
   case hs31 => exact SC.next hS hb
   try simp only [List.setIfInBounds_toArray, List.set_cons_zero, List.set_cons_succ]
   exact H11100010 _ (by kernel_rfl) g1 q1 d1 _ g4 _ hS2 (hide (A1.out.below hb)) B2 G2 (hide (B4.out.below hb)) (hide (G4.out.below hb))
  ·go_simp
   have B3 : Hid (BX (W.alloc (.cells #[] 78)) W.heap.size #[] 78) := BX.new W _ rfl _ _
   have G3 : Hid (GeN w.heap.size W.heap.size (W.alloc (.cells #[] 78))) := hS.1.size
   have hb := bel1 W (.cells #[] 78)
   refine hK.out _ _ ?hs32 (fun hS2 => ?_)
   case hs32 => exact SC.next hS hb
   try simp only [List.setIfInBounds_toArray, List.set_cons_zero, List.set_cons_succ]
   exact H11001010 _ (by kernel_rfl) g1 q1 d1 _ g4 _ hS2 (hide (A1.out.below hb)) B3 G3 (hide (B4.out.below hb)) (hide (G4.out.below hb))
 refine share_intro _ _ _ _ _ _ _ _ _ (fun Z => ∀ listed : Array Bool, listed = #[true, true, true, false, true, true, true, false, true, true, true, false, false, true, true, false, false, false] → ∀ (g1 : Nat) (g2 : Nat) (g3 : Nat) (W : World), SC w w.heap.size (w.heap.size + 1) #[.slice p1 n1 c1, .slice p2 n2 c2, .slice p3 n3 c3, .slice p4 n4 c4] 31 31 W → Hid (BX W g1 #[] 74) → Hid (GeN w.heap.size g1 W) → Hid (BX W g2 #[] 76) → Hid (GeN w.heap.size g2 W) → Hid (BX W g3 #[] 78) → Hid (GeN w.heap.size g3 W) → Z 7 listed ⟨#[.agg #[.slice p1 n1 c1, .slice p2 n2 c2, .slice p3 n3 c3, .slice p4 n4 c4], .pointer (some ⟨w.heap.size, 0, none⟩), .pointer (some ⟨w.heap.size + 1, 0, none⟩), .slice (some ⟨g1, 0, none⟩) 0 0, .pointer (some ⟨w.heap.size, 0, none⟩), .slice p1 n1 c1, undef, .slice (some ⟨g2, 0, none⟩) 0 0, .pointer (some ⟨w.heap.size, 1, none⟩), .slice p2 n2 c2, undef, .slice (some ⟨g3, 0, none⟩) 0 0, .pointer (some ⟨w.heap.size, 2, none⟩), .slice p3 n3 c3, undef, undef, .pointer (some ⟨w.heap.size, 3, none⟩), .slice p4 n4 c4, undef, undef], []⟩ W) ?_ (fun H10101000 => ?_)
 ·intro listed hl g1 g2 g3 W hS B1 G1 B2 G2 B3 G3
  subst hl
  refine wpAnyH_ready (rs := [3, 12]) (by kernel_rfl) (by simp) ?_
  refine AllReadyH.cons rfl (fun K hK => ?_) (AllReadyH.cons rfl (fun K hK => ?_) AllReadyH.nil)
  ·rw [if_pos (by kernel_rfl)]
   refine append_fresh _ _ 26 rfl Tryz.underlying26 Tryz.infoH1 w.heap.size g1 hs1 rfl B1.out G1.out p1 n1 c1 rfl K1.out (R1.out.below hS.1) (by have h9 := L1.out; omega) hS.1.size ?_
   intro q1 d1 w' ho5 hb
   have A1 := hide ho5
   clear ho5
   change K (Act.put _ (some 6) _) _
   refine hK.out _ _ ?hs33 (fun hS2 => ?_)
   case hs33 => exact SC.next hS hb
   try simp only [ly]
   exact H11101000 _ (by kernel_rfl) g1 q1 d1 g2 g3 _ hS2 A1 (hide (B2.out.below hb)) (hide (G2.out.below hb)) (hide (B3.out.below hb)) (hide (G3.out.below hb))
  ·go_simp
   have B4 : Hid (BX (W.alloc (.cells #[] 80)) W.heap.size #[] 80) := BX.new W _ rfl _ _
   have G4 : Hid (GeN w.heap.size W.heap.size (W.alloc (.cells #[] 80))) := hS.1.size
   have hb := bel1 W (.cells #[] 80)
   refine hK.out _ _ ?hs34 (fun hS2 => ?_)
   case hs34 => exact SC.next hS hb
   try simp only [List.setIfInBounds_toArray, List.set_cons_zero, List.set_cons_succ]
   exact H10101010 _ (by kernel_rfl) g1 g2 g3 _ _ hS2 (hide (B1.out.below hb)) (hide (G1.out.below hb)) (hide (B2.out.below hb)) (hide (G2.out.below hb)) (hide (B3.out.below hb)) (hide (G3.out.below hb)) B4 G4
 refine share_intro _ _ _ _ _ _ _ _ _ (fun Z => ∀ listed : Array Bool, listed = #[true, true, true, false, true, true, true, false, false, true, true, false, true, true, true, false, false, false] → ∀ (g1 : Nat) (g2 : Nat) (g4 : Nat) (W : World), SC w w.heap.size (w.heap.size + 1) #[.slice p1 n1 c1, .slice p2 n2 c2, .slice p3 n3 c3, .slice p4 n4 c4] 31 31 W → Hid (BX W g1 #[] 74) → Hid (GeN w.heap.size g1 W) → Hid (BX W g2 #[] 76) → Hid (GeN w.heap.size g2 W) → Hid (BX W g4 #[] 80) → Hid (GeN w.heap.size g4 W) → Z 7 listed ⟨#[.agg #[.slice p1 n1 c1, .slice p2 n2 c2, .slice p3 n3 c3, .slice p4 n4 c4], .pointer (some ⟨w.heap.size, 0, none⟩), .pointer (some ⟨w.heap.size + 1, 0, none⟩), .slice (some ⟨g1, 0, none⟩) 0 0, .pointer (some ⟨w.heap.size, 0, none⟩), .slice p1 n1 c1, undef, .slice (some ⟨g2, 0, none⟩) 0 0, .pointer (some ⟨w.heap.size, 1, none⟩), .slice p2 n2 c2, undef, undef, .pointer (some ⟨w.heap.size, 2, none⟩), .slice p3 n3 c3, undef, .slice (some ⟨g4, 0, none⟩) 0 0, .pointer (some ⟨w.heap.size, 3, none⟩), .slice p4 n4 c4, undef, undef], []⟩ W) ?_ (fun H10100010 => ?_)
 ·intro listed hl g1 g2 g4 W hS B1 G1 B2 G2 B4 G4
  subst hl
  refine wpAnyH_ready (rs := [3, 8]) (by kernel_rfl) (by simp) ?_
  refine AllReadyH.cons rfl (fun K hK => ?_) (AllReadyH.cons rfl (fun K hK => ?_) AllReadyH.nil)
  ·rw [if_pos (by kernel_rfl)]
   refine append_fresh _ _ 26 rfl Tryz.underlying26 Tryz.infoH1 w.heap.size g1 hs1 rfl B1.out G1.out p1 n1 c1 rfl K1.out (R1.out.below hS.1) (by have h9 := L1.out; omega) hS.1.size ?_
   intro q1 d1 w' ho5 hb
   have A1 := hide ho5
   clear ho5
   change K (Act.put _ (some 6) _) _
   refine hK.out _ _ ?hs35 (fun hS2 => ?_)
   case hs35 => exact SC.next hS hb
   try simp only [ly]
   exact H11100010 _ (by kernel_rfl) g1 q1 d1 g2 g4 _ hS2 A1 (hide (B2.out.below hb)) (hide (G2.out.below hb)) (hide (B4.out.below hb)) (hide (G4.out.below hb))
  ·go_simp
   have B3 : Hid (BX (W.alloc (.cells #[] 78)) W.heap.size #[] 78) := BX.new W _ rfl _ _
   have G3 : Hid (GeN w.heap.size W.heap.size (W.alloc (.cells #[] 78))) := hS.1.size
   have hb := bel1 W (.cells #[] 78)
   refine hK.out _ _ ?hs36 (fun hS2 => ?_)
   case hs36 => exact SC.next hS hb
   try simp only [List.setIfInBounds_toArray, List.set_cons_zero, List.set_cons_succ]
   exact H10101010 _ (by kernel_rfl) g1 g2 _ g4 _ hS2 (hide (B1.out.below hb)) (hide (G1.out.below hb)) (hide (B2.out.below hb)) (hide (G2.out.below hb)) B3 G3 (hide (B4.out.below hb)) (hide (G4.out.below hb))
 refine share_intro _ _ _ _ _ _ _ _ _ (fun Z => ∀ listed : Array Bool, listed = #[true, true, true, false, false, true, true, false, true, true, true, false, true, true, true, false, false, false] → ∀ (g1 : Nat) (g3 : Nat) (g4 : Nat) (W : World), SC w w.heap.size (w.heap.size + 1) #[.slice p1 n1 c1, .slice p2 n2 c2, .slice p3 n3 c3, .slice p4 n4 c4] 31 31 W → Hid (BX W g1 #[] 74) → Hid (GeN w.heap.size g1 W) → Hid (BX W g3 #[] 78) → Hid (GeN w.heap.size g3 W) → Hid (BX W g4 #[] 80) → Hid (GeN w.heap.size g4 W) → Z 7 listed ⟨#[.agg #[.slice p1 n1 c1, .slice p2 n2 c2, .slice p3 n3 c3, .slice p4 n4 c4], .pointer (some ⟨w.heap.size, 0, none⟩), .pointer (some ⟨w.heap.size + 1, 0, none⟩), .slice (some ⟨g1, 0, none⟩) 0 0, .pointer (some ⟨w.heap.size, 0, none⟩), .slice p1 n1 c1, undef, undef, .pointer (some ⟨w.heap.size, 1, none⟩), .slice p2 n2 c2, undef, .slice (some ⟨g3, 0, none⟩) 0 0, .pointer (some ⟨w.heap.size, 2, none⟩), .slice p3 n3 c3, undef, .slice (some ⟨g4, 0, none⟩) 0 0, .pointer (some ⟨w.heap.size, 3, none⟩), .slice p4 n4 c4, undef, undef], []⟩ W) ?_ (fun H10001010 => ?_)
 ·intro listed hl g1 g3 g4 W hS B1 G1 B3 G3 B4 G4
  subst hl
  refine wpAnyH_ready (rs := [3, 4]) (by kernel_rfl) (by simp) ?_
  refine AllReadyH.cons rfl (fun K hK => ?_) (AllReadyH.cons rfl (fun K hK => ?_) AllReadyH.nil)
  ·rw [if_pos (by kernel_rfl)]
   refine append_fresh _ _ 26 rfl Tryz.underlying26 Tryz.infoH1 w.heap.size g1 hs1 rfl B1.out G1.out p1 n1 c1 rfl K1.out (R1.out.below hS.1) (by have h9 := L1.out; omega) hS.1.size ?_
   intro q1 d1 w' ho5 hb
   have A1 := hide ho5
   clear ho5
   change K (Act.put _ (some 6) _) _
   refine hK.out _ _ ?hs37 (fun hS2 => ?_)
   case hs37 => exact SC.next hS hb
   try simp only [ly]
   exact H11001010 _ (by kernel_rfl) g1 q1 d1 g3 g4 _ hS2 A1 (hide (B3.out.below hb)) (hide (G3.out.below hb)) (hide (B4.out.below hb)) (hide (G4.out.below hb))
  ·go_simp
   have B2 : Hid (BX (W.alloc (.cells #[] 76)) W.heap.size #[] 76) := BX.new W _ rfl _ _
   have G2 : Hid (GeN w.heap.size W.heap.size (W.alloc (.cells #[] 76))) := hS.1.size
   have hb := bel1 W (.cells #[] 76)
   refine hK.out _ _ ?hs38 (fun hS2 => ?_)
   case hs38 => exact SC.next hS hb
   try simp only [List.setIfInBounds_toArray, List.set_cons_zero, List.set_cons_succ]
   exact H10101010 _ (by kernel_rfl) g1 _ g3 g4 _ hS2 (hide (B1.out.below hb)) (hide (G1.out.below hb)) B2 G2 (hide (B3.out.below hb)) (hide (G3.out.below hb)) (hide (B4.out.below hb)) (hide (G4.out.below hb))
 refine share_intro _ _ _ _ _ _ _ _ _ (fun Z => ∀ listed : Array Bool, listed = #[false, true, true, false, true, true, true, false, true, true, true, false, true, true, true, false, false, false] → ∀ (g2 : Nat) (g3 : Nat) (g4 : Nat) (W : World), SC w w.heap.size (w.heap.size + 1) #[.slice p1 n1 c1, .slice p2 n2 c2, .slice p3 n3 c3, .slice p4 n4 c4] 31 31 W → Hid (BX W g2 #[] 76) → Hid (GeN w.heap.size g2 W) → Hid (BX W g3 #[] 78) → Hid (GeN w.heap.size g3 W) → Hid (BX W g4 #[] 80) → Hid (GeN w.heap.size g4 W) → Z 7 listed ⟨#[.agg #[.slice p1 n1 c1, .slice p2 n2 c2, .slice p3 n3 c3, .slice p4 n4 c4], .pointer (some ⟨w.heap.size, 0, none⟩), .pointer (some ⟨w.heap.size + 1, 0, none⟩), undef, .pointer (some ⟨w.heap.size, 0, none⟩), .slice p1 n1 c1, undef, .slice (some ⟨g2, 0, none⟩) 0 0, .pointer (some ⟨w.heap.size, 1, none⟩), .slice p2 n2 c2, undef, .slice (some ⟨g3, 0, none⟩) 0 0, .pointer (some ⟨w.heap.size, 2, none⟩), .slice p3 n3 c3, undef, .slice (some ⟨g4, 0, none⟩) 0 0, .pointer (some ⟨w.heap.size, 3, none⟩), .slice p4 n4 c4, undef, undef], []⟩ W) ?_ (fun H00101010 => ?_)
 ·intro listed hl g2 g3 g4 W hS B2 G2 B3 G3 B4 G4
  subst hl
  refine wpAnyH_ready (rs := [0]) (by kernel_rfl) (by simp) ?_
  refine AllReadyH.cons rfl (fun K hK => ?_) AllReadyH.nil
  go_simp
  have B1 : Hid (BX (W.alloc (.cells #[] 74)) W.heap.size #[] 74) := BX.new W _ rfl _ _
  have G1 : Hid (GeN w.heap.size W.heap.size (W.alloc (.cells #[] 74))) := hS.1.size
  have hb := bel1 W (.cells #[] 74)
  refine hK.out _ _ ?hs39 (fun hS2 => ?_)
  case hs39 => exact SC.next hS hb
  try simp only [List.setIfInBounds_toArray, List.set_cons_zero]
  exact H10101010 _ (by kernel_rfl) _ g2 g3 g4 _ hS2 B1 G1 (hide (B2.out.below hb)) (hide (G2.out.below hb)) (hide (B3.out.below hb)) (hide (G3.out.below hb)) (hide (B4.out.below hb)) (hide (G4.out.below hb))
 refine share_intro _ _ _ _ _ _ _ _ _ (fun Z => ∀ listed : Array Bool, listed = #[true, true, true, true, false, true, true, false, false, true, true, false, false, true, true, false, false, false] → ∀ (g1 : Nat) (q1 : Option Addr) (d1 : Nat) (W : World), SC w w.heap.size (w.heap.size + 1) #[.slice p1 n1 c1, .slice p2 n2 c2, .slice p3 n3 c3, .slice p4 n4 c4] 31 31 W → Hid (OH 74 w.heap.size W (.slice q1 n1 d1) hs1) → Z 8 listed ⟨#[.agg #[.slice p1 n1 c1, .slice p2 n2 c2, .slice p3 n3 c3, .slice p4 n4 c4], .pointer (some ⟨w.heap.size, 0, none⟩), .pointer (some ⟨w.heap.size + 1, 0, none⟩), .slice (some ⟨g1, 0, none⟩) 0 0, .pointer (some ⟨w.heap.size, 0, none⟩), .slice p1 n1 c1, .slice q1 n1 d1, undef, .pointer (some ⟨w.heap.size, 1, none⟩), .slice p2 n2 c2, undef, undef, .pointer (some ⟨w.heap.size, 2, none⟩), .slice p3 n3 c3, undef, undef, .pointer (some ⟨w.heap.size, 3, none⟩), .slice p4 n4 c4, undef, undef], []⟩ W) ?_ (fun H11000000 => ?_)
 ·intro listed hl g1 q1 d1 W hS A1
  subst hl
  refine wpAnyH_ready (rs := [4, 8, 12]) (by kernel_rfl) (by simp) ?_
  refine AllReadyH.cons rfl (fun K hK => ?_) (AllReadyH.cons rfl (fun K hK => ?_) (AllReadyH.cons rfl (fun K hK => ?_) AllReadyH.nil))
  ·go_simp
   have B2 : Hid (BX (W.alloc (.cells #[] 76)) W.heap.size #[] 76) := BX.new W _ rfl _ _
   have G2 : Hid (GeN w.heap.size W.heap.size (W.alloc (.cells #[] 76))) := hS.1.size
   have hb := bel1 W (.cells #[] 76)
   refine hK.out _ _ ?hs40 (fun hS2 => ?_)
   case hs40 => exact SC.next hS hb
   try simp only [List.setIfInBounds_toArray, List.set_cons_zero, List.set_cons_succ]
   exact H11100000 _ (by kernel_rfl) g1 q1 d1 _ _ hS2 (hide (A1.out.below hb)) B2 G2
  ·go_simp
   have B3 : Hid (BX (W.alloc (.cells #[] 78)) W.heap.size #[] 78) := BX.new W _ rfl _ _
   have G3 : Hid (GeN w.heap.size W.heap.size (W.alloc (.cells #[] 78))) := hS.1.size
   have hb := bel1 W (.cells #[] 78)
   refine hK.out _ _ ?hs41 (fun hS2 => ?_)
   case hs41 => exact SC.next hS hb
   try simp only [List.setIfInBounds_toArray, List.set_cons_zero, List.set_cons_succ]
   exact H11001000 _ (by kernel_rfl) g1 q1 d1 _ _ hS2 (hide (A1.out.below hb)) B3 G3
  ·go_simp
   have B4 : Hid (BX (W.alloc (.cells #[] 80)) W.heap.size #[] 80) := BX.new W _ rfl _ _
   have G4 : Hid (GeN w.heap.size W.heap.size (W.alloc (.cells #[] 80))) := hS.1.size
   have hb := bel1 W (.cells #[] 80)
   refine hK.out _ _ ?hs42 (fun hS2 => ?_)
   case hs42 => exact SC.next hS hb
   try simp only [List.setIfInBounds_toArray, List.set_cons_zero, List.set_cons_succ]
   exact H11000010 _ (by kernel_rfl) g1 q1 d1 _ _ hS2 (hide (A1.out.below hb)) B4 G4
 refine share_intro _ _ _ _ _ _ _ _ _ (fun Z => ∀ listed : Array Bool, listed = #[true, true, true, false, true, true, true, false, false, true, true, false, false, true, true, false, false, false] → ∀ (g1 : Nat) (g2 : Nat) (W : World), SC w w.heap.size (w.heap.size + 1) #[.slice p1 n1 c1, .slice p2 n2 c2, .slice p3 n3 c3, .slice p4 n4 c4] 31 31 W → Hid (BX W g1 #[] 74) → Hid (GeN w.heap.size g1 W) → Hid (BX W g2 #[] 76) → Hid (GeN w.heap.size g2 W) → Z 8 listed ⟨#[.agg #[.slice p1 n1 c1, .slice p2 n2 c2, .slice p3 n3 c3, .slice p4 n4 c4], .pointer (some ⟨w.heap.size, 0, none⟩), .pointer (some ⟨w.heap.size + 1, 0, none⟩), .slice (some ⟨g1, 0, none⟩) 0 0, .pointer (some ⟨w.heap.size, 0, none⟩), .slice p1 n1 c1, undef, .slice (some ⟨g2, 0, none⟩) 0 0, .pointer (some ⟨w.heap.size, 1, none⟩), .slice p2 n2 c2, undef, undef, .pointer (some ⟨w.heap.size, 2, none⟩), .slice p3 n3 c3, undef, undef, .pointer (some ⟨w.heap.size, 3, none⟩), .slice p4 n4 c4, undef, undef], []⟩ W) ?_ (fun H10100000 => ?_)
 ·intro listed hl g1 g2 W hS B1 G1 B2 G2
  subst hl
  refine wpAnyH_ready (rs := [3, 8, 12]) (by kernel_rfl) (by simp) ?_
  refine AllReadyH.cons rfl (fun K hK => ?_) (AllReadyH.cons rfl (fun K hK => ?_) (AllReadyH.cons rfl (fun K hK => ?_) AllReadyH.nil))
  ·rw [if_pos (by kernel_rfl)]
   refine append_fresh _ _ 26 rfl Tryz.underlying26 Tryz.infoH1 w.heap.size g1 hs1 rfl B1.out G1.out p1 n1 c1 rfl K1.out (R1.out.below hS.1) (by have h9 := L1.out; omega) hS.1.size ?_
   intro q1 d1 w' ho5 hb
   have A1 := hide ho5
   clear ho5
   change K (Act.put _ (some 6) _) _
   refine hK.out _ _ ?hs43 (fun hS2 => ?_)
   case hs43 => exact SC.next hS hb
   try simp only [ly]
   exact H11100000 _ (by kernel_rfl) g1 q1 d1 g2 _ hS2 A1 (hide (B2.out.below hb)) (hide (G2.out.below hb))
  ·go_simp
   have B3 : Hid (BX (W.alloc (.cells #[] 78)) W.heap.size #[] 78) := BX.new W _ rfl _ _
   have G3 : Hid (GeN w.heap.size W.heap.size (W.alloc (.cells #[] 78))) := hS.1.size
   have hb := bel1 W (.cells #[] 78)
   refine hK.out _ _ ?hs44 (fun hS2 => ?_)
   case hs44 => exact SC.next hS hb
   try simp only [List.setIfInBounds_toArray, List.set_cons_zero, List.set_cons_succ]
   exact H10101000 _ (by kernel_rfl) g1 g2 _ _ hS2 (hide (B1.out.below hb)) (hide (G1.out.below hb)) (hide (B2.out.below hb)) (hide (G2.out.below hb)) B3 G3
  ·go_simp
   have B4 : Hid (BX (W.alloc (.cells #[] 80)) W.heap.size #[] 80) := BX.new W _ rfl _ _
   have G4 : Hid (GeN w.heap.size W.heap.size (W.alloc (.cells #[] 80))) := hS.1.size
   have hb := bel1 W (.cells #[] 80)
   refine hK.out _ _ ?hs45 (fun hS2 => ?_)
   case hs45 => exact SC.next hS hb
   try simp only [List.setIfInBounds_toArray, List.set_cons_zero, List.set_cons_succ]
   exact H10100010 _ (by kernel_rfl) g1 g2 _ _ hS2 (hide (B1.out.below hb)) (hide (G1.out.below hb)) (hide (B2.out.below hb)) (hide (G2.out.below hb)) B4 G4
 refine share_intro _ _ _ _ _ _ _ _ _ (fun Z => ∀ listed : Array Bool, listed = #[true, true, true, false, false, true, true, false, true, true, true, false, false, true, true, false, false, false] → ∀ (g1 : Nat) (g3 : Nat) (W : World), SC w w.heap.size (w.heap.size + 1) #[.slice p1 n1 c1, .slice p2 n2 c2, .slice p3 n3 c3, .slice p4 n4 c4] 31 31 W → Hid (BX W g1 #[] 74) → Hid (GeN w.heap.size g1 W) → Hid (BX W g3 #[] 78) → Hid (GeN w.heap.size g3 W) → Z 8 listed ⟨#[.agg #[.slice p1 n1 c1, .slice p2 n2 c2, .slice p3 n3 c3, .slice p4 n4 c4], .pointer (some ⟨w.heap.size, 0, none⟩), .pointer (some ⟨w.heap.size + 1, 0, none⟩), .slice (some ⟨g1, 0, none⟩) 0 0, .pointer (some ⟨w.heap.size, 0, none⟩), .slice p1 n1 c1, undef, undef, .pointer (some ⟨w.heap.size, 1, none⟩), .slice p2 n2 c2, undef, .slice (some ⟨g3, 0, none⟩) 0 0, .pointer (some ⟨w.heap.size, 2, none⟩), .slice p3 n3 c3, undef, undef, .pointer (some ⟨w.heap.size, 3, none⟩), .slice p4 n4 c4, undef, undef], []⟩ W) ?_ (fun H10001000 => ?_)
 ·intro listed hl g1 g3 W hS B1 G1 B3 G3
  subst hl
  refine wpAnyH_ready (rs := [3, 4, 12]) (by kernel_rfl) (by simp) ?_
  refine AllReadyH.cons rfl (fun K hK => ?_) (AllReadyH.cons rfl (fun K hK => ?_) (AllReadyH.cons rfl (fun K hK => ?_) AllReadyH.nil))
  ·rw [if_pos (by kernel_rfl)]
   refine append_fresh _ _ 26 rfl Tryz.underlying26 Tryz.infoH1 w.heap.size g1 hs1 rfl B1.out G1.out p1 n1 c1 rfl K1.out (R1.out.below hS.1) (by have h9 := L1.out; omega) hS.1.size ?_
   intro q1 d1 w' ho5 hb
   have A1 := hide ho5
   clear ho5
   change K (Act.put _ (some 6) _) _
   refine hK.out _ _ ?hs46 (fun hS2 => ?_)
   case hs46 => exact SC.next hS hb
   try simp only [ly]
   exact H11001000 _ (by kernel_rfl) g1 q1 d1 g3 _ hS2 A1 (hide (B3.out.below hb)) (hide (G3.out.below hb))
  ·go_simp
   have B2 : Hid (BX (W.alloc (.cells #[] 76)) W.heap.size #[] 76) := BX.new W _ rfl _ _
   have G2 : Hid (GeN w.heap.size W.heap.size (W.alloc (.cells #[] 76))) := hS.1.size
   have hb := bel1 W (.cells #[] 76)
   refine hK.out _ _ ?hs47 (fun hS2 => ?_)
   case hs47 => exact SC.next hS hb
   try simp only [List.setIfInBounds_toArray, List.set_cons_zero, List.set_cons_succ]
   exact H10101000 _ (by kernel_rfl) g1 _ g3 _ hS2 (hide (B1.out.below hb)) (hide (G1.out.below hb)) B2 G2 (hide (B3.out.below hb)) (hide (G3.out.below hb))
  ·go_simp
   have B4 : Hid (BX (W.alloc (.cells #[] 80)) W.heap.size #[] 80) := BX.new W _ rfl _ _
   have G4 : Hid (GeN w.heap.size W.heap.size (W.alloc (.cells #[] 80))) := hS.1.size
   have hb := bel1 W (.cells #[] 80)
   refine hK.out _ _ ?hs48 (fun hS2 => ?_)
   case hs48 => exact SC.next hS hb
   try simp only [List.setIfInBounds_toArray, List.set_cons_zero, List.set_cons_succ]
   exact H10001010 _ (by kernel_rfl) g1 g3 _ _ hS2 (hide (B1.out.below hb)) (hide (G1.out.below hb)) (hide (B3.out.below hb)) (hide (G3.out.below hb)) B4 G4
 refine share_intro _ _ _ _ _ _ _ _ _ (fun Z => ∀ listed : Array Bool, listed = #[true, true, true, false, false, true, true, false, false, true, true, false, true, true, true, false, false, false] → ∀ (g1 : Nat) (g4 : Nat) (W : World), SC w w.heap.size (w.heap.size + 1) #[.slice p1 n1 c1, .slice p2 n2 c2, .slice p3 n3 c3, .slice p4 n4 c4] 31 31 W → Hid (BX W g1 #[] 74) → Hid (GeN w.heap.size g1 W) → Hid (BX W g4 #[] 80) → Hid (GeN w.heap.size g4 W) → Z 8 listed ⟨#[.agg #[.slice p1 n1 c1, .slice p2 n2 c2, .slice p3 n3 c3, .slice p4 n4 c4], .pointer (some ⟨w.heap.size, 0, none⟩), .pointer (some ⟨w.heap.size + 1, 0, none⟩), .slice (some ⟨g1, 0, none⟩) 0 0, .pointer (some ⟨w.heap.size, 0, none⟩), .slice p1 n1 c1, undef, undef, .pointer (some ⟨w.heap.size, 1, none⟩), .slice p2 n2 c2, undef, undef, .pointer (some ⟨w.heap.size, 2, none⟩), .slice p3 n3 c3, undef, .slice (some ⟨g4, 0, none⟩) 0 0, .pointer (some ⟨w.heap.size, 3, none⟩), .slice p4 n4 c4, undef, undef], []⟩ W) ?_ (fun H10000010 => ?_)
 ·intro listed hl g1 g4 W hS B1 G1 B4 G4
  subst hl
  refine wpAnyH_ready (rs := [3, 4, 8]) (by kernel_rfl) (by simp) ?_
  refine AllReadyH.cons rfl (fun K hK => ?_) (AllReadyH.cons rfl (fun K hK => ?_) (AllReadyH.cons rfl (fun K hK => ?_) AllReadyH.nil))
  ·rw [if_pos (by kernel_rfl)]
   refine append_fresh _ _ 26 rfl Tryz.underlying26 Tryz.infoH1 w.heap.size g1 hs1 rfl B1.out G1.out p1 n1 c1 rfl K1.out (R1.out.below hS.1) (by have h9 := L1.out; omega) hS.1.size ?_
   intro q1 d1 w' ho5 hb
   have A1 := hide ho5
   clear ho5
   change K (Act.put _ (some 6) _) _
   refine hK.out _ _ ?hs49 (fun hS2 => ?_)
   case hs49 => exact SC.next hS hb
   try simp only [ly]
   exact H11000010 _ (by kernel_rfl) g1 q1 d1 g4 _ hS2 A1 (hide (B4.out.below hb)) (hide (G4.out.below hb))
  ·go_simp
   have B2 : Hid (BX (W.alloc (.cells #[] 76)) W.heap.size #[] 76) := BX.new W _ rfl _ _
   have G2 : Hid (GeN w.heap.size W.heap.size (W.alloc (.cells #[] 76))) := hS.1.size
   have hb := bel1 W (.cells #[] 76)
   refine hK.out _ _ ?hs50 (fun hS2 => ?_)
   case hs50 => exact SC.next hS hb
   try simp only [List.setIfInBounds_toArray, List.set_cons_zero, List.set_cons_succ]
   exact H10100010 _ (by kernel_rfl) g1 _ g4 _ hS2 (hide (B1.out.below hb)) (hide (G1.out.below hb)) B2 G2 (hide (B4.out.below hb)) (hide (G4.out.below hb))
  ·go_simp
   have B3 : Hid (BX (W.alloc (.cells #[] 78)) W.heap.size #[] 78) := BX.new W _ rfl _ _
   have G3 : Hid (GeN w.heap.size W.heap.size (W.alloc (.cells #[] 78))) := hS.1.size
   have hb := bel1 W (.cells #[] 78)
   refine hK.out _ _ ?hs51 (fun hS2 => ?_)
   case hs51 => exact SC.next hS hb
   try simp only [List.setIfInBounds_toArray, List.set_cons_zero, List.set_cons_succ]
   exact H10001010 _ (by kernel_rfl) g1 _ g4 _ hS2 (hide (B1.out.below hb)) (hide (G1.out.below hb)) B3 G3 (hide (B4.out.below hb)) (hide (G4.out.below hb))
 refine share_intro _ _ _ _ _ _ _ _ _ (fun Z => ∀ listed : Array Bool, listed = #[false, true, true, false, true, true, true, false, true, true, true, false, false, true, true, false, false, false] → ∀ (g2 : Nat) (g3 : Nat) (W : World), SC w w.heap.size (w.heap.size + 1) #[.slice p1 n1 c1, .slice p2 n2 c2, .slice p3 n3 c3, .slice p4 n4 c4] 31 31 W → Hid (BX W g2 #[] 76) → Hid (GeN w.heap.size g2 W) → Hid (BX W g3 #[] 78) → Hid (GeN w.heap.size g3 W) → Z 8 listed ⟨#[.agg #[.slice p1 n1 c1, .slice p2 n2 c2, .slice p3 n3 c3, .slice p4 n4 c4], .pointer (some ⟨w.heap.size, 0, none⟩), .pointer (some ⟨w.heap.size + 1, 0, none⟩), undef, .pointer (some ⟨w.heap.size, 0, none⟩), .slice p1 n1 c1, undef, .slice (some ⟨g2, 0, none⟩) 0 0, .pointer (some ⟨w.heap.size, 1, none⟩), .slice p2 n2 c2, undef, .slice (some ⟨g3, 0, none⟩) 0 0, .pointer (some ⟨w.heap.size, 2, none⟩), .slice p3 n3 c3, undef, undef, .pointer (some ⟨w.heap.size, 3, none⟩), .slice p4 n4 c4, undef, undef], []⟩ W) ?_ (fun H00101000 => ?_)
 ·intro listed hl g2 g3 W hS B2 G2 B3 G3
  subst hl
  refine wpAnyH_ready (rs := [0, 12]) (by kernel_rfl) (by simp) ?_
  refine AllReadyH.cons rfl (fun K hK => ?_) (AllReadyH.cons rfl (fun K hK => ?_) AllReadyH.nil)
  ·go_simp
   have B1 : Hid (BX (W.alloc (.cells #[] 74)) W.heap.size #[] 74) := BX.new W _ rfl _ _
   have G1 : Hid (GeN w.heap.size W.heap.size (W.alloc (.cells #[] 74))) := hS.1.size
   have hb := bel1 W (.cells #[] 74)
   refine hK.out _ _ ?hs52 (fun hS2 => ?_)
   case hs52 => exact SC.next hS hb
   try simp only [List.setIfInBounds_toArray, List.set_cons_zero]
   exact H10101000 _ (by kernel_rfl) _ g2 g3 _ hS2 B1 G1 (hide (B2.out.below hb)) (hide (G2.out.below hb)) (hide (B3.out.below hb)) (hide (G3.out.below hb))
  ·go_simp
   have B4 : Hid (BX (W.alloc (.cells #[] 80)) W.heap.size #[] 80) := BX.new W _ rfl _ _
   have G4 : Hid (GeN w.heap.size W.heap.size (W.alloc (.cells #[] 80))) := hS.1.size
   have hb := bel1 W (.cells #[] 80)
   refine hK.out _ _ ?hs53 (fun hS2 => ?_)
   case hs53 => exact SC.next hS hb
   try simp only [List.setIfInBounds_toArray, List.set_cons_zero, List.set_cons_succ]
   exact H00101010 _ (by kernel_rfl) g2 g3 _ _ hS2 (hide (B2.out.below hb)) (hide (G2.out.below hb)) (hide (B3.out.below hb)) (hide (G3.out.below hb)) B4 G4
 refine share_intro _ _ _ _ _ _ _ _ _ (fun Z => ∀ listed : Array Bool, listed = #[false, true, true, false, true, true, true, false, false, true, true, false, true, true, true, false, false, false] → ∀ (g2 : Nat) (g4 : Nat) (W : World), SC w w.heap.size (w.heap.size + 1) #[.slice p1 n1 c1, .slice p2 n2 c2, .slice p3 n3 c3, .slice p4 n4 c4] 31 31 W → Hid (BX W g2 #[] 76) → Hid (GeN w.heap.size g2 W) → Hid (BX W g4 #[] 80) → Hid (GeN w.heap.size g4 W) → Z 8 listed ⟨#[.agg #[.slice p1 n1 c1, .slice p2 n2 c2, .slice p3 n3 c3, .slice p4 n4 c4], .pointer (some ⟨w.heap.size, 0, none⟩), .pointer (some ⟨w.heap.size + 1, 0, none⟩), undef, .pointer (some ⟨w.heap.size, 0, none⟩), .slice p1 n1 c1, undef, .slice (some ⟨g2, 0, none⟩) 0 0, .pointer (some ⟨w.heap.size, 1, none⟩), .slice p2 n2 c2, undef, undef, .pointer (some ⟨w.heap.size, 2, none⟩), .slice p3 n3 c3, undef, .slice (some ⟨g4, 0, none⟩) 0 0, .pointer (some ⟨w.heap.size, 3, none⟩), .slice p4 n4 c4, undef, undef], []⟩ W) ?_ (fun H00100010 => ?_)
 ·intro listed hl g2 g4 W hS B2 G2 B4 G4
  subst hl
  refine wpAnyH_ready (rs := [0, 8]) (by kernel_rfl) (by simp) ?_
  refine AllReadyH.cons rfl (fun K hK => ?_) (AllReadyH.cons rfl (fun K hK => ?_) AllReadyH.nil)
  ·go_simp
   have B1 : Hid (BX (W.alloc (.cells #[] 74)) W.heap.size #[] 74) := BX.new W _ rfl _ _
   have G1 : Hid (GeN w.heap.size W.heap.size (W.alloc (.cells #[] 74))) := hS.1.size
   have hb := bel1 W (.cells #[] 74)
   refine hK.out _ _ ?hs54 (fun hS2 => ?_)
   case hs54 => exact SC.next hS hb
   try simp only [List.setIfInBounds_toArray, List.set_cons_zero]
   exact H10100010 _ (by kernel_rfl) _ g2 g4 _ hS2 B1 G1 (hide (B2.out.below hb)) (hide (G2.out.below hb)) (hide (B4.out.below hb)) (hide (G4.out.below hb))
  ·go_simp
   have B3 : Hid (BX (W.alloc (.cells #[] 78)) W.heap.size #[] 78) := BX.new W _ rfl _ _
   have G3 : Hid (GeN w.heap.size W.heap.size (W.alloc (.cells #[] 78))) := hS.1.size
   have hb := bel1 W (.cells #[] 78)
   refine hK.out _ _ ?hs55 (fun hS2 => ?_)
   case hs55 => exact SC.next hS hb
   try simp only [List.setIfInBounds_toArray, List.set_cons_zero, List.set_cons_succ]
   exact H00101010 _ (by kernel_rfl) g2 _ g4 _ hS2 (hide (B2.out.below hb)) (hide (G2.out.below hb)) B3 G3 (hide (B4.out.below hb)) (hide (G4.out.below hb))
 refine share_intro _ _ _ _ _ _ _ _ _ (fun Z => ∀ listed : Array Bool, listed = #[false, true, true, false, false, true, true, false, true, true, true, false, true, true, true, false, false, false] → ∀ (g3 : Nat) (g4 : Nat) (W : World), SC w w.heap.size (w.heap.size + 1) #[.slice p1 n1 c1, .slice p2 n2 c2, .slice p3 n3 c3, .slice p4 n4 c4] 31 31 W → Hid (BX W g3 #[] 78) → Hid (GeN w.heap.size g3 W) → Hid (BX W g4 #[] 80) → Hid (GeN w.heap.size g4 W) → Z 8 listed ⟨#[.agg #[.slice p1 n1 c1, .slice p2 n2 c2, .slice p3 n3 c3, .slice p4 n4 c4], .pointer (some ⟨w.heap.size, 0, none⟩), .pointer (some ⟨w.heap.size + 1, 0, none⟩), undef, .pointer (some ⟨w.heap.size, 0, none⟩), .slice p1 n1 c1, undef, undef, .pointer (some ⟨w.heap.size, 1, none⟩), .slice p2 n2 c2, undef, .slice (some ⟨g3, 0, none⟩) 0 0, .pointer (some ⟨w.heap.size, 2, none⟩), .slice p3 n3 c3, undef, .slice (some ⟨g4, 0, none⟩) 0 0, .pointer (some ⟨w.heap.size, 3, none⟩), .slice p4 n4 c4, undef, undef], []⟩ W) ?_ (fun H00001010 => ?_)
 ·intro listed hl g3 g4 W hS B3 G3 B4 G4
  subst hl
  refine wpAnyH_ready (rs := [0, 4]) (by kernel_rfl) (by simp) ?_
  refine AllReadyH.cons rfl (fun K hK => ?_) (AllReadyH.cons rfl (fun K hK => ?_) AllReadyH.nil)
  ·go_simp
   have B1 : Hid (BX (W.alloc (.cells #[] 74)) W.heap.size #[] 74) := BX.new W _ rfl _ _
   have G1 : Hid (GeN w.heap.size W.heap.size (W.alloc (.cells #[] 74))) := hS.1.size
   have hb := bel1 W (.cells #[] 74)
   refine hK.out _ _ ?hs56 (fun hS2 => ?_)
   case hs56 => exact SC.next hS hb
   try simp only [List.setIfInBounds_toArray, List.set_cons_zero]
   exact H10001010 _ (by kernel_rfl) _ g3 g4 _ hS2 B1 G1 (hide (B3.out.below hb)) (hide (G3.out.below hb)) (hide (B4.out.below hb)) (hide (G4.out.below hb))
  ·go_simp
   have B2 : Hid (BX (W.alloc (.cells #[] 76)) W.heap.size #[] 76) := BX.new W _ rfl _ _
   have G2 : Hid (GeN w.heap.size W.heap.size (W.alloc (.cells #[] 76))) := hS.1.size
   have hb := bel1 W (.cells #[] 76)
   refine hK.out _ _ ?hs57 (fun hS2 => ?_)
   case hs57 => exact SC.next hS hb
   try simp only [List.setIfInBounds_toArray, List.set_cons_zero, List.set_cons_succ]
   exact H00101010 _ (by kernel_rfl) _ g3 g4 _ hS2 B2 G2 (hide (B3.out.below hb)) (hide (G3.out.below hb)) (hide (B4.out.below hb)) (hide (G4.out.below hb))
 refine share_intro _ _ _ _ _ _ _ _ _ (fun Z => ∀ listed : Array Bool, listed = #[true, true, true, false, false, true, true, false, false, true, true, false, false, true, true, false, false, false] → ∀ (g1 : Nat) (W : World), SC w w.heap.size (w.heap.size + 1) #[.slice p1 n1 c1, .slice p2 n2 c2, .slice p3 n3 c3, .slice p4 n4 c4] 31 31 W → Hid (BX W g1 #[] 74) → Hid (GeN w.heap.size g1 W) → Z 9 listed ⟨#[.agg #[.slice p1 n1 c1, .slice p2 n2 c2, .slice p3 n3 c3, .slice p4 n4 c4], .pointer (some ⟨w.heap.size, 0, none⟩), .pointer (some ⟨w.heap.size + 1, 0, none⟩), .slice (some ⟨g1, 0, none⟩) 0 0, .pointer (some ⟨w.heap.size, 0, none⟩), .slice p1 n1 c1, undef, undef, .pointer (some ⟨w.heap.size, 1, none⟩), .slice p2 n2 c2, undef, undef, .pointer (some ⟨w.heap.size, 2, none⟩), .slice p3 n3 c3, undef, undef, .pointer (some ⟨w.heap.size, 3, none⟩), .slice p4 n4 c4, undef, undef], []⟩ W) ?_ (fun H10000000 => ?_)
 ·intro listed hl g1 W hS B1 G1
  subst hl
  refine wpAnyH_ready (rs := [3, 4, 8, 12]) (by kernel_rfl) (by simp) ?_
  refine AllReadyH.cons rfl (fun K hK => ?_) (AllReadyH.cons rfl (fun K hK => ?_) (AllReadyH.cons rfl (fun K hK => ?_) (AllReadyH.cons rfl (fun K hK => ?_) AllReadyH.nil)))
  ·rw [if_pos (by kernel_rfl)]
   refine append_fresh _ _ 26 rfl Tryz.underlying26 Tryz.infoH1 w.heap.size g1 hs1 rfl B1.out G1.out p1 n1 c1 rfl K1.out (R1.out.below hS.1) (by have h9 := L1.out; omega) hS.1.size ?_
   intro q1 d1 w' ho5 hb
   have A1 := hide ho5
   clear ho5
   change K (Act.put _ (some 6) _) _
   refine hK.out _ _ ?hs58 (fun hS2 => ?_)
   case hs58 => exact SC.next hS hb
   try simp only [ly]
   exact H11000000 _ (by kernel_rfl) g1 q1 d1 _ hS2 A1
  ·go_simp
   have B2 : Hid (BX (W.alloc (.cells #[] 76)) W.heap.size #[] 76) := BX.new W _ rfl _ _
   have G2 : Hid (GeN w.heap.size W.heap.size (W.alloc (.cells #[] 76))) := hS.1.size
   have hb := bel1 W (.cells #[] 76)
   refine hK.out _ _ ?hs59 (fun hS2 => ?_)
   case hs59 => exact SC.next hS hb
   try simp only [List.setIfInBounds_toArray, List.set_cons_zero, List.set_cons_succ]
   exact H10100000 _ (by kernel_rfl) g1 _ _ hS2 (hide (B1.out.below hb)) (hide (G1.out.below hb)) B2 G2
  ·go_simp
   have B3 : Hid (BX (W.alloc (.cells #[] 78)) W.heap.size #[] 78) := BX.new W _ rfl _ _
   have G3 : Hid (GeN w.heap.size W.heap.size (W.alloc (.cells #[] 78))) := hS.1.size
   have hb := bel1 W (.cells #[] 78)
   refine hK.out _ _ ?hs60 (fun hS2 => ?_)
   case hs60 => exact SC.next hS hb
   try simp only [List.setIfInBounds_toArray, List.set_cons_zero, List.set_cons_succ]
   exact H10001000 _ (by kernel_rfl) g1 _ _ hS2 (hide (B1.out.below hb)) (hide (G1.out.below hb)) B3 G3
  ·go_simp
   have B4 : Hid (BX (W.alloc (.cells #[] 80)) W.heap.size #[] 80) := BX.new W _ rfl _ _
   have G4 : Hid (GeN w.heap.size W.heap.size (W.alloc (.cells #[] 80))) := hS.1.size
   have hb := bel1 W (.cells #[] 80)
   refine hK.out _ _ ?hs61 (fun hS2 => ?_)
   case hs61 => exact SC.next hS hb
   try simp only [List.setIfInBounds_toArray, List.set_cons_zero, List.set_cons_succ]
   exact H10000010 _ (by kernel_rfl) g1 _ _ hS2 (hide (B1.out.below hb)) (hide (G1.out.below hb)) B4 G4
 refine share_intro _ _ _ _ _ _ _ _ _ (fun Z => ∀ listed : Array Bool, listed = #[false, true, true, false, true, true, true, false, false, true, true, false, false, true, true, false, false, false] → ∀ (g2 : Nat) (W : World), SC w w.heap.size (w.heap.size + 1) #[.slice p1 n1 c1, .slice p2 n2 c2, .slice p3 n3 c3, .slice p4 n4 c4] 31 31 W → Hid (BX W g2 #[] 76) → Hid (GeN w.heap.size g2 W) → Z 9 listed ⟨#[.agg #[.slice p1 n1 c1, .slice p2 n2 c2, .slice p3 n3 c3, .slice p4 n4 c4], .pointer (some ⟨w.heap.size, 0, none⟩), .pointer (some ⟨w.heap.size + 1, 0, none⟩), undef, .pointer (some ⟨w.heap.size, 0, none⟩), .slice p1 n1 c1, undef, .slice (some ⟨g2, 0, none⟩) 0 0, .pointer (some ⟨w.heap.size, 1, none⟩), .slice p2 n2 c2, undef, undef, .pointer (some ⟨w.heap.size, 2, none⟩), .slice p3 n3 c3, undef, undef, .pointer (some ⟨w.heap.size, 3, none⟩), .slice p4 n4 c4, undef, undef], []⟩ W) ?_ (fun H00100000 => ?_)
 ·intro listed hl g2 W hS B2 G2
  subst hl
  refine wpAnyH_ready (rs := [0, 8, 12]) (by kernel_rfl) (by simp) ?_
  refine AllReadyH.cons rfl (fun K hK => ?_) (AllReadyH.cons rfl (fun K hK => ?_) (AllReadyH.cons rfl (fun K hK => ?_) AllReadyH.nil))
  ·go_simp
   have B1 : Hid (BX (W.alloc (.cells #[] 74)) W.heap.size #[] 74) := BX.new W _ rfl _ _
   have G1 : Hid (GeN w.heap.size W.heap.size (W.alloc (.cells #[] 74))) := hS.1.size
   have hb := bel1 W (.cells #[] 74)
   refine hK.out _ _ ?hs62 (fun hS2 => ?_)
   case hs62 => exact SC.next hS hb
   try simp only [List.setIfInBounds_toArray, List.set_cons_zero]
   exact H10100000 _ (by kernel_rfl) _ g2 _ hS2 B1 G1 (hide (B2.out.below hb)) (hide (G2.out.below hb))
  ·go_simp
   have B3 : Hid (BX (W.alloc (.cells #[] 78)) W.heap.size #[] 78) := BX.new W _ rfl _ _
   have G3 : Hid (GeN w.heap.size W.heap.size (W.alloc (.cells #[] 78))) := hS.1.size
   have hb := bel1 W (.cells #[] 78)
   refine hK.out _ _ ?hs63 (fun hS2 => ?_)
   case hs63 => exact SC.next hS hb
   try simp only [List.setIfInBounds_toArray, List.set_cons_zero, List.set_cons_succ]
   exact H00101000 _ (by kernel_rfl) g2 _ _ hS2 (hide (B2.out.below hb)) (hide (G2.out.below hb)) B3 G3
  ·go_simp
   have B4 : Hid (BX (W.alloc (.cells #[] 80)) W.heap.size #[] 80) := BX.new W _ rfl _ _
   have G4 : Hid (GeN w.heap.size W.heap.size (W.alloc (.cells #[] 80))) := hS.1.size
   have hb := bel1 W (.cells #[] 80)
   refine hK.out _ _ ?hs64 (fun hS2 => ?_)
   case hs64 => exact SC.next hS hb
   try simp only [List.setIfInBounds_toArray, List.set_cons_zero, List.set_cons_succ]
   exact H00100010 _ (by kernel_rfl) g2 _ _ hS2 (hide (B2.out.below hb)) (hide (G2.out.below hb)) B4 G4
 refine share_intro _ _ _ _ _ _ _ _ _ (fun Z => ∀ listed : Array Bool, listed = #[false, true, true, false, false, true, true, false, true, true, true, false, false, true, true, false, false, false] → ∀ (g3 : Nat) (W : World), SC w w.heap.size (w.heap.size + 1) #[.slice p1 n1 c1, .slice p2 n2 c2, .slice p3 n3 c3, .slice p4 n4 c4] 31 31 W → Hid (BX W g3 #[] 78) → Hid (GeN w.heap.size g3 W) → Z 9 listed ⟨#[.agg #[.slice p1 n1 c1, .slice p2 n2 c2, .slice p3 n3 c3, .slice p4 n4 c4], .pointer (some ⟨w.heap.size, 0, none⟩), .pointer (some ⟨w.heap.size + 1, 0, none⟩), undef, .pointer (some ⟨w.heap.size, 0, none⟩), .slice p1 n1 c1, undef, undef, .pointer (some ⟨w.heap.size, 1, none⟩), .slice p2 n2 c2, undef, .slice (some ⟨g3, 0, none⟩) 0 0, .pointer (some ⟨w.heap.size, 2, none⟩), .slice p3 n3 c3, undef, undef, .pointer (some ⟨w.heap.size, 3, none⟩), .slice p4 n4 c4, undef, undef], []⟩ W) ?_ (fun H00001000 => ?_)
 ·intro listed hl g3 W hS B3 G3
  subst hl
  refine wpAnyH_ready (rs := [0, 4, 12]) (by kernel_rfl) (by simp) ?_
  refine AllReadyH.cons rfl (fun K hK => ?_) (AllReadyH.cons rfl (fun K hK => ?_) (AllReadyH.cons rfl (fun K hK => ?_) AllReadyH.nil))
  ·go_simp
   have B1 : Hid (BX (W.alloc (.cells #[] 74)) W.heap.size #[] 74) := BX.new W _ rfl _ _
   have G1 : Hid (GeN w.heap.size W.heap.size (W.alloc (.cells #[] 74))) := hS.1.size
   have hb := bel1 W (.cells #[] 74)
   refine hK.out _ _ ?hs65 (fun hS2 => ?_)
   case hs65 => exact SC.next hS hb
   try simp only [List.setIfInBounds_toArray, List.set_cons_zero]
   exact H10001000 _ (by kernel_rfl) _ g3 _ hS2 B1 G1 (hide (B3.out.below hb)) (hide (G3.out.below hb))
  ·go_simp
   have B2 : Hid (BX (W.alloc (.cells #[] 76)) W.heap.size #[] 76) := BX.new W _ rfl _ _
   have G2 : Hid (GeN w.heap.size W.heap.size (W.alloc (.cells #[] 76))) := hS.1.size
   have hb := bel1 W (.cells #[] 76)
   refine hK.out _ _ ?hs66 (fun hS2 => ?_)
   case hs66 => exact SC.next hS hb
   try simp only [List.setIfInBounds_toArray, List.set_cons_zero, List.set_cons_succ]
   exact H00101000 _ (by kernel_rfl) _ g3 _ hS2 B2 G2 (hide (B3.out.below hb)) (hide (G3.out.below hb))
  ·go_simp
   have B4 : Hid (BX (W.alloc (.cells #[] 80)) W.heap.size #[] 80) := BX.new W _ rfl _ _
   have G4 : Hid (GeN w.heap.size W.heap.size (W.alloc (.cells #[] 80))) := hS.1.size
   have hb := bel1 W (.cells #[] 80)
   refine hK.out _ _ ?hs67 (fun hS2 => ?_)
   case hs67 => exact SC.next hS hb
   try simp only [List.setIfInBounds_toArray, List.set_cons_zero, List.set_cons_succ]
   exact H00001010 _ (by kernel_rfl) g3 _ _ hS2 (hide (B3.out.below hb)) (hide (G3.out.below hb)) B4 G4
 refine share_intro _ _ _ _ _ _ _ _ _ (fun Z => ∀ listed : Array Bool, listed = #[false, true, true, false, false, true, true, false, false, true, true, false, true, true, true, false, false, false] → ∀ (g4 : Nat) (W : World), SC w w.heap.size (w.heap.size + 1) #[.slice p1 n1 c1, .slice p2 n2 c2, .slice p3 n3 c3, .slice p4 n4 c4] 31 31 W → Hid (BX W g4 #[] 80) → Hid (GeN w.heap.size g4 W) → Z 9 listed ⟨#[.agg #[.slice p1 n1 c1, .slice p2 n2 c2, .slice p3 n3 c3, .slice p4 n4 c4], .pointer (some ⟨w.heap.size, 0, none⟩), .pointer (some ⟨w.heap.size + 1, 0, none⟩), undef, .pointer (some ⟨w.heap.size, 0, none⟩), .slice p1 n1 c1, undef, undef, .pointer (some ⟨w.heap.size, 1, none⟩), .slice p2 n2 c2, undef, undef, .pointer (some ⟨w.heap.size, 2, none⟩), .slice p3 n3 c3, undef, .slice (some ⟨g4, 0, none⟩) 0 0, .pointer (some ⟨w.heap.size, 3, none⟩), .slice p4 n4 c4, undef, undef], []⟩ W) ?_ (fun H00000010 => ?_)
 ·intro listed hl g4 W hS B4 G4
  subst hl
  refine wpAnyH_ready (rs := [0, 4, 8]) (by kernel_rfl) (by simp) ?_
  refine AllReadyH.cons rfl (fun K hK => ?_) (AllReadyH.cons rfl (fun K hK => ?_) (AllReadyH.cons rfl (fun K hK => ?_) AllReadyH.nil))
  ·go_simp
   have B1 : Hid (BX (W.alloc (.cells #[] 74)) W.heap.size #[] 74) := BX.new W _ rfl _ _
   have G1 : Hid (GeN w.heap.size W.heap.size (W.alloc (.cells #[] 74))) := hS.1.size
   have hb := bel1 W (.cells #[] 74)
   refine hK.out _ _ ?hs68 (fun hS2 => ?_)
   case hs68 => exact SC.next hS hb
   try simp only [List.setIfInBounds_toArray, List.set_cons_zero]
   exact H10000010 _ (by kernel_rfl) _ g4 _ hS2 B1 G1 (hide (B4.out.below hb)) (hide (G4.out.below hb))
  ·go_simp
   have B2 : Hid (BX (W.alloc (.cells #[] 76)) W.heap.size #[] 76) := BX.new W _ rfl _ _
   have G2 : Hid (GeN w.heap.size W.heap.size (W.alloc (.cells #[] 76))) := hS.1.size
   have hb := bel1 W (.cells #[] 76)
   refine hK.out _ _ ?hs69 (fun hS2 => ?_)
   case hs69 => exact SC.next hS hb
   try simp only [List.setIfInBounds_toArray, List.set_cons_zero, List.set_cons_succ]
   exact H00100010 _ (by kernel_rfl) _ g4 _ hS2 B2 G2 (hide (B4.out.below hb)) (hide (G4.out.below hb))
  ·go_simp
   have B3 : Hid (BX (W.alloc (.cells #[] 78)) W.heap.size #[] 78) := BX.new W _ rfl _ _
   have G3 : Hid (GeN w.heap.size W.heap.size (W.alloc (.cells #[] 78))) := hS.1.size
   have hb := bel1 W (.cells #[] 78)
   refine hK.out _ _ ?hs70 (fun hS2 => ?_)
   case hs70 => exact SC.next hS hb
   try simp only [List.setIfInBounds_toArray, List.set_cons_zero, List.set_cons_succ]
   exact H00001010 _ (by kernel_rfl) _ g4 _ hS2 B3 G3 (hide (B4.out.below hb)) (hide (G4.out.below hb))
 refine share_intro _ _ _ _ _ _ _ _ _ (fun Z => ∀ listed : Array Bool, listed = #[false, true, true, false, false, true, true, false, false, true, true, false, false, true, true, false, false, false] → ∀ (W : World), SC w w.heap.size (w.heap.size + 1) #[.slice p1 n1 c1, .slice p2 n2 c2, .slice p3 n3 c3, .slice p4 n4 c4] 31 31 W → Z 10 listed ⟨#[.agg #[.slice p1 n1 c1, .slice p2 n2 c2, .slice p3 n3 c3, .slice p4 n4 c4], .pointer (some ⟨w.heap.size, 0, none⟩), .pointer (some ⟨w.heap.size + 1, 0, none⟩), undef, .pointer (some ⟨w.heap.size, 0, none⟩), .slice p1 n1 c1, undef, undef, .pointer (some ⟨w.heap.size, 1, none⟩), .slice p2 n2 c2, undef, undef, .pointer (some ⟨w.heap.size, 2, none⟩), .slice p3 n3 c3, undef, undef, .pointer (some ⟨w.heap.size, 3, none⟩), .slice p4 n4 c4, undef, undef], []⟩ W) ?_ (fun H00000000 => ?_)
 ·intro listed hl  W hS 
  subst hl
  refine wpAnyH_ready (rs := [0, 4, 8, 12]) (by kernel_rfl) (by simp) ?_
  refine AllReadyH.cons rfl (fun K hK => ?_) (AllReadyH.cons rfl (fun K hK => ?_) (AllReadyH.cons rfl (fun K hK => ?_) (AllReadyH.cons rfl (fun K hK => ?_) AllReadyH.nil)))
  ·go_simp
   have B1 : Hid (BX (W.alloc (.cells #[] 74)) W.heap.size #[] 74) := BX.new W _ rfl _ _
   have G1 : Hid (GeN w.heap.size W.heap.size (W.alloc (.cells #[] 74))) := hS.1.size
   have hb := bel1 W (.cells #[] 74)
   refine hK.out _ _ ?hs71 (fun hS2 => ?_)
   case hs71 => exact SC.next hS hb
   try simp only [List.setIfInBounds_toArray, List.set_cons_zero]
   exact H10000000 _ (by kernel_rfl) _ _ hS2 B1 G1
  ·go_simp
   have B2 : Hid (BX (W.alloc (.cells #[] 76)) W.heap.size #[] 76) := BX.new W _ rfl _ _
   have G2 : Hid (GeN w.heap.size W.heap.size (W.alloc (.cells #[] 76))) := hS.1.size
   have hb := bel1 W (.cells #[] 76)
   refine hK.out _ _ ?hs72 (fun hS2 => ?_)
   case hs72 => exact SC.next hS hb
   try simp only [List.setIfInBounds_toArray, List.set_cons_zero, List.set_cons_succ]
   exact H00100000 _ (by kernel_rfl) _ _ hS2 B2 G2
  ·go_simp
   have B3 : Hid (BX (W.alloc (.cells #[] 78)) W.heap.size #[] 78) := BX.new W _ rfl _ _
   have G3 : Hid (GeN w.heap.size W.heap.size (W.alloc (.cells #[] 78))) := hS.1.size
   have hb := bel1 W (.cells #[] 78)
   refine hK.out _ _ ?hs73 (fun hS2 => ?_)
   case hs73 => exact SC.next hS hb
   try simp only [List.setIfInBounds_toArray, List.set_cons_zero, List.set_cons_succ]
   exact H00001000 _ (by kernel_rfl) _ _ hS2 B3 G3
  ·go_simp
   have B4 : Hid (BX (W.alloc (.cells #[] 80)) W.heap.size #[] 80) := BX.new W _ rfl _ _
   have G4 : Hid (GeN w.heap.size W.heap.size (W.alloc (.cells #[] 80))) := hS.1.size
   have hb := bel1 W (.cells #[] 80)
   refine hK.out _ _ ?hs74 (fun hS2 => ?_)
   case hs74 => exact SC.next hS hb
   try simp only [List.setIfInBounds_toArray, List.set_cons_zero, List.set_cons_succ]
   exact H00000010 _ (by kernel_rfl) _ _ hS2 B4 G4
 exact H00000000 _ (by kernel_rfl) _ hS0

theorem copied_any (p1 : Option Addr) (n1 c1 : Nat) (p2 : Option Addr) (n2 c2 : Nat) (p3 : Option Addr) (n3 c3 : Nat) (p4 : Option Addr) (n4 c4 : Nat) (r : Rw) (w : World) (hR : RM w p1 n1 c1 p2 n2 c2 p3 n3 c3 p4 n4 c4 r) (hn : n1 ≤ 1000 ∧ n2 ≤ 1000 ∧ n3 ≤ 1000 ∧ n4 ≤ 1000) : Calls Tryz.prog 60 #[.agg #[.slice p1 n1 c1, .slice p2 n2 c2, .slice p3 n3 c3, .slice p4 n4 c4]] w fun e w' => ∃ q1 d1 q2 d2 q3 d3 q4 d4 hs1 hs2 hs3 hs4, e = .returned (.agg #[.slice q1 n1 d1, .slice q2 n2 d2, .slice q3 n3 d3, .slice q4 n4 d4]) ∧ OW w.heap.size w' q1 n1 d1 q2 n2 d2 q3 n3 d3 q4 n4 d4 hs1 hs2 hs3 hs4 ∧ RH w' hs1 hs2 hs3 hs4 r ∧ Below w.heap.size w w' := by
 obtain ⟨hs1, a1, b1⟩ := hR.s
 obtain ⟨hs2, a2, b2⟩ := hR.t
 obtain ⟨hs3, a3, b3⟩ := hR.a
 obtain ⟨hs4, a4, b4⟩ := hR.g
 refine (copied_raw p1 n1 c1 p2 n2 c2 p3 n3 c3 p4 n4 c4 hs1 hs2 hs3 hs4 w a1 a2 a3 a4 hR.cs hR.ct hR.ca hR.cg hn).mono ?_
 rintro e w' ⟨q1, d1, q2, d2, q3, d3, q4, d4, he, ho, hb⟩
 exact ⟨q1, d1, q2, d2, q3, d3, q4, d4, hs1, hs2, hs3, hs4, he, ho, ⟨b1.below kept_ent hb, b2.below kept_cel hb, b3.below kept_acc hb, b4.below kept_not hb⟩, hb⟩
end Go.Proofs.YtkbbegbpkndebaaGreat

