/- Texts of this claim, joined: HP6. -/
import Derived.Test.YtkbbegbpkndebaaGreatJ17
import Derived.Test.YtkbbegbpkndebaaGreatJ42
import Derived.Test.YtkbbegbpkndebaaGreatJ43
import Derived.Test.YtkbbegbpkndebaaGreatJ44
/- New, Plain, Clean and Same of layer 13 (the program). -/
namespace Go.Proofs.YtkbbegbpkndebaaGreat
open Go.RowKit Go.Lib
set_option linter.unusedVariables false
theorem chkK_yes {k : Kd} (h : kindsB k = true) : chkK k = 0 := by unfold chkK; rw [if_pos h]
theorem chkK_no {k : Kd} (h : kindsB k = false) : chkK k = 1 := by unfold chkK; rw [if_neg (by rw [h]; decide)]
theorem chkW_yes {k : Kd} {r : Rw} (h : mayW k r = true) : chkW k r = 0 := by unfold chkW; rw [if_pos h]
theorem chkW_not {k : Kd} {r : Rw} (h : mayW k r = false) : chkW k r = 1 := by unfold chkW; rw [if_neg (by rw [h]; decide)]
theorem may_set9 {k : Kd} {r : Rw} (h : mayW k r = true) (i : Nat) (s : List En) (hr : rK k i = true) (hs : r.1[i]? = some s) : mayS9 s = true := by
 have hk : k.1[i]? = some true := by
  have q : k.1.getD i false = true := hr
  rw [List.getD_eq_getElem?_getD] at q
  rcases hx : k.1[i]? with _ | b
  ·rw [hx] at q; cases q
  ·rw [hx] at q; simp at q; rw [q]
 have q := (mayW_iff.1 h).2.2.1 i _ _ hk hs
 unfold setB at q
 rwa [if_pos rfl] at q
set_option maxRecDepth 4000 in
set_option maxHeartbeats 16000000 in
theorem New13_rows (ps : Option Addr) (ns cs : Nat) (pc : Option Addr) (nc cc : Nat) (k : Kd) (gn : Nat) (w : World) (hg : k.2.2 = (gn : Int)) (hK : KM w ps ns cs pc nc cc k) (hk : kindsB k = true) (hn : ns ≤ 1000 ∧ nc ≤ 1000 ∧ gn ≤ 1000) : Calls Tryz.prog 21 #[.agg #[.slice ps ns cs, .slice pc nc cc, .int .i64 (gn : Int)]] w fun e w' => ∃ q1 d1 q2 d2 q3 d3 q4 d4, e = .returned (.tuple #[.agg #[.slice q1 ns d1, .slice q2 nc d2, .slice q3 nc d3, .slice q4 gn d4], .int .i64 0]) ∧ OW w.heap.size w' q1 ns d1 q2 nc d2 q3 nc d3 q4 gn d4 (List.replicate ns (none, 0, 0)) (List.replicate nc (none, 0, 0)) (List.replicate nc (none, 0, 0)) (List.replicate gn (none, 0, 0)) ∧ Below w.heap.size w w' := by
 obtain ⟨C1, m1, v1⟩ := make_heads Tryz.underlying26 Tryz.infoH1 ns (by omega)
 have V1 : Hid (∀ W : World, w.heap.size ≤ W.heap.size → OH 74 w.heap.size (W.alloc (.cells C1 74)) (.slice (some ⟨W.heap.size, 0, none⟩) ns ns) (List.replicate ns (none, 0, 0))) := fun W h => v1 W h
 clear v1
 obtain ⟨C2, m2, v2⟩ := make_heads Tryz.underlying27 Tryz.infoH2 nc (by omega)
 have V2 : Hid (∀ W : World, w.heap.size ≤ W.heap.size → OH 76 w.heap.size (W.alloc (.cells C2 76)) (.slice (some ⟨W.heap.size, 0, none⟩) nc nc) (List.replicate nc (none, 0, 0))) := fun W h => v2 W h
 clear v2
 obtain ⟨C3, m3, v3⟩ := make_heads Tryz.underlying28 Tryz.infoH3 nc (by omega)
 have V3 : Hid (∀ W : World, w.heap.size ≤ W.heap.size → OH 78 w.heap.size (W.alloc (.cells C3 78)) (.slice (some ⟨W.heap.size, 0, none⟩) nc nc) (List.replicate nc (none, 0, 0))) := fun W h => v3 W h
 clear v3
 obtain ⟨C4, m4, v4⟩ := make_heads Tryz.underlying29 Tryz.infoH4 gn (by omega)
 have V4 : Hid (∀ W : World, w.heap.size ≤ W.heap.size → OH 80 w.heap.size (W.alloc (.cells C4 80)) (.slice (some ⟨W.heap.size, 0, none⟩) gn gn) (List.replicate gn (none, 0, 0))) := fun W h => v4 W h
 clear v4
 have HS0 : Hid (SC w w.heap.size (w.heap.size + 1) #[.slice ps ns cs, .slice pc nc cc, .int .i64 (gn : Int)] 25 31 ((w.alloc (.cells #[.slice ps ns cs, .slice pc nc cc, .int .i64 (gn : Int)] 25)).alloc (.cells #[.slice none 0 0, .slice none 0 0, .slice none 0 0, .slice none 0 0] 31))) := ⟨bel2 _ _ _, (BX.new w _ rfl _ _).alloc _, _, _, _, _, BX.new (w.alloc (.cells #[.slice ps ns cs, .slice pc nc cc, .int .i64 (gn : Int)] 25)) _ (by simp) _ _⟩
 have hne : w.heap.size + 1 ≠ w.heap.size := by omega
 have hge : w.heap.size ≤ w.heap.size + 1 := by omega
 have HK := hide hK
 have HCK := hide (chkK_yes hk)
 have a0 := HS0.out.2.1.cell 0 _ rfl
 have a1 := HS0.out.2.1.cell 1 _ rfl
 have a2 := HS0.out.2.1.cell 2 _ rfl
 clear hK hk
 go_enter Tryz.func21, Tryz.ntmps21
 go_wp2_with (go_at_call 15; refine (CheckKinds13 _ _ _ _ _ _ k _ _ hg (HK.out.below HS0.out.1)).mono ?_; rintro e w1 ⟨rfl, hb⟩; rw [HCK.out]; replace HS0 := hide (SC.next HS0.out hb); clear hb; refine Stop.at ?_)
 unfold Stop
 clear a0 a1 a2
 generalize hww : w1 = u at *
 clear hww
 go_upto_region 3 with fail
 refine wp_region_held_drew (S := SC w w.heap.size (w.heap.size + 1) #[.slice ps ns cs, .slice pc nc cc, .int .i64 (gn : Int)] 25 31) (by kernel_rfl) (HS0.out.next (Below.refl _ _).drew) (fun hS0 => ?_)
 refine tkJ 0 8 hS0 ?_; simp only [ly]
 refine tkL 1 9 hS0 ?h ?_; case h => (intro W hW; have e0 := hW.2.1.cell 0 _ rfl; have e1 := hW.2.1.cell 1 _ rfl; have e2 := hW.2.1.cell 2 _ rfl; clear hW; go_simp; try rfl); simp only [ly]
 refine tkJ 2 10 hS0 ?_; simp only [ly]
 refine tkJ 4 12 hS0 ?_; simp only [ly]
 refine tkL 5 13 hS0 ?h ?_; case h => (intro W hW; have e0 := hW.2.1.cell 0 _ rfl; have e1 := hW.2.1.cell 1 _ rfl; have e2 := hW.2.1.cell 2 _ rfl; clear hW; go_simp; try rfl); simp only [ly]
 refine tkJ 6 14 hS0 ?_; simp only [ly]
 refine tkJ 8 16 hS0 ?_; simp only [ly]
 refine tkL 9 17 hS0 ?h ?_; case h => (intro W hW; have e0 := hW.2.1.cell 0 _ rfl; have e1 := hW.2.1.cell 1 _ rfl; have e2 := hW.2.1.cell 2 _ rfl; clear hW; go_simp; try rfl); simp only [ly]
 refine tkJ 10 18 hS0 ?_; simp only [ly]
 refine tkJ 12 20 hS0 ?_; simp only [ly]
 refine tkL 13 21 hS0 ?h ?_; case h => (intro W hW; have e0 := hW.2.1.cell 0 _ rfl; have e1 := hW.2.1.cell 1 _ rfl; have e2 := hW.2.1.cell 2 _ rfl; clear hW; go_simp; try rfl); simp only [ly]
 refine share_intro _ _ _ _ _ _ _ _ _ (fun Z => ∀ listed : Array Bool, listed = #[true, true, true, true, true, true, true, true, true, true, true, true, true, true, true, false, false, false] → ∀ (g1 : Nat) (g2 : Nat) (g3 : Nat) (g4 : Nat) (W : World), SC w w.heap.size (w.heap.size + 1) #[.slice ps ns cs, .slice pc nc cc, .int .i64 (gn : Int)] 25 31 W → Hid (OH 74 w.heap.size W (.slice (some ⟨g1, 0, none⟩) ns ns) (List.replicate ns (none, 0, 0))) → Hid (OH 76 w.heap.size W (.slice (some ⟨g2, 0, none⟩) nc nc) (List.replicate nc (none, 0, 0))) → Hid (OH 78 w.heap.size W (.slice (some ⟨g3, 0, none⟩) nc nc) (List.replicate nc (none, 0, 0))) → Hid (OH 80 w.heap.size W (.slice (some ⟨g4, 0, none⟩) gn gn) (List.replicate gn (none, 0, 0))) → Z 3 listed ⟨#[.agg #[.slice ps ns cs, .slice pc nc cc, .int .i64 (gn : Int)], .pointer (some ⟨w.heap.size, 0, none⟩), .pointer (some ⟨w.heap.size + 1, 0, none⟩), .int .i64 0, .agg #[.slice ps ns cs, .slice pc nc cc, .int .i64 (gn : Int)], .int .i64 0, .bool false, undef, .pointer (some ⟨w.heap.size, 0, none⟩), .slice ps ns cs, .int .i64 (ns : Int), .slice (some ⟨g1, 0, none⟩) ns ns, .pointer (some ⟨w.heap.size, 1, none⟩), .slice pc nc cc, .int .i64 (nc : Int), .slice (some ⟨g2, 0, none⟩) nc nc, .pointer (some ⟨w.heap.size, 1, none⟩), .slice pc nc cc, .int .i64 (nc : Int), .slice (some ⟨g3, 0, none⟩) nc nc, .pointer (some ⟨w.heap.size, 2, none⟩), .int .i64 (gn : Int), .slice (some ⟨g4, 0, none⟩) gn gn, undef], []⟩ W) ?_ (fun H1111 => ?_)
 ·intro listed hl g1 g2 g3 g4 W hS A1 A2 A3 A4
  subst hl
  have hS0 := hS
  refine tkJ 15 23 hS0 ?_; simp only [ly]
  refine wpAnyH_ready (rs := [16]) (by kernel_rfl) (by simp) ?_
  refine AllReadyH.cons rfl (fun K hK => ?_) AllReadyH.nil
  obtain ⟨x0, x1, x2, x3, hXR⟩ := hS0.2.2
  have e0 := hXR.cell 0 _ rfl
  have e1 := hXR.cell 1 _ rfl
  have e2 := hXR.cell 2 _ rfl
  have e3 := hXR.cell 3 _ rfl
  have z0 := hXR.free 0
  have z1 := hXR.free 1
  have z2 := hXR.free 2
  have z3 := hXR.free 3
  go_simp
  refine hK.out _ _ ?hs13 (fun hS1 => ?_)
  case hs13 => exact SC.put hS0 hne hge _ _ _ _
  clear hK K
  try simp only [List.setIfInBounds_toArray, List.set_cons_zero, List.set_cons_succ]
  refine tkJ 17 3 hS1 ?_; simp only [ly]
  refine wpAnyH_done (by kernel_rfl) ?_ _
  have hY := hXR.put4 (.slice (some ⟨g1, 0, none⟩) ns ns) (.slice (some ⟨g2, 0, none⟩) nc nc) (.slice (some ⟨g3, 0, none⟩) nc nc) (.slice (some ⟨g4, 0, none⟩) gn gn)
  go_wp2
  refine bodyPost_ret (results_cell_tmp rfl _ _ _ _ _ _ _ _ rfl rfl hY Tryz.underlying31 rfl (by kernel_rfl)) rfl ?_
  exact ⟨some ⟨g1, 0, none⟩, ns, some ⟨g2, 0, none⟩, nc, some ⟨g3, 0, none⟩, nc, some ⟨g4, 0, none⟩, gn, rfl, ⟨A1.out.put4 hXR (by decide) _ _ _ _, A2.out.put4 hXR (by decide) _ _ _ _, A3.out.put4 hXR (by decide) _ _ _ _, A4.out.put4 hXR (by decide) _ _ _ _⟩, hS1.1⟩
 refine share_intro _ _ _ _ _ _ _ _ _ (fun Z => ∀ listed : Array Bool, listed = #[true, true, true, true, true, true, true, true, true, true, true, true, true, true, false, false, false, false] → ∀ (g1 : Nat) (g2 : Nat) (g3 : Nat) (W : World), SC w w.heap.size (w.heap.size + 1) #[.slice ps ns cs, .slice pc nc cc, .int .i64 (gn : Int)] 25 31 W → Hid (OH 74 w.heap.size W (.slice (some ⟨g1, 0, none⟩) ns ns) (List.replicate ns (none, 0, 0))) → Hid (OH 76 w.heap.size W (.slice (some ⟨g2, 0, none⟩) nc nc) (List.replicate nc (none, 0, 0))) → Hid (OH 78 w.heap.size W (.slice (some ⟨g3, 0, none⟩) nc nc) (List.replicate nc (none, 0, 0))) → Z 4 listed ⟨#[.agg #[.slice ps ns cs, .slice pc nc cc, .int .i64 (gn : Int)], .pointer (some ⟨w.heap.size, 0, none⟩), .pointer (some ⟨w.heap.size + 1, 0, none⟩), .int .i64 0, .agg #[.slice ps ns cs, .slice pc nc cc, .int .i64 (gn : Int)], .int .i64 0, .bool false, undef, .pointer (some ⟨w.heap.size, 0, none⟩), .slice ps ns cs, .int .i64 (ns : Int), .slice (some ⟨g1, 0, none⟩) ns ns, .pointer (some ⟨w.heap.size, 1, none⟩), .slice pc nc cc, .int .i64 (nc : Int), .slice (some ⟨g2, 0, none⟩) nc nc, .pointer (some ⟨w.heap.size, 1, none⟩), .slice pc nc cc, .int .i64 (nc : Int), .slice (some ⟨g3, 0, none⟩) nc nc, .pointer (some ⟨w.heap.size, 2, none⟩), .int .i64 (gn : Int), undef, undef], []⟩ W) ?_ (fun H1110 => ?_)
 ·intro listed hl g1 g2 g3 W hS A1 A2 A3
  subst hl
  refine wpAnyH_ready (rs := [14]) (by kernel_rfl) (by simp) ?_
  refine AllReadyH.cons rfl (fun K hK => ?_) AllReadyH.nil
  go_simp
  have A4 := hide (V4.out W hS.1.size)
  have hb := bel1 W (.cells C4 80)
  refine hK.out _ _ ?hs15 (fun hS2 => ?_)
  case hs15 => exact SC.next hS hb
  try simp only [List.setIfInBounds_toArray, List.set_cons_zero, List.set_cons_succ]
  exact H1111 _ (by kernel_rfl) g1 g2 g3 _ _ hS2 (hide (A1.out.below hb)) (hide (A2.out.below hb)) (hide (A3.out.below hb)) A4
 refine share_intro _ _ _ _ _ _ _ _ _ (fun Z => ∀ listed : Array Bool, listed = #[true, true, true, true, true, true, true, true, true, true, true, false, true, true, true, false, false, false] → ∀ (g1 : Nat) (g2 : Nat) (g4 : Nat) (W : World), SC w w.heap.size (w.heap.size + 1) #[.slice ps ns cs, .slice pc nc cc, .int .i64 (gn : Int)] 25 31 W → Hid (OH 74 w.heap.size W (.slice (some ⟨g1, 0, none⟩) ns ns) (List.replicate ns (none, 0, 0))) → Hid (OH 76 w.heap.size W (.slice (some ⟨g2, 0, none⟩) nc nc) (List.replicate nc (none, 0, 0))) → Hid (OH 80 w.heap.size W (.slice (some ⟨g4, 0, none⟩) gn gn) (List.replicate gn (none, 0, 0))) → Z 4 listed ⟨#[.agg #[.slice ps ns cs, .slice pc nc cc, .int .i64 (gn : Int)], .pointer (some ⟨w.heap.size, 0, none⟩), .pointer (some ⟨w.heap.size + 1, 0, none⟩), .int .i64 0, .agg #[.slice ps ns cs, .slice pc nc cc, .int .i64 (gn : Int)], .int .i64 0, .bool false, undef, .pointer (some ⟨w.heap.size, 0, none⟩), .slice ps ns cs, .int .i64 (ns : Int), .slice (some ⟨g1, 0, none⟩) ns ns, .pointer (some ⟨w.heap.size, 1, none⟩), .slice pc nc cc, .int .i64 (nc : Int), .slice (some ⟨g2, 0, none⟩) nc nc, .pointer (some ⟨w.heap.size, 1, none⟩), .slice pc nc cc, .int .i64 (nc : Int), undef, .pointer (some ⟨w.heap.size, 2, none⟩), .int .i64 (gn : Int), .slice (some ⟨g4, 0, none⟩) gn gn, undef], []⟩ W) ?_ (fun H1101 => ?_)
 ·intro listed hl g1 g2 g4 W hS A1 A2 A4
  subst hl
  refine wpAnyH_ready (rs := [11]) (by kernel_rfl) (by simp) ?_
  refine AllReadyH.cons rfl (fun K hK => ?_) AllReadyH.nil
  go_simp
  have A3 := hide (V3.out W hS.1.size)
  have hb := bel1 W (.cells C3 78)
  refine hK.out _ _ ?hs16 (fun hS2 => ?_)
  case hs16 => exact SC.next hS hb
  try simp only [List.setIfInBounds_toArray, List.set_cons_zero, List.set_cons_succ]
  exact H1111 _ (by kernel_rfl) g1 g2 _ g4 _ hS2 (hide (A1.out.below hb)) (hide (A2.out.below hb)) A3 (hide (A4.out.below hb))
 refine share_intro _ _ _ _ _ _ _ _ _ (fun Z => ∀ listed : Array Bool, listed = #[true, true, true, true, true, true, true, false, true, true, true, true, true, true, true, false, false, false] → ∀ (g1 : Nat) (g3 : Nat) (g4 : Nat) (W : World), SC w w.heap.size (w.heap.size + 1) #[.slice ps ns cs, .slice pc nc cc, .int .i64 (gn : Int)] 25 31 W → Hid (OH 74 w.heap.size W (.slice (some ⟨g1, 0, none⟩) ns ns) (List.replicate ns (none, 0, 0))) → Hid (OH 78 w.heap.size W (.slice (some ⟨g3, 0, none⟩) nc nc) (List.replicate nc (none, 0, 0))) → Hid (OH 80 w.heap.size W (.slice (some ⟨g4, 0, none⟩) gn gn) (List.replicate gn (none, 0, 0))) → Z 4 listed ⟨#[.agg #[.slice ps ns cs, .slice pc nc cc, .int .i64 (gn : Int)], .pointer (some ⟨w.heap.size, 0, none⟩), .pointer (some ⟨w.heap.size + 1, 0, none⟩), .int .i64 0, .agg #[.slice ps ns cs, .slice pc nc cc, .int .i64 (gn : Int)], .int .i64 0, .bool false, undef, .pointer (some ⟨w.heap.size, 0, none⟩), .slice ps ns cs, .int .i64 (ns : Int), .slice (some ⟨g1, 0, none⟩) ns ns, .pointer (some ⟨w.heap.size, 1, none⟩), .slice pc nc cc, .int .i64 (nc : Int), undef, .pointer (some ⟨w.heap.size, 1, none⟩), .slice pc nc cc, .int .i64 (nc : Int), .slice (some ⟨g3, 0, none⟩) nc nc, .pointer (some ⟨w.heap.size, 2, none⟩), .int .i64 (gn : Int), .slice (some ⟨g4, 0, none⟩) gn gn, undef], []⟩ W) ?_ (fun H1011 => ?_)
 ·intro listed hl g1 g3 g4 W hS A1 A3 A4
  subst hl
  refine wpAnyH_ready (rs := [7]) (by kernel_rfl) (by simp) ?_
  refine AllReadyH.cons rfl (fun K hK => ?_) AllReadyH.nil
  go_simp
  have A2 := hide (V2.out W hS.1.size)
  have hb := bel1 W (.cells C2 76)
  refine hK.out _ _ ?hs17 (fun hS2 => ?_)
  case hs17 => exact SC.next hS hb
  try simp only [List.setIfInBounds_toArray, List.set_cons_zero, List.set_cons_succ]
  exact H1111 _ (by kernel_rfl) g1 _ g3 g4 _ hS2 (hide (A1.out.below hb)) A2 (hide (A3.out.below hb)) (hide (A4.out.below hb))
 refine share_intro _ _ _ _ _ _ _ _ _ (fun Z => ∀ listed : Array Bool, listed = #[true, true, true, false, true, true, true, true, true, true, true, true, true, true, true, false, false, false] → ∀ (g2 : Nat) (g3 : Nat) (g4 : Nat) (W : World), SC w w.heap.size (w.heap.size + 1) #[.slice ps ns cs, .slice pc nc cc, .int .i64 (gn : Int)] 25 31 W → Hid (OH 76 w.heap.size W (.slice (some ⟨g2, 0, none⟩) nc nc) (List.replicate nc (none, 0, 0))) → Hid (OH 78 w.heap.size W (.slice (some ⟨g3, 0, none⟩) nc nc) (List.replicate nc (none, 0, 0))) → Hid (OH 80 w.heap.size W (.slice (some ⟨g4, 0, none⟩) gn gn) (List.replicate gn (none, 0, 0))) → Z 4 listed ⟨#[.agg #[.slice ps ns cs, .slice pc nc cc, .int .i64 (gn : Int)], .pointer (some ⟨w.heap.size, 0, none⟩), .pointer (some ⟨w.heap.size + 1, 0, none⟩), .int .i64 0, .agg #[.slice ps ns cs, .slice pc nc cc, .int .i64 (gn : Int)], .int .i64 0, .bool false, undef, .pointer (some ⟨w.heap.size, 0, none⟩), .slice ps ns cs, .int .i64 (ns : Int), undef, .pointer (some ⟨w.heap.size, 1, none⟩), .slice pc nc cc, .int .i64 (nc : Int), .slice (some ⟨g2, 0, none⟩) nc nc, .pointer (some ⟨w.heap.size, 1, none⟩), .slice pc nc cc, .int .i64 (nc : Int), .slice (some ⟨g3, 0, none⟩) nc nc, .pointer (some ⟨w.heap.size, 2, none⟩), .int .i64 (gn : Int), .slice (some ⟨g4, 0, none⟩) gn gn, undef], []⟩ W) ?_ (fun H0111 => ?_)
 ·intro listed hl g2 g3 g4 W hS A2 A3 A4
  subst hl
  refine wpAnyH_ready (rs := [3]) (by kernel_rfl) (by simp) ?_
  refine AllReadyH.cons rfl (fun K hK => ?_) AllReadyH.nil
  go_simp
  have A1 := hide (V1.out W hS.1.size)
  have hb := bel1 W (.cells C1 74)
  refine hK.out _ _ ?hs18 (fun hS2 => ?_)
  case hs18 => exact SC.next hS hb
  try simp only [List.setIfInBounds_toArray, List.set_cons_zero, List.set_cons_succ]
  exact H1111 _ (by kernel_rfl) _ g2 g3 g4 _ hS2 A1 (hide (A2.out.below hb)) (hide (A3.out.below hb)) (hide (A4.out.below hb))
 refine share_intro _ _ _ _ _ _ _ _ _ (fun Z => ∀ listed : Array Bool, listed = #[true, true, true, true, true, true, true, true, true, true, true, false, true, true, false, false, false, false] → ∀ (g1 : Nat) (g2 : Nat) (W : World), SC w w.heap.size (w.heap.size + 1) #[.slice ps ns cs, .slice pc nc cc, .int .i64 (gn : Int)] 25 31 W → Hid (OH 74 w.heap.size W (.slice (some ⟨g1, 0, none⟩) ns ns) (List.replicate ns (none, 0, 0))) → Hid (OH 76 w.heap.size W (.slice (some ⟨g2, 0, none⟩) nc nc) (List.replicate nc (none, 0, 0))) → Z 5 listed ⟨#[.agg #[.slice ps ns cs, .slice pc nc cc, .int .i64 (gn : Int)], .pointer (some ⟨w.heap.size, 0, none⟩), .pointer (some ⟨w.heap.size + 1, 0, none⟩), .int .i64 0, .agg #[.slice ps ns cs, .slice pc nc cc, .int .i64 (gn : Int)], .int .i64 0, .bool false, undef, .pointer (some ⟨w.heap.size, 0, none⟩), .slice ps ns cs, .int .i64 (ns : Int), .slice (some ⟨g1, 0, none⟩) ns ns, .pointer (some ⟨w.heap.size, 1, none⟩), .slice pc nc cc, .int .i64 (nc : Int), .slice (some ⟨g2, 0, none⟩) nc nc, .pointer (some ⟨w.heap.size, 1, none⟩), .slice pc nc cc, .int .i64 (nc : Int), undef, .pointer (some ⟨w.heap.size, 2, none⟩), .int .i64 (gn : Int), undef, undef], []⟩ W) ?_ (fun H1100 => ?_)
 ·intro listed hl g1 g2 W hS A1 A2
  subst hl
  refine wpAnyH_ready (rs := [11, 14]) (by kernel_rfl) (by simp) ?_
  refine AllReadyH.cons rfl (fun K hK => ?_) (AllReadyH.cons rfl (fun K hK => ?_) AllReadyH.nil)
  ·go_simp
   have A3 := hide (V3.out W hS.1.size)
   have hb := bel1 W (.cells C3 78)
   refine hK.out _ _ ?hs19 (fun hS2 => ?_)
   case hs19 => exact SC.next hS hb
   try simp only [List.setIfInBounds_toArray, List.set_cons_zero, List.set_cons_succ]
   exact H1110 _ (by kernel_rfl) g1 g2 _ _ hS2 (hide (A1.out.below hb)) (hide (A2.out.below hb)) A3
  ·go_simp
   have A4 := hide (V4.out W hS.1.size)
   have hb := bel1 W (.cells C4 80)
   refine hK.out _ _ ?hs20 (fun hS2 => ?_)
   case hs20 => exact SC.next hS hb
   try simp only [List.setIfInBounds_toArray, List.set_cons_zero, List.set_cons_succ]
   exact H1101 _ (by kernel_rfl) g1 g2 _ _ hS2 (hide (A1.out.below hb)) (hide (A2.out.below hb)) A4
 refine share_intro _ _ _ _ _ _ _ _ _ (fun Z => ∀ listed : Array Bool, listed = #[true, true, true, true, true, true, true, false, true, true, true, true, true, true, false, false, false, false] → ∀ (g1 : Nat) (g3 : Nat) (W : World), SC w w.heap.size (w.heap.size + 1) #[.slice ps ns cs, .slice pc nc cc, .int .i64 (gn : Int)] 25 31 W → Hid (OH 74 w.heap.size W (.slice (some ⟨g1, 0, none⟩) ns ns) (List.replicate ns (none, 0, 0))) → Hid (OH 78 w.heap.size W (.slice (some ⟨g3, 0, none⟩) nc nc) (List.replicate nc (none, 0, 0))) → Z 5 listed ⟨#[.agg #[.slice ps ns cs, .slice pc nc cc, .int .i64 (gn : Int)], .pointer (some ⟨w.heap.size, 0, none⟩), .pointer (some ⟨w.heap.size + 1, 0, none⟩), .int .i64 0, .agg #[.slice ps ns cs, .slice pc nc cc, .int .i64 (gn : Int)], .int .i64 0, .bool false, undef, .pointer (some ⟨w.heap.size, 0, none⟩), .slice ps ns cs, .int .i64 (ns : Int), .slice (some ⟨g1, 0, none⟩) ns ns, .pointer (some ⟨w.heap.size, 1, none⟩), .slice pc nc cc, .int .i64 (nc : Int), undef, .pointer (some ⟨w.heap.size, 1, none⟩), .slice pc nc cc, .int .i64 (nc : Int), .slice (some ⟨g3, 0, none⟩) nc nc, .pointer (some ⟨w.heap.size, 2, none⟩), .int .i64 (gn : Int), undef, undef], []⟩ W) ?_ (fun H1010 => ?_)
 ·intro listed hl g1 g3 W hS A1 A3
  subst hl
  refine wpAnyH_ready (rs := [7, 14]) (by kernel_rfl) (by simp) ?_
  refine AllReadyH.cons rfl (fun K hK => ?_) (AllReadyH.cons rfl (fun K hK => ?_) AllReadyH.nil)
  ·go_simp
   have A2 := hide (V2.out W hS.1.size)
   have hb := bel1 W (.cells C2 76)
   refine hK.out _ _ ?hs21 (fun hS2 => ?_)
   case hs21 => exact SC.next hS hb
   try simp only [List.setIfInBounds_toArray, List.set_cons_zero, List.set_cons_succ]
   exact H1110 _ (by kernel_rfl) g1 _ g3 _ hS2 (hide (A1.out.below hb)) A2 (hide (A3.out.below hb))
  ·go_simp
   have A4 := hide (V4.out W hS.1.size)
   have hb := bel1 W (.cells C4 80)
   refine hK.out _ _ ?hs22 (fun hS2 => ?_)
   case hs22 => exact SC.next hS hb
   try simp only [List.setIfInBounds_toArray, List.set_cons_zero, List.set_cons_succ]
   exact H1011 _ (by kernel_rfl) g1 g3 _ _ hS2 (hide (A1.out.below hb)) (hide (A3.out.below hb)) A4
 refine share_intro _ _ _ _ _ _ _ _ _ (fun Z => ∀ listed : Array Bool, listed = #[true, true, true, true, true, true, true, false, true, true, true, false, true, true, true, false, false, false] → ∀ (g1 : Nat) (g4 : Nat) (W : World), SC w w.heap.size (w.heap.size + 1) #[.slice ps ns cs, .slice pc nc cc, .int .i64 (gn : Int)] 25 31 W → Hid (OH 74 w.heap.size W (.slice (some ⟨g1, 0, none⟩) ns ns) (List.replicate ns (none, 0, 0))) → Hid (OH 80 w.heap.size W (.slice (some ⟨g4, 0, none⟩) gn gn) (List.replicate gn (none, 0, 0))) → Z 5 listed ⟨#[.agg #[.slice ps ns cs, .slice pc nc cc, .int .i64 (gn : Int)], .pointer (some ⟨w.heap.size, 0, none⟩), .pointer (some ⟨w.heap.size + 1, 0, none⟩), .int .i64 0, .agg #[.slice ps ns cs, .slice pc nc cc, .int .i64 (gn : Int)], .int .i64 0, .bool false, undef, .pointer (some ⟨w.heap.size, 0, none⟩), .slice ps ns cs, .int .i64 (ns : Int), .slice (some ⟨g1, 0, none⟩) ns ns, .pointer (some ⟨w.heap.size, 1, none⟩), .slice pc nc cc, .int .i64 (nc : Int), undef, .pointer (some ⟨w.heap.size, 1, none⟩), .slice pc nc cc, .int .i64 (nc : Int), undef, .pointer (some ⟨w.heap.size, 2, none⟩), .int .i64 (gn : Int), .slice (some ⟨g4, 0, none⟩) gn gn, undef], []⟩ W) ?_ (fun H1001 => ?_)
 ·intro listed hl g1 g4 W hS A1 A4
  subst hl
  refine wpAnyH_ready (rs := [7, 11]) (by kernel_rfl) (by simp) ?_
  refine AllReadyH.cons rfl (fun K hK => ?_) (AllReadyH.cons rfl (fun K hK => ?_) AllReadyH.nil)
  ·go_simp
   have A2 := hide (V2.out W hS.1.size)
   have hb := bel1 W (.cells C2 76)
   refine hK.out _ _ ?hs23 (fun hS2 => ?_)
   case hs23 => exact SC.next hS hb
   try simp only [List.setIfInBounds_toArray, List.set_cons_zero, List.set_cons_succ]
   exact H1101 _ (by kernel_rfl) g1 _ g4 _ hS2 (hide (A1.out.below hb)) A2 (hide (A4.out.below hb))
  ·go_simp
   have A3 := hide (V3.out W hS.1.size)
   have hb := bel1 W (.cells C3 78)
   refine hK.out _ _ ?hs24 (fun hS2 => ?_)
   case hs24 => exact SC.next hS hb
   try simp only [List.setIfInBounds_toArray, List.set_cons_zero, List.set_cons_succ]
   exact H1011 _ (by kernel_rfl) g1 _ g4 _ hS2 (hide (A1.out.below hb)) A3 (hide (A4.out.below hb))
 refine share_intro _ _ _ _ _ _ _ _ _ (fun Z => ∀ listed : Array Bool, listed = #[true, true, true, false, true, true, true, true, true, true, true, true, true, true, false, false, false, false] → ∀ (g2 : Nat) (g3 : Nat) (W : World), SC w w.heap.size (w.heap.size + 1) #[.slice ps ns cs, .slice pc nc cc, .int .i64 (gn : Int)] 25 31 W → Hid (OH 76 w.heap.size W (.slice (some ⟨g2, 0, none⟩) nc nc) (List.replicate nc (none, 0, 0))) → Hid (OH 78 w.heap.size W (.slice (some ⟨g3, 0, none⟩) nc nc) (List.replicate nc (none, 0, 0))) → Z 5 listed ⟨#[.agg #[.slice ps ns cs, .slice pc nc cc, .int .i64 (gn : Int)], .pointer (some ⟨w.heap.size, 0, none⟩), .pointer (some ⟨w.heap.size + 1, 0, none⟩), .int .i64 0, .agg #[.slice ps ns cs, .slice pc nc cc, .int .i64 (gn : Int)], .int .i64 0, .bool false, undef, .pointer (some ⟨w.heap.size, 0, none⟩), .slice ps ns cs, .int .i64 (ns : Int), undef, .pointer (some ⟨w.heap.size, 1, none⟩), .slice pc nc cc, .int .i64 (nc : Int), .slice (some ⟨g2, 0, none⟩) nc nc, .pointer (some ⟨w.heap.size, 1, none⟩), .slice pc nc cc, .int .i64 (nc : Int), .slice (some ⟨g3, 0, none⟩) nc nc, .pointer (some ⟨w.heap.size, 2, none⟩), .int .i64 (gn : Int), undef, undef], []⟩ W) ?_ (fun H0110 => ?_)
 ·intro listed hl g2 g3 W hS A2 A3
  subst hl
  refine wpAnyH_ready (rs := [3, 14]) (by kernel_rfl) (by simp) ?_
  refine AllReadyH.cons rfl (fun K hK => ?_) (AllReadyH.cons rfl (fun K hK => ?_) AllReadyH.nil)
  ·go_simp
   have A1 := hide (V1.out W hS.1.size)
   have hb := bel1 W (.cells C1 74)
   refine hK.out _ _ ?hs25 (fun hS2 => ?_)
   case hs25 => exact SC.next hS hb
   try simp only [List.setIfInBounds_toArray, List.set_cons_zero, List.set_cons_succ]
   exact H1110 _ (by kernel_rfl) _ g2 g3 _ hS2 A1 (hide (A2.out.below hb)) (hide (A3.out.below hb))
  ·go_simp
   have A4 := hide (V4.out W hS.1.size)
   have hb := bel1 W (.cells C4 80)
   refine hK.out _ _ ?hs26 (fun hS2 => ?_)
   case hs26 => exact SC.next hS hb
   try simp only [List.setIfInBounds_toArray, List.set_cons_zero, List.set_cons_succ]
   exact H0111 _ (by kernel_rfl) g2 g3 _ _ hS2 (hide (A2.out.below hb)) (hide (A3.out.below hb)) A4
 refine share_intro _ _ _ _ _ _ _ _ _ (fun Z => ∀ listed : Array Bool, listed = #[true, true, true, false, true, true, true, true, true, true, true, false, true, true, true, false, false, false] → ∀ (g2 : Nat) (g4 : Nat) (W : World), SC w w.heap.size (w.heap.size + 1) #[.slice ps ns cs, .slice pc nc cc, .int .i64 (gn : Int)] 25 31 W → Hid (OH 76 w.heap.size W (.slice (some ⟨g2, 0, none⟩) nc nc) (List.replicate nc (none, 0, 0))) → Hid (OH 80 w.heap.size W (.slice (some ⟨g4, 0, none⟩) gn gn) (List.replicate gn (none, 0, 0))) → Z 5 listed ⟨#[.agg #[.slice ps ns cs, .slice pc nc cc, .int .i64 (gn : Int)], .pointer (some ⟨w.heap.size, 0, none⟩), .pointer (some ⟨w.heap.size + 1, 0, none⟩), .int .i64 0, .agg #[.slice ps ns cs, .slice pc nc cc, .int .i64 (gn : Int)], .int .i64 0, .bool false, undef, .pointer (some ⟨w.heap.size, 0, none⟩), .slice ps ns cs, .int .i64 (ns : Int), undef, .pointer (some ⟨w.heap.size, 1, none⟩), .slice pc nc cc, .int .i64 (nc : Int), .slice (some ⟨g2, 0, none⟩) nc nc, .pointer (some ⟨w.heap.size, 1, none⟩), .slice pc nc cc, .int .i64 (nc : Int), undef, .pointer (some ⟨w.heap.size, 2, none⟩), .int .i64 (gn : Int), .slice (some ⟨g4, 0, none⟩) gn gn, undef], []⟩ W) ?_ (fun H0101 => ?_)
 ·intro listed hl g2 g4 W hS A2 A4
  subst hl
  refine wpAnyH_ready (rs := [3, 11]) (by kernel_rfl) (by simp) ?_
  refine AllReadyH.cons rfl (fun K hK => ?_) (AllReadyH.cons rfl (fun K hK => ?_) AllReadyH.nil)
  ·go_simp
   have A1 := hide (V1.out W hS.1.size)
   have hb := bel1 W (.cells C1 74)
   refine hK.out _ _ ?hs27 (fun hS2 => ?_)
   case hs27 => exact SC.next hS hb
   try simp only [List.setIfInBounds_toArray, List.set_cons_zero, List.set_cons_succ]
   exact H1101 _ (by kernel_rfl) _ g2 g4 _ hS2 A1 (hide (A2.out.below hb)) (hide (A4.out.below hb))
  ·go_simp
   have A3 := hide (V3.out W hS.1.size)
   have hb := bel1 W (.cells C3 78)
   refine hK.out _ _ ?hs28 (fun hS2 => ?_)
   case hs28 => exact SC.next hS hb
   try simp only [List.setIfInBounds_toArray, List.set_cons_zero, List.set_cons_succ]
   exact H0111 _ (by kernel_rfl) g2 _ g4 _ hS2 (hide (A2.out.below hb)) A3 (hide (A4.out.below hb))
 refine share_intro _ _ _ _ _ _ _ _ _ (fun Z => ∀ listed : Array Bool, listed = #[true, true, true, false, true, true, true, false, true, true, true, true, true, true, true, false, false, false] → ∀ (g3 : Nat) (g4 : Nat) (W : World), SC w w.heap.size (w.heap.size + 1) #[.slice ps ns cs, .slice pc nc cc, .int .i64 (gn : Int)] 25 31 W → Hid (OH 78 w.heap.size W (.slice (some ⟨g3, 0, none⟩) nc nc) (List.replicate nc (none, 0, 0))) → Hid (OH 80 w.heap.size W (.slice (some ⟨g4, 0, none⟩) gn gn) (List.replicate gn (none, 0, 0))) → Z 5 listed ⟨#[.agg #[.slice ps ns cs, .slice pc nc cc, .int .i64 (gn : Int)], .pointer (some ⟨w.heap.size, 0, none⟩), .pointer (some ⟨w.heap.size + 1, 0, none⟩), .int .i64 0, .agg #[.slice ps ns cs, .slice pc nc cc, .int .i64 (gn : Int)], .int .i64 0, .bool false, undef, .pointer (some ⟨w.heap.size, 0, none⟩), .slice ps ns cs, .int .i64 (ns : Int), undef, .pointer (some ⟨w.heap.size, 1, none⟩), .slice pc nc cc, .int .i64 (nc : Int), undef, .pointer (some ⟨w.heap.size, 1, none⟩), .slice pc nc cc, .int .i64 (nc : Int), .slice (some ⟨g3, 0, none⟩) nc nc, .pointer (some ⟨w.heap.size, 2, none⟩), .int .i64 (gn : Int), .slice (some ⟨g4, 0, none⟩) gn gn, undef], []⟩ W) ?_ (fun H0011 => ?_)
 ·intro listed hl g3 g4 W hS A3 A4
  subst hl
  refine wpAnyH_ready (rs := [3, 7]) (by kernel_rfl) (by simp) ?_
  refine AllReadyH.cons rfl (fun K hK => ?_) (AllReadyH.cons rfl (fun K hK => ?_) AllReadyH.nil)
  ·go_simp
   have A1 := hide (V1.out W hS.1.size)
   have hb := bel1 W (.cells C1 74)
   refine hK.out _ _ ?hs29 (fun hS2 => ?_)
   case hs29 => exact SC.next hS hb
   try simp only [List.setIfInBounds_toArray, List.set_cons_zero, List.set_cons_succ]
   exact H1011 _ (by kernel_rfl) _ g3 g4 _ hS2 A1 (hide (A3.out.below hb)) (hide (A4.out.below hb))
  ·go_simp
   have A2 := hide (V2.out W hS.1.size)
   have hb := bel1 W (.cells C2 76)
   refine hK.out _ _ ?hs30 (fun hS2 => ?_)
   case hs30 => exact SC.next hS hb
   try simp only [List.setIfInBounds_toArray, List.set_cons_zero, List.set_cons_succ]
   exact H0111 _ (by kernel_rfl) _ g3 g4 _ hS2 A2 (hide (A3.out.below hb)) (hide (A4.out.below hb))
 refine share_intro _ _ _ _ _ _ _ _ _ (fun Z => ∀ listed : Array Bool, listed = #[true, true, true, true, true, true, true, false, true, true, true, false, true, true, false, false, false, false] → ∀ (g1 : Nat) (W : World), SC w w.heap.size (w.heap.size + 1) #[.slice ps ns cs, .slice pc nc cc, .int .i64 (gn : Int)] 25 31 W → Hid (OH 74 w.heap.size W (.slice (some ⟨g1, 0, none⟩) ns ns) (List.replicate ns (none, 0, 0))) → Z 6 listed ⟨#[.agg #[.slice ps ns cs, .slice pc nc cc, .int .i64 (gn : Int)], .pointer (some ⟨w.heap.size, 0, none⟩), .pointer (some ⟨w.heap.size + 1, 0, none⟩), .int .i64 0, .agg #[.slice ps ns cs, .slice pc nc cc, .int .i64 (gn : Int)], .int .i64 0, .bool false, undef, .pointer (some ⟨w.heap.size, 0, none⟩), .slice ps ns cs, .int .i64 (ns : Int), .slice (some ⟨g1, 0, none⟩) ns ns, .pointer (some ⟨w.heap.size, 1, none⟩), .slice pc nc cc, .int .i64 (nc : Int), undef, .pointer (some ⟨w.heap.size, 1, none⟩), .slice pc nc cc, .int .i64 (nc : Int), undef, .pointer (some ⟨w.heap.size, 2, none⟩), .int .i64 (gn : Int), undef, undef], []⟩ W) ?_ (fun H1000 => ?_)
 ·intro listed hl g1 W hS A1
  subst hl
  refine wpAnyH_ready (rs := [7, 11, 14]) (by kernel_rfl) (by simp) ?_
  refine AllReadyH.cons rfl (fun K hK => ?_) (AllReadyH.cons rfl (fun K hK => ?_) (AllReadyH.cons rfl (fun K hK => ?_) AllReadyH.nil))
  ·go_simp
   have A2 := hide (V2.out W hS.1.size)
   have hb := bel1 W (.cells C2 76)
   refine hK.out _ _ ?hs31 (fun hS2 => ?_)
   case hs31 => exact SC.next hS hb
   try simp only [List.setIfInBounds_toArray, List.set_cons_zero, List.set_cons_succ]
   exact H1100 _ (by kernel_rfl) g1 _ _ hS2 (hide (A1.out.below hb)) A2
  ·go_simp
   have A3 := hide (V3.out W hS.1.size)
   have hb := bel1 W (.cells C3 78)
   refine hK.out _ _ ?hs32 (fun hS2 => ?_)
   case hs32 => exact SC.next hS hb
   try simp only [List.setIfInBounds_toArray, List.set_cons_zero, List.set_cons_succ]
   exact H1010 _ (by kernel_rfl) g1 _ _ hS2 (hide (A1.out.below hb)) A3
  ·go_simp
   have A4 := hide (V4.out W hS.1.size)
   have hb := bel1 W (.cells C4 80)
   refine hK.out _ _ ?hs33 (fun hS2 => ?_)
   case hs33 => exact SC.next hS hb
   try simp only [List.setIfInBounds_toArray, List.set_cons_zero, List.set_cons_succ]
   exact H1001 _ (by kernel_rfl) g1 _ _ hS2 (hide (A1.out.below hb)) A4
 refine share_intro _ _ _ _ _ _ _ _ _ (fun Z => ∀ listed : Array Bool, listed = #[true, true, true, false, true, true, true, true, true, true, true, false, true, true, false, false, false, false] → ∀ (g2 : Nat) (W : World), SC w w.heap.size (w.heap.size + 1) #[.slice ps ns cs, .slice pc nc cc, .int .i64 (gn : Int)] 25 31 W → Hid (OH 76 w.heap.size W (.slice (some ⟨g2, 0, none⟩) nc nc) (List.replicate nc (none, 0, 0))) → Z 6 listed ⟨#[.agg #[.slice ps ns cs, .slice pc nc cc, .int .i64 (gn : Int)], .pointer (some ⟨w.heap.size, 0, none⟩), .pointer (some ⟨w.heap.size + 1, 0, none⟩), .int .i64 0, .agg #[.slice ps ns cs, .slice pc nc cc, .int .i64 (gn : Int)], .int .i64 0, .bool false, undef, .pointer (some ⟨w.heap.size, 0, none⟩), .slice ps ns cs, .int .i64 (ns : Int), undef, .pointer (some ⟨w.heap.size, 1, none⟩), .slice pc nc cc, .int .i64 (nc : Int), .slice (some ⟨g2, 0, none⟩) nc nc, .pointer (some ⟨w.heap.size, 1, none⟩), .slice pc nc cc, .int .i64 (nc : Int), undef, .pointer (some ⟨w.heap.size, 2, none⟩), .int .i64 (gn : Int), undef, undef], []⟩ W) ?_ (fun H0100 => ?_)
 ·intro listed hl g2 W hS A2
  subst hl
  refine wpAnyH_ready (rs := [3, 11, 14]) (by kernel_rfl) (by simp) ?_
  refine AllReadyH.cons rfl (fun K hK => ?_) (AllReadyH.cons rfl (fun K hK => ?_) (AllReadyH.cons rfl (fun K hK => ?_) AllReadyH.nil))
  ·go_simp
   have A1 := hide (V1.out W hS.1.size)
   have hb := bel1 W (.cells C1 74)
   refine hK.out _ _ ?hs34 (fun hS2 => ?_)
   case hs34 => exact SC.next hS hb
   try simp only [List.setIfInBounds_toArray, List.set_cons_zero, List.set_cons_succ]
   exact H1100 _ (by kernel_rfl) _ g2 _ hS2 A1 (hide (A2.out.below hb))
  ·go_simp
   have A3 := hide (V3.out W hS.1.size)
   have hb := bel1 W (.cells C3 78)
   refine hK.out _ _ ?hs35 (fun hS2 => ?_)
   case hs35 => exact SC.next hS hb
   try simp only [List.setIfInBounds_toArray, List.set_cons_zero, List.set_cons_succ]
   exact H0110 _ (by kernel_rfl) g2 _ _ hS2 (hide (A2.out.below hb)) A3
  ·go_simp
   have A4 := hide (V4.out W hS.1.size)
   have hb := bel1 W (.cells C4 80)
   refine hK.out _ _ ?hs36 (fun hS2 => ?_)
   case hs36 => exact SC.next hS hb
   try simp only [List.setIfInBounds_toArray, List.set_cons_zero, List.set_cons_succ]
   exact H0101 _ (by kernel_rfl) g2 _ _ hS2 (hide (A2.out.below hb)) A4
 refine share_intro _ _ _ _ _ _ _ _ _ (fun Z => ∀ listed : Array Bool, listed = #[true, true, true, false, true, true, true, false, true, true, true, true, true, true, false, false, false, false] → ∀ (g3 : Nat) (W : World), SC w w.heap.size (w.heap.size + 1) #[.slice ps ns cs, .slice pc nc cc, .int .i64 (gn : Int)] 25 31 W → Hid (OH 78 w.heap.size W (.slice (some ⟨g3, 0, none⟩) nc nc) (List.replicate nc (none, 0, 0))) → Z 6 listed ⟨#[.agg #[.slice ps ns cs, .slice pc nc cc, .int .i64 (gn : Int)], .pointer (some ⟨w.heap.size, 0, none⟩), .pointer (some ⟨w.heap.size + 1, 0, none⟩), .int .i64 0, .agg #[.slice ps ns cs, .slice pc nc cc, .int .i64 (gn : Int)], .int .i64 0, .bool false, undef, .pointer (some ⟨w.heap.size, 0, none⟩), .slice ps ns cs, .int .i64 (ns : Int), undef, .pointer (some ⟨w.heap.size, 1, none⟩), .slice pc nc cc, .int .i64 (nc : Int), undef, .pointer (some ⟨w.heap.size, 1, none⟩), .slice pc nc cc, .int .i64 (nc : Int), .slice (some ⟨g3, 0, none⟩) nc nc, .pointer (some ⟨w.heap.size, 2, none⟩), .int .i64 (gn : Int), undef, undef], []⟩ W) ?_ (fun H0010 => ?_)
 ·intro listed hl g3 W hS A3
  subst hl
  refine wpAnyH_ready (rs := [3, 7, 14]) (by kernel_rfl) (by simp) ?_
  refine AllReadyH.cons rfl (fun K hK => ?_) (AllReadyH.cons rfl (fun K hK => ?_) (AllReadyH.cons rfl (fun K hK => ?_) AllReadyH.nil))
  ·go_simp
   have A1 := hide (V1.out W hS.1.size)
   have hb := bel1 W (.cells C1 74)
   refine hK.out _ _ ?hs37 (fun hS2 => ?_)
   case hs37 => exact SC.next hS hb
   try simp only [List.setIfInBounds_toArray, List.set_cons_zero, List.set_cons_succ]
   exact H1010 _ (by kernel_rfl) _ g3 _ hS2 A1 (hide (A3.out.below hb))
  ·go_simp
   have A2 := hide (V2.out W hS.1.size)
   have hb := bel1 W (.cells C2 76)
   refine hK.out _ _ ?hs38 (fun hS2 => ?_)
   case hs38 => exact SC.next hS hb
   try simp only [List.setIfInBounds_toArray, List.set_cons_zero, List.set_cons_succ]
   exact H0110 _ (by kernel_rfl) _ g3 _ hS2 A2 (hide (A3.out.below hb))
  ·go_simp
   have A4 := hide (V4.out W hS.1.size)
   have hb := bel1 W (.cells C4 80)
   refine hK.out _ _ ?hs39 (fun hS2 => ?_)
   case hs39 => exact SC.next hS hb
   try simp only [List.setIfInBounds_toArray, List.set_cons_zero, List.set_cons_succ]
   exact H0011 _ (by kernel_rfl) g3 _ _ hS2 (hide (A3.out.below hb)) A4
 refine share_intro _ _ _ _ _ _ _ _ _ (fun Z => ∀ listed : Array Bool, listed = #[true, true, true, false, true, true, true, false, true, true, true, false, true, true, true, false, false, false] → ∀ (g4 : Nat) (W : World), SC w w.heap.size (w.heap.size + 1) #[.slice ps ns cs, .slice pc nc cc, .int .i64 (gn : Int)] 25 31 W → Hid (OH 80 w.heap.size W (.slice (some ⟨g4, 0, none⟩) gn gn) (List.replicate gn (none, 0, 0))) → Z 6 listed ⟨#[.agg #[.slice ps ns cs, .slice pc nc cc, .int .i64 (gn : Int)], .pointer (some ⟨w.heap.size, 0, none⟩), .pointer (some ⟨w.heap.size + 1, 0, none⟩), .int .i64 0, .agg #[.slice ps ns cs, .slice pc nc cc, .int .i64 (gn : Int)], .int .i64 0, .bool false, undef, .pointer (some ⟨w.heap.size, 0, none⟩), .slice ps ns cs, .int .i64 (ns : Int), undef, .pointer (some ⟨w.heap.size, 1, none⟩), .slice pc nc cc, .int .i64 (nc : Int), undef, .pointer (some ⟨w.heap.size, 1, none⟩), .slice pc nc cc, .int .i64 (nc : Int), undef, .pointer (some ⟨w.heap.size, 2, none⟩), .int .i64 (gn : Int), .slice (some ⟨g4, 0, none⟩) gn gn, undef], []⟩ W) ?_ (fun H0001 => ?_)
 ·intro listed hl g4 W hS A4
  subst hl
  refine wpAnyH_ready (rs := [3, 7, 11]) (by kernel_rfl) (by simp) ?_
  refine AllReadyH.cons rfl (fun K hK => ?_) (AllReadyH.cons rfl (fun K hK => ?_) (AllReadyH.cons rfl (fun K hK => ?_) AllReadyH.nil))
  ·go_simp
   have A1 := hide (V1.out W hS.1.size)
   have hb := bel1 W (.cells C1 74)
   refine hK.out _ _ ?hs40 (fun hS2 => ?_)
   case hs40 => exact SC.next hS hb
   try simp only [List.setIfInBounds_toArray, List.set_cons_zero, List.set_cons_succ]
   exact H1001 _ (by kernel_rfl) _ g4 _ hS2 A1 (hide (A4.out.below hb))
  ·go_simp
   have A2 := hide (V2.out W hS.1.size)
   have hb := bel1 W (.cells C2 76)
   refine hK.out _ _ ?hs41 (fun hS2 => ?_)
   case hs41 => exact SC.next hS hb
   try simp only [List.setIfInBounds_toArray, List.set_cons_zero, List.set_cons_succ]
   exact H0101 _ (by kernel_rfl) _ g4 _ hS2 A2 (hide (A4.out.below hb))
  ·go_simp
   have A3 := hide (V3.out W hS.1.size)
   have hb := bel1 W (.cells C3 78)
   refine hK.out _ _ ?hs42 (fun hS2 => ?_)
   case hs42 => exact SC.next hS hb
   try simp only [List.setIfInBounds_toArray, List.set_cons_zero, List.set_cons_succ]
   exact H0011 _ (by kernel_rfl) _ g4 _ hS2 A3 (hide (A4.out.below hb))
 refine share_intro _ _ _ _ _ _ _ _ _ (fun Z => ∀ listed : Array Bool, listed = #[true, true, true, false, true, true, true, false, true, true, true, false, true, true, false, false, false, false] → ∀ (W : World), SC w w.heap.size (w.heap.size + 1) #[.slice ps ns cs, .slice pc nc cc, .int .i64 (gn : Int)] 25 31 W → Z 7 listed ⟨#[.agg #[.slice ps ns cs, .slice pc nc cc, .int .i64 (gn : Int)], .pointer (some ⟨w.heap.size, 0, none⟩), .pointer (some ⟨w.heap.size + 1, 0, none⟩), .int .i64 0, .agg #[.slice ps ns cs, .slice pc nc cc, .int .i64 (gn : Int)], .int .i64 0, .bool false, undef, .pointer (some ⟨w.heap.size, 0, none⟩), .slice ps ns cs, .int .i64 (ns : Int), undef, .pointer (some ⟨w.heap.size, 1, none⟩), .slice pc nc cc, .int .i64 (nc : Int), undef, .pointer (some ⟨w.heap.size, 1, none⟩), .slice pc nc cc, .int .i64 (nc : Int), undef, .pointer (some ⟨w.heap.size, 2, none⟩), .int .i64 (gn : Int), undef, undef], []⟩ W) ?_ (fun H0000 => ?_)
 ·intro listed hl  W hS 
  subst hl
  refine wpAnyH_ready (rs := [3, 7, 11, 14]) (by kernel_rfl) (by simp) ?_
  refine AllReadyH.cons rfl (fun K hK => ?_) (AllReadyH.cons rfl (fun K hK => ?_) (AllReadyH.cons rfl (fun K hK => ?_) (AllReadyH.cons rfl (fun K hK => ?_) AllReadyH.nil)))
  ·go_simp
   have A1 := hide (V1.out W hS.1.size)
   have hb := bel1 W (.cells C1 74)
   refine hK.out _ _ ?hs43 (fun hS2 => ?_)
   case hs43 => exact SC.next hS hb
   try simp only [List.setIfInBounds_toArray, List.set_cons_zero, List.set_cons_succ]
   exact H1000 _ (by kernel_rfl) _ _ hS2 A1
  ·go_simp
   have A2 := hide (V2.out W hS.1.size)
   have hb := bel1 W (.cells C2 76)
   refine hK.out _ _ ?hs44 (fun hS2 => ?_)
   case hs44 => exact SC.next hS hb
   try simp only [List.setIfInBounds_toArray, List.set_cons_zero, List.set_cons_succ]
   exact H0100 _ (by kernel_rfl) _ _ hS2 A2
  ·go_simp
   have A3 := hide (V3.out W hS.1.size)
   have hb := bel1 W (.cells C3 78)
   refine hK.out _ _ ?hs45 (fun hS2 => ?_)
   case hs45 => exact SC.next hS hb
   try simp only [List.setIfInBounds_toArray, List.set_cons_zero, List.set_cons_succ]
   exact H0010 _ (by kernel_rfl) _ _ hS2 A3
  ·go_simp
   have A4 := hide (V4.out W hS.1.size)
   have hb := bel1 W (.cells C4 80)
   refine hK.out _ _ ?hs46 (fun hS2 => ?_)
   case hs46 => exact SC.next hS hb
   try simp only [List.setIfInBounds_toArray, List.set_cons_zero, List.set_cons_succ]
   exact H0001 _ (by kernel_rfl) _ _ hS2 A4
 exact H0000 _ (by kernel_rfl) _ hS0

theorem New13_good (ps : Option Addr) (ns cs : Nat) (pc : Option Addr) (nc cc : Nat) (k : Kd) (gn : Nat) (w : World) (hg : k.2.2 = (gn : Int)) (hK : KM w ps ns cs pc nc cc k) (hk : kindsB k = true) : Calls Tryz.prog 21 #[.agg #[.slice ps ns cs, .slice pc nc cc, .int .i64 (gn : Int)]] w fun e w' => ∃ q1 d1 q2 d2 q3 d3 q4 d4, e = .returned (.tuple #[.agg #[.slice q1 ns d1, .slice q2 nc d2, .slice q3 nc d3, .slice q4 gn d4], .int .i64 0]) ∧ OO w.heap.size w' q1 ns d1 q2 nc d2 q3 nc d3 q4 gn d4 (newW k) ∧ Below w.heap.size w w' := by
 have e1 := hK.s.1
 have e2 := hK.c.1
 have hb : k.1.length ≤ 6 ∧ k.2.1.length ≤ 4 ∧ 0 ≤ k.2.2 ∧ k.2.2 ≤ 3 := by
  have hk2 := hk
  unfold kindsB at hk2
  rw [Bool.and_eq_true, decide_eq_true_iff] at hk2
  exact hk2.2
 have e3 : k.2.2.toNat = gn := by omega
 refine (New13_rows ps ns cs pc nc cc k gn w hg hK hk (by omega)).mono ?_
 rintro e w' ⟨q1, d1, q2, d2, q3, d3, q4, d4, he, ho, hb⟩
 refine ⟨q1, d1, q2, d2, q3, d3, q4, d4, he, ⟨_, _, _, _, ho, ?_⟩, hb⟩
 unfold newW
 rw [e1, e2, e3]
 exact ⟨RelH.repl kept_ent _ _, RelH.repl kept_cel _ _, RelH.repl kept_acc _ _, RelH.repl kept_not _ _⟩
set_option maxHeartbeats 4000000 in
theorem New13_bad (ps : Option Addr) (ns cs : Nat) (pc : Option Addr) (nc cc : Nat) (k : Kd) (g : Int) (w : World) (hg : k.2.2 = g) (hK : KM w ps ns cs pc nc cc k) (hk : kindsB k = false) : Calls Tryz.prog 21 #[.agg #[.slice ps ns cs, .slice pc nc cc, .int .i64 g]] w fun e w' => e = .returned (.tuple #[.agg #[.slice none 0 0, .slice none 0 0, .slice none 0 0, .slice none 0 0], .int .i64 1]) ∧ Below w.heap.size w w' := by
 have HS0 : Hid (SC w w.heap.size (w.heap.size + 1) #[.slice ps ns cs, .slice pc nc cc, .int .i64 g] 25 31 ((w.alloc (.cells #[.slice ps ns cs, .slice pc nc cc, .int .i64 g] 25)).alloc (.cells #[.slice none 0 0, .slice none 0 0, .slice none 0 0, .slice none 0 0] 31))) := ⟨bel2 _ _ _, (BX.new w _ rfl _ _).alloc _, _, _, _, _, BX.new (w.alloc (.cells #[.slice ps ns cs, .slice pc nc cc, .int .i64 g] 25)) _ (by simp) _ _⟩
 have HK := hide hK
 have HCK := hide (chkK_no hk)
 have a0 := HS0.out.2.1.cell 0 _ rfl
 have a1 := HS0.out.2.1.cell 1 _ rfl
 have a2 := HS0.out.2.1.cell 2 _ rfl
 clear hK hk
 go_enter Tryz.func21, Tryz.ntmps21
 go_wp2_with (go_at_call 15; refine (CheckKinds13 _ _ _ _ _ _ k _ _ hg (HK.out.below HS0.out.1)).mono ?_; rintro e w1 ⟨rfl, hb⟩; rw [HCK.out]; replace HS0 := hide (SC.next HS0.out hb); clear hb; refine Stop.at ?_)
 unfold Stop
 clear a0 a1 a2
 obtain ⟨x0, x1, x2, x3, hXR⟩ := HS0.out.2.2
 have e0 := hXR.cell 0 _ rfl
 have e1 := hXR.cell 1 _ rfl
 have e2 := hXR.cell 2 _ rfl
 have e3 := hXR.cell 3 _ rfl
 have z0 := hXR.free 0
 have z1 := hXR.free 1
 have z2 := hXR.free 2
 have z3 := hXR.free 3
 go_wp2
 refine bodyPost_ret (results_cell_tmp rfl _ _ _ _ _ _ _ _ rfl rfl (hXR.put4 _ _ _ _) Tryz.underlying31 rfl (by kernel_rfl)) rfl ?_
 exact ⟨rfl, bel_put4N HS0.out.1 (by omega) _ _ _ _⟩
set_option maxHeartbeats 4000000 in
theorem Plain13_bad (ps : Option Addr) (ns cs : Nat) (pc : Option Addr) (nc cc : Nat) (k : Kd) (g : Int) (p1 : Option Addr) (n1 c1 : Nat) (p2 : Option Addr) (n2 c2 : Nat) (p3 : Option Addr) (n3 c3 : Nat) (p4 : Option Addr) (n4 c4 : Nat) (r : Rw) (w : World) (hg : k.2.2 = g) (hK : KM w ps ns cs pc nc cc k) (hR : RM w p1 n1 c1 p2 n2 c2 p3 n3 c3 p4 n4 c4 r) (hm : mayW k r = false) : Calls Tryz.prog 22 #[.agg #[.slice ps ns cs, .slice pc nc cc, .int .i64 g], .agg #[.slice p1 n1 c1, .slice p2 n2 c2, .slice p3 n3 c3, .slice p4 n4 c4]] w fun e w' => e = .returned (.tuple #[.agg #[.slice none 0 0, .slice none 0 0, .slice none 0 0, .slice none 0 0], .int .i64 1]) ∧ Below w.heap.size w w' := by
 have HCK := hide (chkW_not hm)
 clear hm
 have HB0 : Hid (Below w.heap.size w (((w.alloc (.cells #[.slice ps ns cs, .slice pc nc cc, .int .i64 g] 25)).alloc (.cells #[.slice p1 n1 c1, .slice p2 n2 c2, .slice p3 n3 c3, .slice p4 n4 c4] 31)).alloc (.cells #[.slice none 0 0, .slice none 0 0, .slice none 0 0, .slice none 0 0] 31))) := (bel2 w _ _).alloc (by simp; omega) _
 have HK := hide hK
 have HR := hide hR
 have HBK : Hid (BX (((w.alloc (.cells #[.slice ps ns cs, .slice pc nc cc, .int .i64 g] 25)).alloc (.cells #[.slice p1 n1 c1, .slice p2 n2 c2, .slice p3 n3 c3, .slice p4 n4 c4] 31)).alloc (.cells #[.slice none 0 0, .slice none 0 0, .slice none 0 0, .slice none 0 0] 31)) w.heap.size #[.slice ps ns cs, .slice pc nc cc, .int .i64 g] 25) := ((BX.new w _ rfl _ _).alloc _).alloc _
 have HBS : Hid (BX (((w.alloc (.cells #[.slice ps ns cs, .slice pc nc cc, .int .i64 g] 25)).alloc (.cells #[.slice p1 n1 c1, .slice p2 n2 c2, .slice p3 n3 c3, .slice p4 n4 c4] 31)).alloc (.cells #[.slice none 0 0, .slice none 0 0, .slice none 0 0, .slice none 0 0] 31)) (w.heap.size + 1) #[.slice p1 n1 c1, .slice p2 n2 c2, .slice p3 n3 c3, .slice p4 n4 c4] 31) := (BX.new (w.alloc (.cells #[.slice ps ns cs, .slice pc nc cc, .int .i64 g] 25)) _ (by simp) _ _).alloc _
 have HBR : Hid (BX (((w.alloc (.cells #[.slice ps ns cs, .slice pc nc cc, .int .i64 g] 25)).alloc (.cells #[.slice p1 n1 c1, .slice p2 n2 c2, .slice p3 n3 c3, .slice p4 n4 c4] 31)).alloc (.cells #[.slice none 0 0, .slice none 0 0, .slice none 0 0, .slice none 0 0] 31)) (w.heap.size + 1 + 1) #[.slice none 0 0, .slice none 0 0, .slice none 0 0, .slice none 0 0] 31) := BX.new ((w.alloc (.cells #[.slice ps ns cs, .slice pc nc cc, .int .i64 g] 25)).alloc (.cells #[.slice p1 n1 c1, .slice p2 n2 c2, .slice p3 n3 c3, .slice p4 n4 c4] 31)) _ (by simp) _ _
 clear hK hR
 go_enter Tryz.func22, Tryz.ntmps22
 go_upto_region 1 with fail
 generalize (((w.alloc (.cells #[.slice ps ns cs, .slice pc nc cc, .int .i64 g] 25)).alloc (.cells #[.slice p1 n1 c1, .slice p2 n2 c2, .slice p3 n3 c3, .slice p4 n4 c4] 31)).alloc (.cells #[.slice none 0 0, .slice none 0 0, .slice none 0 0, .slice none 0 0] 31)) = u at *
 have a0 := HBK.out.cell 0 _ rfl
 have a1 := HBK.out.cell 1 _ rfl
 have a2 := HBK.out.cell 2 _ rfl
 have b0 := HBS.out.cell 0 _ rfl
 have b1 := HBS.out.cell 1 _ rfl
 have b2 := HBS.out.cell 2 _ rfl
 have b3 := HBS.out.cell 3 _ rfl
 go_wp2_with (go_at_call 16; refine (Check13 _ _ _ _ _ _ k _ _ _ _ _ _ _ _ _ _ _ _ _ r _ hg (HK.out.below HB0.out) (HR.out.below HB0.out)).mono ?_; rintro e w1 ⟨rfl, hb⟩; rw [HCK.out]; replace HB0 := hide (bel_next HB0.out hb); replace HBK := hide (HBK.out.below hb); replace HBS := hide (HBS.out.below hb); replace HBR := hide (HBR.out.below hb); (try replace a0 := bcell hb a0); (try replace a1 := bcell hb a1); (try replace a2 := bcell hb a2); (try replace b0 := bcell hb b0); (try replace b1 := bcell hb b1); (try replace b2 := bcell hb b2); (try replace b3 := bcell hb b3); (try replace c0 := bcell hb c0); clear hb; refine Stop.at ?_)
 unfold Stop
 clear a0 a1 a2 b0 b1 b2 b3
 have e0 := HBR.out.cell 0 _ rfl
 have e1 := HBR.out.cell 1 _ rfl
 have e2 := HBR.out.cell 2 _ rfl
 have e3 := HBR.out.cell 3 _ rfl
 have z0 := HBR.out.free 0
 have z1 := HBR.out.free 1
 have z2 := HBR.out.free 2
 have z3 := HBR.out.free 3
 go_wp2
 refine bodyPost_ret (results_cell_tmp rfl _ _ _ _ _ _ _ _ rfl rfl (HBR.out.put4 _ _ _ _) Tryz.underlying31 rfl (by kernel_rfl)) rfl ?_
 exact ⟨rfl, bel_put4N HB0.out (by omega) _ _ _ _⟩
set_option maxHeartbeats 8000000 in
theorem Plain13_good (ps : Option Addr) (cs : Nat) (pc : Option Addr) (nc cc : Nat) (k : Kd) (g : Int) (p1 : Option Addr) (n1 c1 : Nat) (p2 : Option Addr) (n2 c2 : Nat) (p3 : Option Addr) (n3 c3 : Nat) (p4 : Option Addr) (n4 c4 : Nat) (r : Rw) (w : World) (hg : k.2.2 = g) (hK : KM w ps n1 cs pc nc cc k) (hR : RM w p1 n1 c1 p2 n2 c2 p3 n3 c3 p4 n4 c4 r) (hm : mayW k r = true) (hz : SzW r) (hs : OkP5 r) (hn : n1 ≤ 1000 ∧ n2 ≤ 1000 ∧ n3 ≤ 1000 ∧ n4 ≤ 1000) : Calls Tryz.prog 22 #[.agg #[.slice ps n1 cs, .slice pc nc cc, .int .i64 g], .agg #[.slice p1 n1 c1, .slice p2 n2 c2, .slice p3 n3 c3, .slice p4 n4 c4]] w fun e w' => ∃ q1 d1 q2 d2 q3 d3 q4 d4, e = .returned (.tuple #[.agg #[.slice q1 n1 d1, .slice q2 n2 d2, .slice q3 n3 d3, .slice q4 n4 d4], .int .i64 0]) ∧ OO w.heap.size w' q1 n1 d1 q2 n2 d2 q3 n3 d3 q4 n4 d4 (r.1.mapIdx (fun i s => if rK k i = true then mapP plainF s else s), r.2) ∧ Below w.heap.size w w' := by
 have HCK := hide (chkW_yes hm)
 have HMS := hide (may_set9 hm)
 have HZ := hide hz
 have HQS := hide hs
 skip
 skip
 clear hm hz hs
 have HB0 : Hid (Below w.heap.size w (((w.alloc (.cells #[.slice ps n1 cs, .slice pc nc cc, .int .i64 g] 25)).alloc (.cells #[.slice p1 n1 c1, .slice p2 n2 c2, .slice p3 n3 c3, .slice p4 n4 c4] 31)).alloc (.cells #[.slice none 0 0, .slice none 0 0, .slice none 0 0, .slice none 0 0] 31))) := (bel2 w _ _).alloc (by simp; omega) _
 have HK := hide hK
 have HR := hide hR
 have HBK : Hid (BX (((w.alloc (.cells #[.slice ps n1 cs, .slice pc nc cc, .int .i64 g] 25)).alloc (.cells #[.slice p1 n1 c1, .slice p2 n2 c2, .slice p3 n3 c3, .slice p4 n4 c4] 31)).alloc (.cells #[.slice none 0 0, .slice none 0 0, .slice none 0 0, .slice none 0 0] 31)) w.heap.size #[.slice ps n1 cs, .slice pc nc cc, .int .i64 g] 25) := ((BX.new w _ rfl _ _).alloc _).alloc _
 have HBS : Hid (BX (((w.alloc (.cells #[.slice ps n1 cs, .slice pc nc cc, .int .i64 g] 25)).alloc (.cells #[.slice p1 n1 c1, .slice p2 n2 c2, .slice p3 n3 c3, .slice p4 n4 c4] 31)).alloc (.cells #[.slice none 0 0, .slice none 0 0, .slice none 0 0, .slice none 0 0] 31)) (w.heap.size + 1) #[.slice p1 n1 c1, .slice p2 n2 c2, .slice p3 n3 c3, .slice p4 n4 c4] 31) := (BX.new (w.alloc (.cells #[.slice ps n1 cs, .slice pc nc cc, .int .i64 g] 25)) _ (by simp) _ _).alloc _
 have HBR : Hid (BX (((w.alloc (.cells #[.slice ps n1 cs, .slice pc nc cc, .int .i64 g] 25)).alloc (.cells #[.slice p1 n1 c1, .slice p2 n2 c2, .slice p3 n3 c3, .slice p4 n4 c4] 31)).alloc (.cells #[.slice none 0 0, .slice none 0 0, .slice none 0 0, .slice none 0 0] 31)) (w.heap.size + 1 + 1) #[.slice none 0 0, .slice none 0 0, .slice none 0 0, .slice none 0 0] 31) := BX.new ((w.alloc (.cells #[.slice ps n1 cs, .slice pc nc cc, .int .i64 g] 25)).alloc (.cells #[.slice p1 n1 c1, .slice p2 n2 c2, .slice p3 n3 c3, .slice p4 n4 c4] 31)) _ (by simp) _ _
 clear hK hR
 go_enter Tryz.func22, Tryz.ntmps22
 go_upto_region 1 with fail
 generalize (((w.alloc (.cells #[.slice ps n1 cs, .slice pc nc cc, .int .i64 g] 25)).alloc (.cells #[.slice p1 n1 c1, .slice p2 n2 c2, .slice p3 n3 c3, .slice p4 n4 c4] 31)).alloc (.cells #[.slice none 0 0, .slice none 0 0, .slice none 0 0, .slice none 0 0] 31)) = u at *
 have a0 := HBK.out.cell 0 _ rfl
 have a1 := HBK.out.cell 1 _ rfl
 have a2 := HBK.out.cell 2 _ rfl
 have b0 := HBS.out.cell 0 _ rfl
 have b1 := HBS.out.cell 1 _ rfl
 have b2 := HBS.out.cell 2 _ rfl
 have b3 := HBS.out.cell 3 _ rfl
 go_wp2_with (go_at_call 16; refine (Check13 _ _ _ _ _ _ k _ _ _ _ _ _ _ _ _ _ _ _ _ r _ hg (HK.out.below HB0.out) (HR.out.below HB0.out)).mono ?_; rintro e w1 ⟨rfl, hb⟩; rw [HCK.out]; replace HB0 := hide (bel_next HB0.out hb); replace HBK := hide (HBK.out.below hb); replace HBS := hide (HBS.out.below hb); replace HBR := hide (HBR.out.below hb); (try replace a0 := bcell hb a0); (try replace a1 := bcell hb a1); (try replace a2 := bcell hb a2); (try replace b0 := bcell hb b0); (try replace b1 := bcell hb b1); (try replace b2 := bcell hb b2); (try replace b3 := bcell hb b3); (try replace c0 := bcell hb c0); clear hb; refine Stop.at ?_)
 unfold Stop
 go_wp2_with (go_at_call 75; refine (withPlain13 _ _ _ _ _ k _ _ _ _ _ _ _ _ _ _ _ _ _ r _ (HK.out.below HB0.out) (HR.out.below HB0.out) HZ.out HQS.out HMS.out hn).mono ?_; rintro e w3 ⟨q1, d1, q2, d2, q3, d3, q4, d4, rfl, ho, hb⟩; have HO := hide (ho.mono HB0.out.size); replace HB0 := hide (bel_next HB0.out hb); replace HBK := hide (HBK.out.below hb); replace HBS := hide (HBS.out.below hb); replace HBR := hide (HBR.out.below hb); clear ho hb; refine Stop.at ?_)
 unfold Stop
 clear a0 a1 a2 b0 b1 b2 b3
 have e0 := HBR.out.cell 0 _ rfl
 have e1 := HBR.out.cell 1 _ rfl
 have e2 := HBR.out.cell 2 _ rfl
 have e3 := HBR.out.cell 3 _ rfl
 have z0 := HBR.out.free 0
 have z1 := HBR.out.free 1
 have z2 := HBR.out.free 2
 have z3 := HBR.out.free 3
 go_wp2
 refine bodyPost_ret (results_cell_tmp rfl _ _ _ _ _ _ _ _ rfl rfl (HBR.out.put4 _ _ _ _) Tryz.underlying31 rfl (by kernel_rfl)) rfl ?_
 exact ⟨q1, d1, q2, d2, q3, d3, q4, d4, rfl, OO.put4 HO.out HBR.out (by decide) (by decide) (by decide) (by decide) q1 n1 d1 q2 n2 d2 q3 n3 d3 q4 n4 d4, bel_put4N HB0.out (by omega) _ _ _ _⟩
set_option maxHeartbeats 4000000 in
theorem Clean13_bad (ps : Option Addr) (ns cs : Nat) (pc : Option Addr) (nc cc : Nat) (k : Kd) (g : Int) (p1 : Option Addr) (n1 c1 : Nat) (p2 : Option Addr) (n2 c2 : Nat) (p3 : Option Addr) (n3 c3 : Nat) (p4 : Option Addr) (n4 c4 : Nat) (r : Rw) (pk : Option Addr) (nk ck : Nat) (c : List Int) (w : World) (hg : k.2.2 = g) (hK : KM w ps ns cs pc nc cc k) (hR : RM w p1 n1 c1 p2 n2 c2 p3 n3 c3 p4 n4 c4 r) (hC : NS w pk nk c) (hm : mayW k r = false) : Calls Tryz.prog 23 #[.agg #[.slice ps ns cs, .slice pc nc cc, .int .i64 g], .agg #[.slice p1 n1 c1, .slice p2 n2 c2, .slice p3 n3 c3, .slice p4 n4 c4], .slice pk nk ck] w fun e w' => e = .returned (.tuple #[.agg #[.slice none 0 0, .slice none 0 0, .slice none 0 0, .slice none 0 0], .int .i64 1]) ∧ Below w.heap.size w w' := by
 have HCK := hide (chkW_not hm)
 clear hm
 have HB0 : Hid (Below w.heap.size w ((((w.alloc (.cells #[.slice ps ns cs, .slice pc nc cc, .int .i64 g] 25)).alloc (.cells #[.slice p1 n1 c1, .slice p2 n2 c2, .slice p3 n3 c3, .slice p4 n4 c4] 31)).alloc (.cells #[.slice pk nk ck] 35)).alloc (.cells #[.slice none 0 0, .slice none 0 0, .slice none 0 0, .slice none 0 0] 31))) := ((bel2 w _ _).alloc (by simp; omega) _).alloc (by simp; omega) _
 have HK := hide hK
 have HR := hide hR
 have HBK : Hid (BX ((((w.alloc (.cells #[.slice ps ns cs, .slice pc nc cc, .int .i64 g] 25)).alloc (.cells #[.slice p1 n1 c1, .slice p2 n2 c2, .slice p3 n3 c3, .slice p4 n4 c4] 31)).alloc (.cells #[.slice pk nk ck] 35)).alloc (.cells #[.slice none 0 0, .slice none 0 0, .slice none 0 0, .slice none 0 0] 31)) w.heap.size #[.slice ps ns cs, .slice pc nc cc, .int .i64 g] 25) := (((BX.new w _ rfl _ _).alloc _).alloc _).alloc _
 have HBS : Hid (BX ((((w.alloc (.cells #[.slice ps ns cs, .slice pc nc cc, .int .i64 g] 25)).alloc (.cells #[.slice p1 n1 c1, .slice p2 n2 c2, .slice p3 n3 c3, .slice p4 n4 c4] 31)).alloc (.cells #[.slice pk nk ck] 35)).alloc (.cells #[.slice none 0 0, .slice none 0 0, .slice none 0 0, .slice none 0 0] 31)) (w.heap.size + 1) #[.slice p1 n1 c1, .slice p2 n2 c2, .slice p3 n3 c3, .slice p4 n4 c4] 31) := ((BX.new (w.alloc (.cells #[.slice ps ns cs, .slice pc nc cc, .int .i64 g] 25)) _ (by simp) _ _).alloc _).alloc _
 have HBC : Hid (BX ((((w.alloc (.cells #[.slice ps ns cs, .slice pc nc cc, .int .i64 g] 25)).alloc (.cells #[.slice p1 n1 c1, .slice p2 n2 c2, .slice p3 n3 c3, .slice p4 n4 c4] 31)).alloc (.cells #[.slice pk nk ck] 35)).alloc (.cells #[.slice none 0 0, .slice none 0 0, .slice none 0 0, .slice none 0 0] 31)) (w.heap.size + 1 + 1) #[.slice pk nk ck] 35) := (BX.new ((w.alloc (.cells #[.slice ps ns cs, .slice pc nc cc, .int .i64 g] 25)).alloc (.cells #[.slice p1 n1 c1, .slice p2 n2 c2, .slice p3 n3 c3, .slice p4 n4 c4] 31)) _ (by simp) _ _).alloc _
 have HBR : Hid (BX ((((w.alloc (.cells #[.slice ps ns cs, .slice pc nc cc, .int .i64 g] 25)).alloc (.cells #[.slice p1 n1 c1, .slice p2 n2 c2, .slice p3 n3 c3, .slice p4 n4 c4] 31)).alloc (.cells #[.slice pk nk ck] 35)).alloc (.cells #[.slice none 0 0, .slice none 0 0, .slice none 0 0, .slice none 0 0] 31)) (w.heap.size + 1 + 1 + 1) #[.slice none 0 0, .slice none 0 0, .slice none 0 0, .slice none 0 0] 31) := BX.new (((w.alloc (.cells #[.slice ps ns cs, .slice pc nc cc, .int .i64 g] 25)).alloc (.cells #[.slice p1 n1 c1, .slice p2 n2 c2, .slice p3 n3 c3, .slice p4 n4 c4] 31)).alloc (.cells #[.slice pk nk ck] 35)) _ (by simp) _ _
 have HCN := hide hC
 clear hK hR hC
 go_enter Tryz.func23, Tryz.ntmps23
 go_upto_region 1 with fail
 generalize ((((w.alloc (.cells #[.slice ps ns cs, .slice pc nc cc, .int .i64 g] 25)).alloc (.cells #[.slice p1 n1 c1, .slice p2 n2 c2, .slice p3 n3 c3, .slice p4 n4 c4] 31)).alloc (.cells #[.slice pk nk ck] 35)).alloc (.cells #[.slice none 0 0, .slice none 0 0, .slice none 0 0, .slice none 0 0] 31)) = u at *
 have a0 := HBK.out.cell 0 _ rfl
 have a1 := HBK.out.cell 1 _ rfl
 have a2 := HBK.out.cell 2 _ rfl
 have b0 := HBS.out.cell 0 _ rfl
 have b1 := HBS.out.cell 1 _ rfl
 have b2 := HBS.out.cell 2 _ rfl
 have b3 := HBS.out.cell 3 _ rfl
 have c0 := HBC.out.cell 0 _ rfl
 go_wp2_with (go_at_call 16; refine (Check13 _ _ _ _ _ _ k _ _ _ _ _ _ _ _ _ _ _ _ _ r _ hg (HK.out.below HB0.out) (HR.out.below HB0.out)).mono ?_; rintro e w1 ⟨rfl, hb⟩; rw [HCK.out]; replace HB0 := hide (bel_next HB0.out hb); replace HBK := hide (HBK.out.below hb); replace HBS := hide (HBS.out.below hb); replace HBR := hide (HBR.out.below hb); replace HBC := hide (HBC.out.below hb); (try replace a0 := bcell hb a0); (try replace a1 := bcell hb a1); (try replace a2 := bcell hb a2); (try replace b0 := bcell hb b0); (try replace b1 := bcell hb b1); (try replace b2 := bcell hb b2); (try replace b3 := bcell hb b3); (try replace c0 := bcell hb c0); clear hb; refine Stop.at ?_)
 unfold Stop
 clear a0 a1 a2 b0 b1 b2 b3 c0
 have e0 := HBR.out.cell 0 _ rfl
 have e1 := HBR.out.cell 1 _ rfl
 have e2 := HBR.out.cell 2 _ rfl
 have e3 := HBR.out.cell 3 _ rfl
 have z0 := HBR.out.free 0
 have z1 := HBR.out.free 1
 have z2 := HBR.out.free 2
 have z3 := HBR.out.free 3
 go_wp2
 refine bodyPost_ret (results_cell_tmp rfl _ _ _ _ _ _ _ _ rfl rfl (HBR.out.put4 _ _ _ _) Tryz.underlying31 rfl (by kernel_rfl)) rfl ?_
 exact ⟨rfl, bel_put4N HB0.out (by omega) _ _ _ _⟩
set_option maxHeartbeats 4000000 in
theorem Clean13_clk (ps : Option Addr) (ns cs : Nat) (pc : Option Addr) (nc cc : Nat) (k : Kd) (g : Int) (p1 : Option Addr) (n1 c1 : Nat) (p2 : Option Addr) (n2 c2 : Nat) (p3 : Option Addr) (n3 c3 : Nat) (p4 : Option Addr) (n4 c4 : Nat) (r : Rw) (pk : Option Addr) (nk ck : Nat) (c : List Int) (w : World) (hg : k.2.2 = g) (hK : KM w ps ns cs pc nc cc k) (hR : RM w p1 n1 c1 p2 n2 c2 p3 n3 c3 p4 n4 c4 r) (hC : NS w pk nk c) (hm : mayW k r = true) (hmc : mayC c = false) : Calls Tryz.prog 23 #[.agg #[.slice ps ns cs, .slice pc nc cc, .int .i64 g], .agg #[.slice p1 n1 c1, .slice p2 n2 c2, .slice p3 n3 c3, .slice p4 n4 c4], .slice pk nk ck] w fun e w' => e = .returned (.tuple #[.agg #[.slice none 0 0, .slice none 0 0, .slice none 0 0, .slice none 0 0], .int .i64 1]) ∧ Below w.heap.size w w' := by
 have HCK := hide (chkW_yes hm)
 have HCC : Hid (chk c = 1) := by unfold Hid chk; rw [hmc]; rfl
 clear hm hmc
 have HB0 : Hid (Below w.heap.size w ((((w.alloc (.cells #[.slice ps ns cs, .slice pc nc cc, .int .i64 g] 25)).alloc (.cells #[.slice p1 n1 c1, .slice p2 n2 c2, .slice p3 n3 c3, .slice p4 n4 c4] 31)).alloc (.cells #[.slice pk nk ck] 35)).alloc (.cells #[.slice none 0 0, .slice none 0 0, .slice none 0 0, .slice none 0 0] 31))) := ((bel2 w _ _).alloc (by simp; omega) _).alloc (by simp; omega) _
 have HK := hide hK
 have HR := hide hR
 have HBK : Hid (BX ((((w.alloc (.cells #[.slice ps ns cs, .slice pc nc cc, .int .i64 g] 25)).alloc (.cells #[.slice p1 n1 c1, .slice p2 n2 c2, .slice p3 n3 c3, .slice p4 n4 c4] 31)).alloc (.cells #[.slice pk nk ck] 35)).alloc (.cells #[.slice none 0 0, .slice none 0 0, .slice none 0 0, .slice none 0 0] 31)) w.heap.size #[.slice ps ns cs, .slice pc nc cc, .int .i64 g] 25) := (((BX.new w _ rfl _ _).alloc _).alloc _).alloc _
 have HBS : Hid (BX ((((w.alloc (.cells #[.slice ps ns cs, .slice pc nc cc, .int .i64 g] 25)).alloc (.cells #[.slice p1 n1 c1, .slice p2 n2 c2, .slice p3 n3 c3, .slice p4 n4 c4] 31)).alloc (.cells #[.slice pk nk ck] 35)).alloc (.cells #[.slice none 0 0, .slice none 0 0, .slice none 0 0, .slice none 0 0] 31)) (w.heap.size + 1) #[.slice p1 n1 c1, .slice p2 n2 c2, .slice p3 n3 c3, .slice p4 n4 c4] 31) := ((BX.new (w.alloc (.cells #[.slice ps ns cs, .slice pc nc cc, .int .i64 g] 25)) _ (by simp) _ _).alloc _).alloc _
 have HBC : Hid (BX ((((w.alloc (.cells #[.slice ps ns cs, .slice pc nc cc, .int .i64 g] 25)).alloc (.cells #[.slice p1 n1 c1, .slice p2 n2 c2, .slice p3 n3 c3, .slice p4 n4 c4] 31)).alloc (.cells #[.slice pk nk ck] 35)).alloc (.cells #[.slice none 0 0, .slice none 0 0, .slice none 0 0, .slice none 0 0] 31)) (w.heap.size + 1 + 1) #[.slice pk nk ck] 35) := (BX.new ((w.alloc (.cells #[.slice ps ns cs, .slice pc nc cc, .int .i64 g] 25)).alloc (.cells #[.slice p1 n1 c1, .slice p2 n2 c2, .slice p3 n3 c3, .slice p4 n4 c4] 31)) _ (by simp) _ _).alloc _
 have HBR : Hid (BX ((((w.alloc (.cells #[.slice ps ns cs, .slice pc nc cc, .int .i64 g] 25)).alloc (.cells #[.slice p1 n1 c1, .slice p2 n2 c2, .slice p3 n3 c3, .slice p4 n4 c4] 31)).alloc (.cells #[.slice pk nk ck] 35)).alloc (.cells #[.slice none 0 0, .slice none 0 0, .slice none 0 0, .slice none 0 0] 31)) (w.heap.size + 1 + 1 + 1) #[.slice none 0 0, .slice none 0 0, .slice none 0 0, .slice none 0 0] 31) := BX.new (((w.alloc (.cells #[.slice ps ns cs, .slice pc nc cc, .int .i64 g] 25)).alloc (.cells #[.slice p1 n1 c1, .slice p2 n2 c2, .slice p3 n3 c3, .slice p4 n4 c4] 31)).alloc (.cells #[.slice pk nk ck] 35)) _ (by simp) _ _
 have HCN := hide hC
 clear hK hR hC
 go_enter Tryz.func23, Tryz.ntmps23
 go_upto_region 1 with fail
 generalize ((((w.alloc (.cells #[.slice ps ns cs, .slice pc nc cc, .int .i64 g] 25)).alloc (.cells #[.slice p1 n1 c1, .slice p2 n2 c2, .slice p3 n3 c3, .slice p4 n4 c4] 31)).alloc (.cells #[.slice pk nk ck] 35)).alloc (.cells #[.slice none 0 0, .slice none 0 0, .slice none 0 0, .slice none 0 0] 31)) = u at *
 have a0 := HBK.out.cell 0 _ rfl
 have a1 := HBK.out.cell 1 _ rfl
 have a2 := HBK.out.cell 2 _ rfl
 have b0 := HBS.out.cell 0 _ rfl
 have b1 := HBS.out.cell 1 _ rfl
 have b2 := HBS.out.cell 2 _ rfl
 have b3 := HBS.out.cell 3 _ rfl
 have c0 := HBC.out.cell 0 _ rfl
 go_wp2_with (go_at_call 16; refine (Check13 _ _ _ _ _ _ k _ _ _ _ _ _ _ _ _ _ _ _ _ r _ hg (HK.out.below HB0.out) (HR.out.below HB0.out)).mono ?_; rintro e w1 ⟨rfl, hb⟩; rw [HCK.out]; replace HB0 := hide (bel_next HB0.out hb); replace HBK := hide (HBK.out.below hb); replace HBS := hide (HBS.out.below hb); replace HBR := hide (HBR.out.below hb); replace HBC := hide (HBC.out.below hb); (try replace a0 := bcell hb a0); (try replace a1 := bcell hb a1); (try replace a2 := bcell hb a2); (try replace b0 := bcell hb b0); (try replace b1 := bcell hb b1); (try replace b2 := bcell hb b2); (try replace b3 := bcell hb b3); (try replace c0 := bcell hb c0); clear hb; refine Stop.at ?_)
 unfold Stop
 go_wp2_with (go_at_call 77; refine (check_any pk nk ck c _ (HCN.out.below HB0.out)).mono ?_; rintro e w2 ⟨rfl, rfl⟩; rw [HCC.out]; refine Stop.at ?_)
 unfold Stop
 clear a0 a1 a2 b0 b1 b2 b3 c0
 have e0 := HBR.out.cell 0 _ rfl
 have e1 := HBR.out.cell 1 _ rfl
 have e2 := HBR.out.cell 2 _ rfl
 have e3 := HBR.out.cell 3 _ rfl
 have z0 := HBR.out.free 0
 have z1 := HBR.out.free 1
 have z2 := HBR.out.free 2
 have z3 := HBR.out.free 3
 go_wp2
 refine bodyPost_ret (results_cell_tmp rfl _ _ _ _ _ _ _ _ rfl rfl (HBR.out.put4 _ _ _ _) Tryz.underlying31 rfl (by kernel_rfl)) rfl ?_
 exact ⟨rfl, bel_put4N HB0.out (by omega) _ _ _ _⟩
set_option maxHeartbeats 8000000 in
theorem Clean13_good (ps : Option Addr) (cs : Nat) (pc : Option Addr) (nc cc : Nat) (k : Kd) (g : Int) (p1 : Option Addr) (n1 c1 : Nat) (p2 : Option Addr) (n2 c2 : Nat) (p3 : Option Addr) (n3 c3 : Nat) (p4 : Option Addr) (n4 c4 : Nat) (r : Rw) (pk : Option Addr) (nk ck : Nat) (c : List Int) (w : World) (hg : k.2.2 = g) (hK : KM w ps n1 cs pc nc cc k) (hR : RM w p1 n1 c1 p2 n2 c2 p3 n3 c3 p4 n4 c4 r) (hC : NS w pk nk c) (hm : mayW k r = true) (hmc : mayC c = true) (hz : SzW r) (hs : OkP5 r) (hn : n1 ≤ 1000 ∧ n2 ≤ 1000 ∧ n3 ≤ 1000 ∧ n4 ≤ 1000) : Calls Tryz.prog 23 #[.agg #[.slice ps n1 cs, .slice pc nc cc, .int .i64 g], .agg #[.slice p1 n1 c1, .slice p2 n2 c2, .slice p3 n3 c3, .slice p4 n4 c4], .slice pk nk ck] w fun e w' => ∃ q1 d1 q2 d2 q3 d3 q4 d4, e = .returned (.tuple #[.agg #[.slice q1 n1 d1, .slice q2 n2 d2, .slice q3 n3 d3, .slice q4 n4 d4], .int .i64 0]) ∧ OO w.heap.size w' q1 n1 d1 q2 n2 d2 q3 n3 d3 q4 n4 d4 (r.1.mapIdx (fun i s => if rK k i = true then mapP (cleanF c) s else s), r.2) ∧ Below w.heap.size w w' := by
 have HCK := hide (chkW_yes hm)
 have HMS := hide (may_set9 hm)
 have HZ := hide hz
 have HQS := hide hs
 have HCC : Hid (chk c = 0) := by unfold Hid chk; rw [hmc]; rfl
 have HMC := hide hmc
 clear hm hz hs hmc
 have HB0 : Hid (Below w.heap.size w ((((w.alloc (.cells #[.slice ps n1 cs, .slice pc nc cc, .int .i64 g] 25)).alloc (.cells #[.slice p1 n1 c1, .slice p2 n2 c2, .slice p3 n3 c3, .slice p4 n4 c4] 31)).alloc (.cells #[.slice pk nk ck] 35)).alloc (.cells #[.slice none 0 0, .slice none 0 0, .slice none 0 0, .slice none 0 0] 31))) := ((bel2 w _ _).alloc (by simp; omega) _).alloc (by simp; omega) _
 have HK := hide hK
 have HR := hide hR
 have HBK : Hid (BX ((((w.alloc (.cells #[.slice ps n1 cs, .slice pc nc cc, .int .i64 g] 25)).alloc (.cells #[.slice p1 n1 c1, .slice p2 n2 c2, .slice p3 n3 c3, .slice p4 n4 c4] 31)).alloc (.cells #[.slice pk nk ck] 35)).alloc (.cells #[.slice none 0 0, .slice none 0 0, .slice none 0 0, .slice none 0 0] 31)) w.heap.size #[.slice ps n1 cs, .slice pc nc cc, .int .i64 g] 25) := (((BX.new w _ rfl _ _).alloc _).alloc _).alloc _
 have HBS : Hid (BX ((((w.alloc (.cells #[.slice ps n1 cs, .slice pc nc cc, .int .i64 g] 25)).alloc (.cells #[.slice p1 n1 c1, .slice p2 n2 c2, .slice p3 n3 c3, .slice p4 n4 c4] 31)).alloc (.cells #[.slice pk nk ck] 35)).alloc (.cells #[.slice none 0 0, .slice none 0 0, .slice none 0 0, .slice none 0 0] 31)) (w.heap.size + 1) #[.slice p1 n1 c1, .slice p2 n2 c2, .slice p3 n3 c3, .slice p4 n4 c4] 31) := ((BX.new (w.alloc (.cells #[.slice ps n1 cs, .slice pc nc cc, .int .i64 g] 25)) _ (by simp) _ _).alloc _).alloc _
 have HBC : Hid (BX ((((w.alloc (.cells #[.slice ps n1 cs, .slice pc nc cc, .int .i64 g] 25)).alloc (.cells #[.slice p1 n1 c1, .slice p2 n2 c2, .slice p3 n3 c3, .slice p4 n4 c4] 31)).alloc (.cells #[.slice pk nk ck] 35)).alloc (.cells #[.slice none 0 0, .slice none 0 0, .slice none 0 0, .slice none 0 0] 31)) (w.heap.size + 1 + 1) #[.slice pk nk ck] 35) := (BX.new ((w.alloc (.cells #[.slice ps n1 cs, .slice pc nc cc, .int .i64 g] 25)).alloc (.cells #[.slice p1 n1 c1, .slice p2 n2 c2, .slice p3 n3 c3, .slice p4 n4 c4] 31)) _ (by simp) _ _).alloc _
 have HBR : Hid (BX ((((w.alloc (.cells #[.slice ps n1 cs, .slice pc nc cc, .int .i64 g] 25)).alloc (.cells #[.slice p1 n1 c1, .slice p2 n2 c2, .slice p3 n3 c3, .slice p4 n4 c4] 31)).alloc (.cells #[.slice pk nk ck] 35)).alloc (.cells #[.slice none 0 0, .slice none 0 0, .slice none 0 0, .slice none 0 0] 31)) (w.heap.size + 1 + 1 + 1) #[.slice none 0 0, .slice none 0 0, .slice none 0 0, .slice none 0 0] 31) := BX.new (((w.alloc (.cells #[.slice ps n1 cs, .slice pc nc cc, .int .i64 g] 25)).alloc (.cells #[.slice p1 n1 c1, .slice p2 n2 c2, .slice p3 n3 c3, .slice p4 n4 c4] 31)).alloc (.cells #[.slice pk nk ck] 35)) _ (by simp) _ _
 have HCN := hide hC
 clear hK hR hC
 go_enter Tryz.func23, Tryz.ntmps23
 go_upto_region 1 with fail
 generalize ((((w.alloc (.cells #[.slice ps n1 cs, .slice pc nc cc, .int .i64 g] 25)).alloc (.cells #[.slice p1 n1 c1, .slice p2 n2 c2, .slice p3 n3 c3, .slice p4 n4 c4] 31)).alloc (.cells #[.slice pk nk ck] 35)).alloc (.cells #[.slice none 0 0, .slice none 0 0, .slice none 0 0, .slice none 0 0] 31)) = u at *
 have a0 := HBK.out.cell 0 _ rfl
 have a1 := HBK.out.cell 1 _ rfl
 have a2 := HBK.out.cell 2 _ rfl
 have b0 := HBS.out.cell 0 _ rfl
 have b1 := HBS.out.cell 1 _ rfl
 have b2 := HBS.out.cell 2 _ rfl
 have b3 := HBS.out.cell 3 _ rfl
 have c0 := HBC.out.cell 0 _ rfl
 go_wp2_with (go_at_call 16; refine (Check13 _ _ _ _ _ _ k _ _ _ _ _ _ _ _ _ _ _ _ _ r _ hg (HK.out.below HB0.out) (HR.out.below HB0.out)).mono ?_; rintro e w1 ⟨rfl, hb⟩; rw [HCK.out]; replace HB0 := hide (bel_next HB0.out hb); replace HBK := hide (HBK.out.below hb); replace HBS := hide (HBS.out.below hb); replace HBR := hide (HBR.out.below hb); replace HBC := hide (HBC.out.below hb); (try replace a0 := bcell hb a0); (try replace a1 := bcell hb a1); (try replace a2 := bcell hb a2); (try replace b0 := bcell hb b0); (try replace b1 := bcell hb b1); (try replace b2 := bcell hb b2); (try replace b3 := bcell hb b3); (try replace c0 := bcell hb c0); clear hb; refine Stop.at ?_)
 unfold Stop
 go_wp2_with (go_at_call 77; refine (check_any pk nk ck c _ (HCN.out.below HB0.out)).mono ?_; rintro e w2 ⟨rfl, rfl⟩; rw [HCC.out]; refine Stop.at ?_)
 unfold Stop
 go_wp2_with (go_at_call 75; refine (withClean13 _ _ _ _ _ k _ _ _ _ _ _ _ _ _ _ _ _ _ r _ pk nk ck c _ (HK.out.below HB0.out) (HR.out.below HB0.out) HBC.out (HCN.out.below HB0.out) HMC.out HZ.out HQS.out HMS.out hn).mono ?_; rintro e w3 ⟨q1, d1, q2, d2, q3, d3, q4, d4, rfl, ho, hb⟩; have HO := hide (ho.mono HB0.out.size); replace HB0 := hide (bel_next HB0.out hb); replace HBK := hide (HBK.out.below hb); replace HBS := hide (HBS.out.below hb); replace HBR := hide (HBR.out.below hb); replace HBC := hide (HBC.out.below hb); clear ho hb; refine Stop.at ?_)
 unfold Stop
 clear a0 a1 a2 b0 b1 b2 b3 c0
 have e0 := HBR.out.cell 0 _ rfl
 have e1 := HBR.out.cell 1 _ rfl
 have e2 := HBR.out.cell 2 _ rfl
 have e3 := HBR.out.cell 3 _ rfl
 have z0 := HBR.out.free 0
 have z1 := HBR.out.free 1
 have z2 := HBR.out.free 2
 have z3 := HBR.out.free 3
 go_wp2
 refine bodyPost_ret (results_cell_tmp rfl _ _ _ _ _ _ _ _ rfl rfl (HBR.out.put4 _ _ _ _) Tryz.underlying31 rfl (by kernel_rfl)) rfl ?_
 exact ⟨q1, d1, q2, d2, q3, d3, q4, d4, rfl, OO.put4 HO.out HBR.out (by decide) (by decide) (by decide) (by decide) q1 n1 d1 q2 n2 d2 q3 n3 d3 q4 n4 d4, bel_put4N HB0.out (by omega) _ _ _ _⟩
end Go.Proofs.YtkbbegbpkndebaaGreat

