/- Texts of this claim, joined: H11. -/
import Derived.Laws.OwnMore
import Derived.Test.YtkbbegbpkndebaaGreatJ15
/- Raw that has nothing, as the document's functions of layer 13 make it. -/
namespace Go.Proofs.YtkbbegbpkndebaaGreat
open Go.RowKit Go.Lib
set_option linter.unusedVariables false
theorem make_heads {t e : TypeId} (ht : Tryz.prog.underlying t = some (.slice e)) (hi : (Tryz.prog.info? e).map (fun i => (i.zero, i.size, i.bytes)) = some (some (.slice none 0 0), 1, 24)) (n : Nat) (hn : n ≤ 1000) : ∃ C : Array Value, (∀ w : World, (Instr.makeSlice t (.int .i64 (n : Int)) (.int .i64 (n : Int))).run Tryz.prog w = .ok (.slice (some ⟨w.heap.size, 0, none⟩) n n) (w.alloc (.cells C e))) ∧ ∀ (w : World) {N : Nat}, N ≤ w.heap.size → OH e N (w.alloc (.cells C e)) (.slice (some ⟨w.heap.size, 0, none⟩) n n) (List.replicate n (none, 0, 0)) := by
 obtain ⟨i0, hi, hz0, hz1, hz2⟩ := info_parts hi
 refine ⟨madeCells (Value.slice none 0 0).cells (n * i0.size), fun w => ?_, fun w N hN => ?_⟩
 ·have h := run_make (P := Tryz.prog) w t e i0 (.slice none 0 0) ht hi hz0 .i64 .i64 (n : Int) (n : Int) (by omega) (Int.le_refl _) (by rw [hz2]; omega) (by omega)
  simpa using h
 ·have q := World.ownsRow_lit (e := e) (size := 1) w (madeCells (Value.slice none 0 0).cells (n * i0.size)) n hN (by unfold maxLen; omega) (by rw [size_madeCells, hz1])
  have e1 : (madeCells (Value.slice none 0 0).cells (n * i0.size)).toList = (List.replicate n ((none, 0, 0) : Hd)).flatMap encH := by
   rw [hz1, Nat.mul_one, show (Value.slice none 0 0).cells = #[.slice none 0 0] from rfl, toList_madeCells_one]
   clear q
   induction n with
   | zero => rfl
   | succ n ih => rw [List.replicate_succ, List.replicate_succ, List.flatMap_cons, ← ih (by omega)]; rfl
  refine ⟨?_, fun g hg => ?_⟩
  ·rw [e1] at q
   unfold OwnR
   rw [List.length_replicate]
   exact q
  ·obtain rfl : w.heap.size = g := by simpa [Value.ownBlock] using hg
   refine ⟨_, heap_alloc_new w _, fun i y hy => ?_⟩
   have hy2 := List.mem_of_getElem? (l := (madeCells (Value.slice none 0 0).cells (n * i0.size)).toList) (i := i) (by rw [Array.getElem?_toList]; exact hy)
   rw [e1, flatH] at hy2
   obtain ⟨z, _, rfl⟩ := List.mem_map.1 hy2
   exact ⟨_, _, _, rfl⟩
theorem RelH.repl {α : Type} {I : LI α} (k : Kept I) (w : World) (n : Nat) : RelH I w (List.replicate n (none, 0, 0)) (List.replicate n []) := by
 refine ⟨by rw [List.length_replicate, List.length_replicate], fun i h l hh hl => ?_⟩
 rw [List.getElem?_replicate] at hh hl
 split at hh
 ·rename_i hi
  rw [if_pos hi] at hl
  cases hh
  cases hl
  exact ⟨k.nil w none, Nat.le_refl _, by decide, fun _ => rfl⟩
 ·cases hh
set_option maxRecDepth 4000 in
set_option maxHeartbeats 16000000 in
theorem New13_raw (ps : Option Addr) (ns cs : Nat) (pc : Option Addr) (nc cc : Nat) (gn : Nat) (w : World) (hn : ns ≤ 1000 ∧ nc ≤ 1000 ∧ gn ≤ 1000) : Calls Tryz.prog 26 #[.agg #[.slice ps ns cs, .slice pc nc cc, .int .i64 (gn : Int)]] w fun e w' => ∃ q1 d1 q2 d2 q3 d3 q4 d4, e = .returned (.agg #[.slice q1 ns d1, .slice q2 nc d2, .slice q3 nc d3, .slice q4 gn d4]) ∧ OW w.heap.size w' q1 ns d1 q2 nc d2 q3 nc d3 q4 gn d4 (List.replicate ns (none, 0, 0)) (List.replicate nc (none, 0, 0)) (List.replicate nc (none, 0, 0)) (List.replicate gn (none, 0, 0)) ∧ Below w.heap.size w w' := by
 obtain ⟨C1, m1, v1⟩ := make_heads Tryz.underlying26 Tryz.infoH1 ns (by omega)
 have V1 : Hid (∀ W : World, w.heap.size ≤ W.heap.size → OH 74 w.heap.size (W.alloc (.cells C1 74)) (.slice (some ⟨W.heap.size, 0, none⟩) ns ns) (List.replicate ns (none, 0, 0))) := fun W h => v1 W h
 clear v1
 obtain ⟨C2, m2, v2⟩ := make_heads Tryz.underlying27 Tryz.infoH2 nc (by omega)
 have V2 : Hid (∀ W : World, w.heap.size ≤ W.heap.size → OH 76 w.heap.size (W.alloc (.cells C2 76)) (.slice (some ⟨W.heap.size, 0, none⟩) nc nc) (List.replicate nc (none, 0, 0))) := fun W h => v2 W h
 clear v2
 obtain ⟨C3, m3, v3⟩ := make_heads Tryz.underlying28 Tryz.infoH3 nc (by omega)
 have V3 : Hid (∀ W : World, w.heap.size ≤ W.heap.size → OH 78 w.heap.size (W.alloc (.cells C3 78)) (.slice (some ⟨W.heap.size, 0, none⟩) nc nc) (List.replicate nc (none, 0, 0))) := fun W h => v3 W h
 clear v3
 obtain ⟨C4, m4, v4⟩ := make_heads Tryz.underlying29 Tryz.infoH4 gn (by omega)
 have V4 : Hid (∀ W : World, w.heap.size ≤ W.heap.size → OH 80 w.heap.size (W.alloc (.cells C4 80)) (.slice (some ⟨W.heap.size, 0, none⟩) gn gn) (List.replicate gn (none, 0, 0))) := fun W h => v4 W h
 clear v4
 have HS0 : Hid (SC w w.heap.size (w.heap.size + 1) #[.slice ps ns cs, .slice pc nc cc, .int .i64 (gn : Int)] 25 31 ((w.alloc (.cells #[.slice ps ns cs, .slice pc nc cc, .int .i64 (gn : Int)] 25)).alloc (.cells #[.slice none 0 0, .slice none 0 0, .slice none 0 0, .slice none 0 0] 31))) := ⟨bel2 _ _ _, (BX.new w _ rfl _ _).alloc _, _, _, _, _, BX.new (w.alloc (.cells #[.slice ps ns cs, .slice pc nc cc, .int .i64 (gn : Int)] 25)) _ (by simp) _ _⟩
 have hne : w.heap.size + 1 ≠ w.heap.size := by omega
 have hge : w.heap.size ≤ w.heap.size + 1 := by omega
 go_enter Tryz.func26, Tryz.ntmps26
 go_wp2
 generalize (w.alloc (.cells #[.slice ps ns cs, .slice pc nc cc, .int .i64 (gn : Int)] 25)).alloc (.cells #[.slice none 0 0, .slice none 0 0, .slice none 0 0, .slice none 0 0] 31) = u at *
 refine wp_region_held_drew (S := SC w w.heap.size (w.heap.size + 1) #[.slice ps ns cs, .slice pc nc cc, .int .i64 (gn : Int)] 25 31) (by kernel_rfl) (HS0.out.next (Below.refl _ _).drew) (fun hS0 => ?_)
 refine tkJ 0 3 hS0 ?_; simp only [ly]
 refine tkL 1 4 hS0 ?h ?_; case h => (intro W hW; have e0 := hW.2.1.cell 0 _ rfl; have e1 := hW.2.1.cell 1 _ rfl; have e2 := hW.2.1.cell 2 _ rfl; clear hW; go_simp; try rfl); simp only [ly]
 refine tkJ 2 5 hS0 ?_; simp only [ly]
 refine tkJ 4 7 hS0 ?_; simp only [ly]
 refine tkL 5 8 hS0 ?h ?_; case h => (intro W hW; have e0 := hW.2.1.cell 0 _ rfl; have e1 := hW.2.1.cell 1 _ rfl; have e2 := hW.2.1.cell 2 _ rfl; clear hW; go_simp; try rfl); simp only [ly]
 refine tkJ 6 9 hS0 ?_; simp only [ly]
 refine tkJ 8 11 hS0 ?_; simp only [ly]
 refine tkL 9 12 hS0 ?h ?_; case h => (intro W hW; have e0 := hW.2.1.cell 0 _ rfl; have e1 := hW.2.1.cell 1 _ rfl; have e2 := hW.2.1.cell 2 _ rfl; clear hW; go_simp; try rfl); simp only [ly]
 refine tkJ 10 13 hS0 ?_; simp only [ly]
 refine tkJ 12 15 hS0 ?_; simp only [ly]
 refine tkL 13 16 hS0 ?h ?_; case h => (intro W hW; have e0 := hW.2.1.cell 0 _ rfl; have e1 := hW.2.1.cell 1 _ rfl; have e2 := hW.2.1.cell 2 _ rfl; clear hW; go_simp; try rfl); simp only [ly]
 refine share_intro _ _ _ _ _ _ _ _ _ (fun Z => ∀ listed : Array Bool, listed = #[true, true, true, true, true, true, true, true, true, true, true, true, true, true, true, false, false] → ∀ (g1 : Nat) (g2 : Nat) (g3 : Nat) (g4 : Nat) (W : World), SC w w.heap.size (w.heap.size + 1) #[.slice ps ns cs, .slice pc nc cc, .int .i64 (gn : Int)] 25 31 W → Hid (OH 74 w.heap.size W (.slice (some ⟨g1, 0, none⟩) ns ns) (List.replicate ns (none, 0, 0))) → Hid (OH 76 w.heap.size W (.slice (some ⟨g2, 0, none⟩) nc nc) (List.replicate nc (none, 0, 0))) → Hid (OH 78 w.heap.size W (.slice (some ⟨g3, 0, none⟩) nc nc) (List.replicate nc (none, 0, 0))) → Hid (OH 80 w.heap.size W (.slice (some ⟨g4, 0, none⟩) gn gn) (List.replicate gn (none, 0, 0))) → Z 2 listed ⟨#[.agg #[.slice ps ns cs, .slice pc nc cc, .int .i64 (gn : Int)], .pointer (some ⟨w.heap.size, 0, none⟩), .pointer (some ⟨w.heap.size + 1, 0, none⟩), .pointer (some ⟨w.heap.size, 0, none⟩), .slice ps ns cs, .int .i64 (ns : Int), .slice (some ⟨g1, 0, none⟩) ns ns, .pointer (some ⟨w.heap.size, 1, none⟩), .slice pc nc cc, .int .i64 (nc : Int), .slice (some ⟨g2, 0, none⟩) nc nc, .pointer (some ⟨w.heap.size, 1, none⟩), .slice pc nc cc, .int .i64 (nc : Int), .slice (some ⟨g3, 0, none⟩) nc nc, .pointer (some ⟨w.heap.size, 2, none⟩), .int .i64 (gn : Int), .slice (some ⟨g4, 0, none⟩) gn gn, undef], []⟩ W) ?_ (fun H1111 => ?_)
 ·intro listed hl g1 g2 g3 g4 W hS A1 A2 A3 A4
  subst hl
  have hS0 := hS
  refine tkJ 15 18 hS0 ?_; simp only [ly]
  refine wpAnyH_ready (rs := [16]) (by kernel_rfl) (by simp) ?_
  refine AllReadyH.cons rfl (fun K hK => ?_) AllReadyH.nil
  obtain ⟨x0, x1, x2, x3, hXR⟩ := hS0.2.2
  have e0 := hXR.cell 0 _ rfl
  have e1 := hXR.cell 1 _ rfl
  have e2 := hXR.cell 2 _ rfl
  have e3 := hXR.cell 3 _ rfl
  have z0 := hXR.free 0
  have z1 := hXR.free 1
  have z2 := hXR.free 2
  have z3 := hXR.free 3
  go_simp
  refine hK.out _ _ ?hs13 (fun hS1 => ?_)
  case hs13 => exact SC.put hS0 hne hge _ _ _ _
  clear hK K
  try simp only [List.setIfInBounds_toArray, List.set_cons_zero, List.set_cons_succ]
  refine wpAnyH_done (by kernel_rfl) ?_ _
  have hY := hXR.put4 (.slice (some ⟨g1, 0, none⟩) ns ns) (.slice (some ⟨g2, 0, none⟩) nc nc) (.slice (some ⟨g3, 0, none⟩) nc nc) (.slice (some ⟨g4, 0, none⟩) gn gn)
  go_wp2
  refine bodyPost_ret (results_cell_row rfl _ _ _ _ _ _ _ rfl hY Tryz.underlying31 rfl (by kernel_rfl)) rfl ?_
  exact ⟨some ⟨g1, 0, none⟩, ns, some ⟨g2, 0, none⟩, nc, some ⟨g3, 0, none⟩, nc, some ⟨g4, 0, none⟩, gn, rfl, ⟨A1.out.put4 hXR (by decide) _ _ _ _, A2.out.put4 hXR (by decide) _ _ _ _, A3.out.put4 hXR (by decide) _ _ _ _, A4.out.put4 hXR (by decide) _ _ _ _⟩, hS1.1⟩
 refine share_intro _ _ _ _ _ _ _ _ _ (fun Z => ∀ listed : Array Bool, listed = #[true, true, true, true, true, true, true, true, true, true, true, true, true, true, false, false, false] → ∀ (g1 : Nat) (g2 : Nat) (g3 : Nat) (W : World), SC w w.heap.size (w.heap.size + 1) #[.slice ps ns cs, .slice pc nc cc, .int .i64 (gn : Int)] 25 31 W → Hid (OH 74 w.heap.size W (.slice (some ⟨g1, 0, none⟩) ns ns) (List.replicate ns (none, 0, 0))) → Hid (OH 76 w.heap.size W (.slice (some ⟨g2, 0, none⟩) nc nc) (List.replicate nc (none, 0, 0))) → Hid (OH 78 w.heap.size W (.slice (some ⟨g3, 0, none⟩) nc nc) (List.replicate nc (none, 0, 0))) → Z 3 listed ⟨#[.agg #[.slice ps ns cs, .slice pc nc cc, .int .i64 (gn : Int)], .pointer (some ⟨w.heap.size, 0, none⟩), .pointer (some ⟨w.heap.size + 1, 0, none⟩), .pointer (some ⟨w.heap.size, 0, none⟩), .slice ps ns cs, .int .i64 (ns : Int), .slice (some ⟨g1, 0, none⟩) ns ns, .pointer (some ⟨w.heap.size, 1, none⟩), .slice pc nc cc, .int .i64 (nc : Int), .slice (some ⟨g2, 0, none⟩) nc nc, .pointer (some ⟨w.heap.size, 1, none⟩), .slice pc nc cc, .int .i64 (nc : Int), .slice (some ⟨g3, 0, none⟩) nc nc, .pointer (some ⟨w.heap.size, 2, none⟩), .int .i64 (gn : Int), undef, undef], []⟩ W) ?_ (fun H1110 => ?_)
 ·intro listed hl g1 g2 g3 W hS A1 A2 A3
  subst hl
  refine wpAnyH_ready (rs := [14]) (by kernel_rfl) (by simp) ?_
  refine AllReadyH.cons rfl (fun K hK => ?_) AllReadyH.nil
  go_simp
  have A4 := hide (V4.out W hS.1.size)
  have hb := bel1 W (.cells C4 80)
  refine hK.out _ _ ?hs14 (fun hS2 => ?_)
  case hs14 => exact SC.next hS hb
  try simp only [List.setIfInBounds_toArray, List.set_cons_zero, List.set_cons_succ]
  exact H1111 _ (by kernel_rfl) g1 g2 g3 _ _ hS2 (hide (A1.out.below hb)) (hide (A2.out.below hb)) (hide (A3.out.below hb)) A4
 refine share_intro _ _ _ _ _ _ _ _ _ (fun Z => ∀ listed : Array Bool, listed = #[true, true, true, true, true, true, true, true, true, true, true, false, true, true, true, false, false] → ∀ (g1 : Nat) (g2 : Nat) (g4 : Nat) (W : World), SC w w.heap.size (w.heap.size + 1) #[.slice ps ns cs, .slice pc nc cc, .int .i64 (gn : Int)] 25 31 W → Hid (OH 74 w.heap.size W (.slice (some ⟨g1, 0, none⟩) ns ns) (List.replicate ns (none, 0, 0))) → Hid (OH 76 w.heap.size W (.slice (some ⟨g2, 0, none⟩) nc nc) (List.replicate nc (none, 0, 0))) → Hid (OH 80 w.heap.size W (.slice (some ⟨g4, 0, none⟩) gn gn) (List.replicate gn (none, 0, 0))) → Z 3 listed ⟨#[.agg #[.slice ps ns cs, .slice pc nc cc, .int .i64 (gn : Int)], .pointer (some ⟨w.heap.size, 0, none⟩), .pointer (some ⟨w.heap.size + 1, 0, none⟩), .pointer (some ⟨w.heap.size, 0, none⟩), .slice ps ns cs, .int .i64 (ns : Int), .slice (some ⟨g1, 0, none⟩) ns ns, .pointer (some ⟨w.heap.size, 1, none⟩), .slice pc nc cc, .int .i64 (nc : Int), .slice (some ⟨g2, 0, none⟩) nc nc, .pointer (some ⟨w.heap.size, 1, none⟩), .slice pc nc cc, .int .i64 (nc : Int), undef, .pointer (some ⟨w.heap.size, 2, none⟩), .int .i64 (gn : Int), .slice (some ⟨g4, 0, none⟩) gn gn, undef], []⟩ W) ?_ (fun H1101 => ?_)
 ·intro listed hl g1 g2 g4 W hS A1 A2 A4
  subst hl
  refine wpAnyH_ready (rs := [11]) (by kernel_rfl) (by simp) ?_
  refine AllReadyH.cons rfl (fun K hK => ?_) AllReadyH.nil
  go_simp
  have A3 := hide (V3.out W hS.1.size)
  have hb := bel1 W (.cells C3 78)
  refine hK.out _ _ ?hs15 (fun hS2 => ?_)
  case hs15 => exact SC.next hS hb
  try simp only [List.setIfInBounds_toArray, List.set_cons_zero, List.set_cons_succ]
  exact H1111 _ (by kernel_rfl) g1 g2 _ g4 _ hS2 (hide (A1.out.below hb)) (hide (A2.out.below hb)) A3 (hide (A4.out.below hb))
 refine share_intro _ _ _ _ _ _ _ _ _ (fun Z => ∀ listed : Array Bool, listed = #[true, true, true, true, true, true, true, false, true, true, true, true, true, true, true, false, false] → ∀ (g1 : Nat) (g3 : Nat) (g4 : Nat) (W : World), SC w w.heap.size (w.heap.size + 1) #[.slice ps ns cs, .slice pc nc cc, .int .i64 (gn : Int)] 25 31 W → Hid (OH 74 w.heap.size W (.slice (some ⟨g1, 0, none⟩) ns ns) (List.replicate ns (none, 0, 0))) → Hid (OH 78 w.heap.size W (.slice (some ⟨g3, 0, none⟩) nc nc) (List.replicate nc (none, 0, 0))) → Hid (OH 80 w.heap.size W (.slice (some ⟨g4, 0, none⟩) gn gn) (List.replicate gn (none, 0, 0))) → Z 3 listed ⟨#[.agg #[.slice ps ns cs, .slice pc nc cc, .int .i64 (gn : Int)], .pointer (some ⟨w.heap.size, 0, none⟩), .pointer (some ⟨w.heap.size + 1, 0, none⟩), .pointer (some ⟨w.heap.size, 0, none⟩), .slice ps ns cs, .int .i64 (ns : Int), .slice (some ⟨g1, 0, none⟩) ns ns, .pointer (some ⟨w.heap.size, 1, none⟩), .slice pc nc cc, .int .i64 (nc : Int), undef, .pointer (some ⟨w.heap.size, 1, none⟩), .slice pc nc cc, .int .i64 (nc : Int), .slice (some ⟨g3, 0, none⟩) nc nc, .pointer (some ⟨w.heap.size, 2, none⟩), .int .i64 (gn : Int), .slice (some ⟨g4, 0, none⟩) gn gn, undef], []⟩ W) ?_ (fun H1011 => ?_)
 ·intro listed hl g1 g3 g4 W hS A1 A3 A4
  subst hl
  refine wpAnyH_ready (rs := [7]) (by kernel_rfl) (by simp) ?_
  refine AllReadyH.cons rfl (fun K hK => ?_) AllReadyH.nil
  go_simp
  have A2 := hide (V2.out W hS.1.size)
  have hb := bel1 W (.cells C2 76)
  refine hK.out _ _ ?hs16 (fun hS2 => ?_)
  case hs16 => exact SC.next hS hb
  try simp only [List.setIfInBounds_toArray, List.set_cons_zero, List.set_cons_succ]
  exact H1111 _ (by kernel_rfl) g1 _ g3 g4 _ hS2 (hide (A1.out.below hb)) A2 (hide (A3.out.below hb)) (hide (A4.out.below hb))
 refine share_intro _ _ _ _ _ _ _ _ _ (fun Z => ∀ listed : Array Bool, listed = #[true, true, true, false, true, true, true, true, true, true, true, true, true, true, true, false, false] → ∀ (g2 : Nat) (g3 : Nat) (g4 : Nat) (W : World), SC w w.heap.size (w.heap.size + 1) #[.slice ps ns cs, .slice pc nc cc, .int .i64 (gn : Int)] 25 31 W → Hid (OH 76 w.heap.size W (.slice (some ⟨g2, 0, none⟩) nc nc) (List.replicate nc (none, 0, 0))) → Hid (OH 78 w.heap.size W (.slice (some ⟨g3, 0, none⟩) nc nc) (List.replicate nc (none, 0, 0))) → Hid (OH 80 w.heap.size W (.slice (some ⟨g4, 0, none⟩) gn gn) (List.replicate gn (none, 0, 0))) → Z 3 listed ⟨#[.agg #[.slice ps ns cs, .slice pc nc cc, .int .i64 (gn : Int)], .pointer (some ⟨w.heap.size, 0, none⟩), .pointer (some ⟨w.heap.size + 1, 0, none⟩), .pointer (some ⟨w.heap.size, 0, none⟩), .slice ps ns cs, .int .i64 (ns : Int), undef, .pointer (some ⟨w.heap.size, 1, none⟩), .slice pc nc cc, .int .i64 (nc : Int), .slice (some ⟨g2, 0, none⟩) nc nc, .pointer (some ⟨w.heap.size, 1, none⟩), .slice pc nc cc, .int .i64 (nc : Int), .slice (some ⟨g3, 0, none⟩) nc nc, .pointer (some ⟨w.heap.size, 2, none⟩), .int .i64 (gn : Int), .slice (some ⟨g4, 0, none⟩) gn gn, undef], []⟩ W) ?_ (fun H0111 => ?_)
 ·intro listed hl g2 g3 g4 W hS A2 A3 A4
  subst hl
  refine wpAnyH_ready (rs := [3]) (by kernel_rfl) (by simp) ?_
  refine AllReadyH.cons rfl (fun K hK => ?_) AllReadyH.nil
  go_simp
  have A1 := hide (V1.out W hS.1.size)
  have hb := bel1 W (.cells C1 74)
  refine hK.out _ _ ?hs17 (fun hS2 => ?_)
  case hs17 => exact SC.next hS hb
  try simp only [List.setIfInBounds_toArray, List.set_cons_zero, List.set_cons_succ]
  exact H1111 _ (by kernel_rfl) _ g2 g3 g4 _ hS2 A1 (hide (A2.out.below hb)) (hide (A3.out.below hb)) (hide (A4.out.below hb))
 refine share_intro _ _ _ _ _ _ _ _ _ (fun Z => ∀ listed : Array Bool, listed = #[true, true, true, true, true, true, true, true, true, true, true, false, true, true, false, false, false] → ∀ (g1 : Nat) (g2 : Nat) (W : World), SC w w.heap.size (w.heap.size + 1) #[.slice ps ns cs, .slice pc nc cc, .int .i64 (gn : Int)] 25 31 W → Hid (OH 74 w.heap.size W (.slice (some ⟨g1, 0, none⟩) ns ns) (List.replicate ns (none, 0, 0))) → Hid (OH 76 w.heap.size W (.slice (some ⟨g2, 0, none⟩) nc nc) (List.replicate nc (none, 0, 0))) → Z 4 listed ⟨#[.agg #[.slice ps ns cs, .slice pc nc cc, .int .i64 (gn : Int)], .pointer (some ⟨w.heap.size, 0, none⟩), .pointer (some ⟨w.heap.size + 1, 0, none⟩), .pointer (some ⟨w.heap.size, 0, none⟩), .slice ps ns cs, .int .i64 (ns : Int), .slice (some ⟨g1, 0, none⟩) ns ns, .pointer (some ⟨w.heap.size, 1, none⟩), .slice pc nc cc, .int .i64 (nc : Int), .slice (some ⟨g2, 0, none⟩) nc nc, .pointer (some ⟨w.heap.size, 1, none⟩), .slice pc nc cc, .int .i64 (nc : Int), undef, .pointer (some ⟨w.heap.size, 2, none⟩), .int .i64 (gn : Int), undef, undef], []⟩ W) ?_ (fun H1100 => ?_)
 ·intro listed hl g1 g2 W hS A1 A2
  subst hl
  refine wpAnyH_ready (rs := [11, 14]) (by kernel_rfl) (by simp) ?_
  refine AllReadyH.cons rfl (fun K hK => ?_) (AllReadyH.cons rfl (fun K hK => ?_) AllReadyH.nil)
  ·go_simp
   have A3 := hide (V3.out W hS.1.size)
   have hb := bel1 W (.cells C3 78)
   refine hK.out _ _ ?hs18 (fun hS2 => ?_)
   case hs18 => exact SC.next hS hb
   try simp only [List.setIfInBounds_toArray, List.set_cons_zero, List.set_cons_succ]
   exact H1110 _ (by kernel_rfl) g1 g2 _ _ hS2 (hide (A1.out.below hb)) (hide (A2.out.below hb)) A3
  ·go_simp
   have A4 := hide (V4.out W hS.1.size)
   have hb := bel1 W (.cells C4 80)
   refine hK.out _ _ ?hs19 (fun hS2 => ?_)
   case hs19 => exact SC.next hS hb
   try simp only [List.setIfInBounds_toArray, List.set_cons_zero, List.set_cons_succ]
   exact H1101 _ (by kernel_rfl) g1 g2 _ _ hS2 (hide (A1.out.below hb)) (hide (A2.out.below hb)) A4
 refine share_intro _ _ _ _ _ _ _ _ _ (fun Z => ∀ listed : Array Bool, listed = #[true, true, true, true, true, true, true, false, true, true, true, true, true, true, false, false, false] → ∀ (g1 : Nat) (g3 : Nat) (W : World), SC w w.heap.size (w.heap.size + 1) #[.slice ps ns cs, .slice pc nc cc, .int .i64 (gn : Int)] 25 31 W → Hid (OH 74 w.heap.size W (.slice (some ⟨g1, 0, none⟩) ns ns) (List.replicate ns (none, 0, 0))) → Hid (OH 78 w.heap.size W (.slice (some ⟨g3, 0, none⟩) nc nc) (List.replicate nc (none, 0, 0))) → Z 4 listed ⟨#[.agg #[.slice ps ns cs, .slice pc nc cc, .int .i64 (gn : Int)], .pointer (some ⟨w.heap.size, 0, none⟩), .pointer (some ⟨w.heap.size + 1, 0, none⟩), .pointer (some ⟨w.heap.size, 0, none⟩), .slice ps ns cs, .int .i64 (ns : Int), .slice (some ⟨g1, 0, none⟩) ns ns, .pointer (some ⟨w.heap.size, 1, none⟩), .slice pc nc cc, .int .i64 (nc : Int), undef, .pointer (some ⟨w.heap.size, 1, none⟩), .slice pc nc cc, .int .i64 (nc : Int), .slice (some ⟨g3, 0, none⟩) nc nc, .pointer (some ⟨w.heap.size, 2, none⟩), .int .i64 (gn : Int), undef, undef], []⟩ W) ?_ (fun H1010 => ?_)
 ·intro listed hl g1 g3 W hS A1 A3
  subst hl
  refine wpAnyH_ready (rs := [7, 14]) (by kernel_rfl) (by simp) ?_
  refine AllReadyH.cons rfl (fun K hK => ?_) (AllReadyH.cons rfl (fun K hK => ?_) AllReadyH.nil)
  ·go_simp
   have A2 := hide (V2.out W hS.1.size)
   have hb := bel1 W (.cells C2 76)
   refine hK.out _ _ ?hs20 (fun hS2 => ?_)
   case hs20 => exact SC.next hS hb
   try simp only [List.setIfInBounds_toArray, List.set_cons_zero, List.set_cons_succ]
   exact H1110 _ (by kernel_rfl) g1 _ g3 _ hS2 (hide (A1.out.below hb)) A2 (hide (A3.out.below hb))
  ·go_simp
   have A4 := hide (V4.out W hS.1.size)
   have hb := bel1 W (.cells C4 80)
   refine hK.out _ _ ?hs21 (fun hS2 => ?_)
   case hs21 => exact SC.next hS hb
   try simp only [List.setIfInBounds_toArray, List.set_cons_zero, List.set_cons_succ]
   exact H1011 _ (by kernel_rfl) g1 g3 _ _ hS2 (hide (A1.out.below hb)) (hide (A3.out.below hb)) A4
 refine share_intro _ _ _ _ _ _ _ _ _ (fun Z => ∀ listed : Array Bool, listed = #[true, true, true, true, true, true, true, false, true, true, true, false, true, true, true, false, false] → ∀ (g1 : Nat) (g4 : Nat) (W : World), SC w w.heap.size (w.heap.size + 1) #[.slice ps ns cs, .slice pc nc cc, .int .i64 (gn : Int)] 25 31 W → Hid (OH 74 w.heap.size W (.slice (some ⟨g1, 0, none⟩) ns ns) (List.replicate ns (none, 0, 0))) → Hid (OH 80 w.heap.size W (.slice (some ⟨g4, 0, none⟩) gn gn) (List.replicate gn (none, 0, 0))) → Z 4 listed ⟨#[.agg #[.slice ps ns cs, .slice pc nc cc, .int .i64 (gn : Int)], .pointer (some ⟨w.heap.size, 0, none⟩), .pointer (some ⟨w.heap.size + 1, 0, none⟩), .pointer (some ⟨w.heap.size, 0, none⟩), .slice ps ns cs, .int .i64 (ns : Int), .slice (some ⟨g1, 0, none⟩) ns ns, .pointer (some ⟨w.heap.size, 1, none⟩), .slice pc nc cc, .int .i64 (nc : Int), undef, .pointer (some ⟨w.heap.size, 1, none⟩), .slice pc nc cc, .int .i64 (nc : Int), undef, .pointer (some ⟨w.heap.size, 2, none⟩), .int .i64 (gn : Int), .slice (some ⟨g4, 0, none⟩) gn gn, undef], []⟩ W) ?_ (fun H1001 => ?_)
 ·intro listed hl g1 g4 W hS A1 A4
  subst hl
  refine wpAnyH_ready (rs := [7, 11]) (by kernel_rfl) (by simp) ?_
  refine AllReadyH.cons rfl (fun K hK => ?_) (AllReadyH.cons rfl (fun K hK => ?_) AllReadyH.nil)
  ·go_simp
   have A2 := hide (V2.out W hS.1.size)
   have hb := bel1 W (.cells C2 76)
   refine hK.out _ _ ?hs22 (fun hS2 => ?_)
   case hs22 => exact SC.next hS hb
   try simp only [List.setIfInBounds_toArray, List.set_cons_zero, List.set_cons_succ]
   exact H1101 _ (by kernel_rfl) g1 _ g4 _ hS2 (hide (A1.out.below hb)) A2 (hide (A4.out.below hb))
  ·go_simp
   have A3 := hide (V3.out W hS.1.size)
   have hb := bel1 W (.cells C3 78)
   refine hK.out _ _ ?hs23 (fun hS2 => ?_)
   case hs23 => exact SC.next hS hb
   try simp only [List.setIfInBounds_toArray, List.set_cons_zero, List.set_cons_succ]
   exact H1011 _ (by kernel_rfl) g1 _ g4 _ hS2 (hide (A1.out.below hb)) A3 (hide (A4.out.below hb))
 refine share_intro _ _ _ _ _ _ _ _ _ (fun Z => ∀ listed : Array Bool, listed = #[true, true, true, false, true, true, true, true, true, true, true, true, true, true, false, false, false] → ∀ (g2 : Nat) (g3 : Nat) (W : World), SC w w.heap.size (w.heap.size + 1) #[.slice ps ns cs, .slice pc nc cc, .int .i64 (gn : Int)] 25 31 W → Hid (OH 76 w.heap.size W (.slice (some ⟨g2, 0, none⟩) nc nc) (List.replicate nc (none, 0, 0))) → Hid (OH 78 w.heap.size W (.slice (some ⟨g3, 0, none⟩) nc nc) (List.replicate nc (none, 0, 0))) → Z 4 listed ⟨#[.agg #[.slice ps ns cs, .slice pc nc cc, .int .i64 (gn : Int)], .pointer (some ⟨w.heap.size, 0, none⟩), .pointer (some ⟨w.heap.size + 1, 0, none⟩), .pointer (some ⟨w.heap.size, 0, none⟩), .slice ps ns cs, .int .i64 (ns : Int), undef, .pointer (some ⟨w.heap.size, 1, none⟩), .slice pc nc cc, .int .i64 (nc : Int), .slice (some ⟨g2, 0, none⟩) nc nc, .pointer (some ⟨w.heap.size, 1, none⟩), .slice pc nc cc, .int .i64 (nc : Int), .slice (some ⟨g3, 0, none⟩) nc nc, .pointer (some ⟨w.heap.size, 2, none⟩), .int .i64 (gn : Int), undef, undef], []⟩ W) ?_ (fun H0110 => ?_)
 ·intro listed hl g2 g3 W hS A2 A3
  subst hl
  refine wpAnyH_ready (rs := [3, 14]) (by kernel_rfl) (by simp) ?_
  refine AllReadyH.cons rfl (fun K hK => ?_) (AllReadyH.cons rfl (fun K hK => ?_) AllReadyH.nil)
  ·go_simp
   have A1 := hide (V1.out W hS.1.size)
   have hb := bel1 W (.cells C1 74)
   refine hK.out _ _ ?hs24 (fun hS2 => ?_)
   case hs24 => exact SC.next hS hb
   try simp only [List.setIfInBounds_toArray, List.set_cons_zero, List.set_cons_succ]
   exact H1110 _ (by kernel_rfl) _ g2 g3 _ hS2 A1 (hide (A2.out.below hb)) (hide (A3.out.below hb))
  ·go_simp
   have A4 := hide (V4.out W hS.1.size)
   have hb := bel1 W (.cells C4 80)
   refine hK.out _ _ ?hs25 (fun hS2 => ?_)
   case hs25 => exact SC.next hS hb
   try simp only [List.setIfInBounds_toArray, List.set_cons_zero, List.set_cons_succ]
   exact H0111 _ (by kernel_rfl) g2 g3 _ _ hS2 (hide (A2.out.below hb)) (hide (A3.out.below hb)) A4
 refine share_intro _ _ _ _ _ _ _ _ _ (fun Z => ∀ listed : Array Bool, listed = #[true, true, true, false, true, true, true, true, true, true, true, false, true, true, true, false, false] → ∀ (g2 : Nat) (g4 : Nat) (W : World), SC w w.heap.size (w.heap.size + 1) #[.slice ps ns cs, .slice pc nc cc, .int .i64 (gn : Int)] 25 31 W → Hid (OH 76 w.heap.size W (.slice (some ⟨g2, 0, none⟩) nc nc) (List.replicate nc (none, 0, 0))) → Hid (OH 80 w.heap.size W (.slice (some ⟨g4, 0, none⟩) gn gn) (List.replicate gn (none, 0, 0))) → Z 4 listed ⟨#[.agg #[.slice ps ns cs, .slice pc nc cc, .int .i64 (gn : Int)], .pointer (some ⟨w.heap.size, 0, none⟩), .pointer (some ⟨w.heap.size + 1, 0, none⟩), .pointer (some ⟨w.heap.size, 0, none⟩), .slice ps ns cs, .int .i64 (ns : Int), undef, .pointer (some ⟨w.heap.size, 1, none⟩), .slice pc nc cc, .int .i64 (nc : Int), .slice (some ⟨g2, 0, none⟩) nc nc, .pointer (some ⟨w.heap.size, 1, none⟩), .slice pc nc cc, .int .i64 (nc : Int), undef, .pointer (some ⟨w.heap.size, 2, none⟩), .int .i64 (gn : Int), .slice (some ⟨g4, 0, none⟩) gn gn, undef], []⟩ W) ?_ (fun H0101 => ?_)
 ·intro listed hl g2 g4 W hS A2 A4
  subst hl
  refine wpAnyH_ready (rs := [3, 11]) (by kernel_rfl) (by simp) ?_
  refine AllReadyH.cons rfl (fun K hK => ?_) (AllReadyH.cons rfl (fun K hK => ?_) AllReadyH.nil)
  ·go_simp
   have A1 := hide (V1.out W hS.1.size)
   have hb := bel1 W (.cells C1 74)
   refine hK.out _ _ ?hs26 (fun hS2 => ?_)
   case hs26 => exact SC.next hS hb
   try simp only [List.setIfInBounds_toArray, List.set_cons_zero, List.set_cons_succ]
   exact H1101 _ (by kernel_rfl) _ g2 g4 _ hS2 A1 (hide (A2.out.below hb)) (hide (A4.out.below hb))
  ·go_simp
   have A3 := hide (V3.out W hS.1.size)
   have hb := bel1 W (.cells C3 78)
   refine hK.out _ _ ?hs27 (fun hS2 => ?_)
   case hs27 => exact SC.next hS hb
   try simp only [List.setIfInBounds_toArray, List.set_cons_zero, List.set_cons_succ]
   exact H0111 _ (by kernel_rfl) g2 _ g4 _ hS2 (hide (A2.out.below hb)) A3 (hide (A4.out.below hb))
 refine share_intro _ _ _ _ _ _ _ _ _ (fun Z => ∀ listed : Array Bool, listed = #[true, true, true, false, true, true, true, false, true, true, true, true, true, true, true, false, false] → ∀ (g3 : Nat) (g4 : Nat) (W : World), SC w w.heap.size (w.heap.size + 1) #[.slice ps ns cs, .slice pc nc cc, .int .i64 (gn : Int)] 25 31 W → Hid (OH 78 w.heap.size W (.slice (some ⟨g3, 0, none⟩) nc nc) (List.replicate nc (none, 0, 0))) → Hid (OH 80 w.heap.size W (.slice (some ⟨g4, 0, none⟩) gn gn) (List.replicate gn (none, 0, 0))) → Z 4 listed ⟨#[.agg #[.slice ps ns cs, .slice pc nc cc, .int .i64 (gn : Int)], .pointer (some ⟨w.heap.size, 0, none⟩), .pointer (some ⟨w.heap.size + 1, 0, none⟩), .pointer (some ⟨w.heap.size, 0, none⟩), .slice ps ns cs, .int .i64 (ns : Int), undef, .pointer (some ⟨w.heap.size, 1, none⟩), .slice pc nc cc, .int .i64 (nc : Int), undef, .pointer (some ⟨w.heap.size, 1, none⟩), .slice pc nc cc, .int .i64 (nc : Int), .slice (some ⟨g3, 0, none⟩) nc nc, .pointer (some ⟨w.heap.size, 2, none⟩), .int .i64 (gn : Int), .slice (some ⟨g4, 0, none⟩) gn gn, undef], []⟩ W) ?_ (fun H0011 => ?_)
 ·intro listed hl g3 g4 W hS A3 A4
  subst hl
  refine wpAnyH_ready (rs := [3, 7]) (by kernel_rfl) (by simp) ?_
  refine AllReadyH.cons rfl (fun K hK => ?_) (AllReadyH.cons rfl (fun K hK => ?_) AllReadyH.nil)
  ·go_simp
   have A1 := hide (V1.out W hS.1.size)
   have hb := bel1 W (.cells C1 74)
   refine hK.out _ _ ?hs28 (fun hS2 => ?_)
   case hs28 => exact SC.next hS hb
   try simp only [List.setIfInBounds_toArray, List.set_cons_zero, List.set_cons_succ]
   exact H1011 _ (by kernel_rfl) _ g3 g4 _ hS2 A1 (hide (A3.out.below hb)) (hide (A4.out.below hb))
  ·go_simp
   have A2 := hide (V2.out W hS.1.size)
   have hb := bel1 W (.cells C2 76)
   refine hK.out _ _ ?hs29 (fun hS2 => ?_)
   case hs29 => exact SC.next hS hb
   try simp only [List.setIfInBounds_toArray, List.set_cons_zero, List.set_cons_succ]
   exact H0111 _ (by kernel_rfl) _ g3 g4 _ hS2 A2 (hide (A3.out.below hb)) (hide (A4.out.below hb))
 refine share_intro _ _ _ _ _ _ _ _ _ (fun Z => ∀ listed : Array Bool, listed = #[true, true, true, true, true, true, true, false, true, true, true, false, true, true, false, false, false] → ∀ (g1 : Nat) (W : World), SC w w.heap.size (w.heap.size + 1) #[.slice ps ns cs, .slice pc nc cc, .int .i64 (gn : Int)] 25 31 W → Hid (OH 74 w.heap.size W (.slice (some ⟨g1, 0, none⟩) ns ns) (List.replicate ns (none, 0, 0))) → Z 5 listed ⟨#[.agg #[.slice ps ns cs, .slice pc nc cc, .int .i64 (gn : Int)], .pointer (some ⟨w.heap.size, 0, none⟩), .pointer (some ⟨w.heap.size + 1, 0, none⟩), .pointer (some ⟨w.heap.size, 0, none⟩), .slice ps ns cs, .int .i64 (ns : Int), .slice (some ⟨g1, 0, none⟩) ns ns, .pointer (some ⟨w.heap.size, 1, none⟩), .slice pc nc cc, .int .i64 (nc : Int), undef, .pointer (some ⟨w.heap.size, 1, none⟩), .slice pc nc cc, .int .i64 (nc : Int), undef, .pointer (some ⟨w.heap.size, 2, none⟩), .int .i64 (gn : Int), undef, undef], []⟩ W) ?_ (fun H1000 => ?_)
 ·intro listed hl g1 W hS A1
  subst hl
  refine wpAnyH_ready (rs := [7, 11, 14]) (by kernel_rfl) (by simp) ?_
  refine AllReadyH.cons rfl (fun K hK => ?_) (AllReadyH.cons rfl (fun K hK => ?_) (AllReadyH.cons rfl (fun K hK => ?_) AllReadyH.nil))
  ·go_simp
   have A2 := hide (V2.out W hS.1.size)
   have hb := bel1 W (.cells C2 76)
   refine hK.out _ _ ?hs30 (fun hS2 => ?_)
   case hs30 => exact SC.next hS hb
   try simp only [List.setIfInBounds_toArray, List.set_cons_zero, List.set_cons_succ]
   exact H1100 _ (by kernel_rfl) g1 _ _ hS2 (hide (A1.out.below hb)) A2
  ·go_simp
   have A3 := hide (V3.out W hS.1.size)
   have hb := bel1 W (.cells C3 78)
   refine hK.out _ _ ?hs31 (fun hS2 => ?_)
   case hs31 => exact SC.next hS hb
   try simp only [List.setIfInBounds_toArray, List.set_cons_zero, List.set_cons_succ]
   exact H1010 _ (by kernel_rfl) g1 _ _ hS2 (hide (A1.out.below hb)) A3
  ·go_simp
   have A4 := hide (V4.out W hS.1.size)
   have hb := bel1 W (.cells C4 80)
   refine hK.out _ _ ?hs32 (fun hS2 => ?_)
   case hs32 => exact SC.next hS hb
   try simp only [List.setIfInBounds_toArray, List.set_cons_zero, List.set_cons_succ]
   exact H1001 _ (by kernel_rfl) g1 _ _ hS2 (hide (A1.out.below hb)) A4
 refine share_intro _ _ _ _ _ _ _ _ _ (fun Z => ∀ listed : Array Bool, listed = #[true, true, true, false, true, true, true, true, true, true, true, false, true, true, false, false, false] → ∀ (g2 : Nat) (W : World), SC w w.heap.size (w.heap.size + 1) #[.slice ps ns cs, .slice pc nc cc, .int .i64 (gn : Int)] 25 31 W → Hid (OH 76 w.heap.size W (.slice (some ⟨g2, 0, none⟩) nc nc) (List.replicate nc (none, 0, 0))) → Z 5 listed ⟨#[.agg #[.slice ps ns cs, .slice pc nc cc, .int .i64 (gn : Int)], .pointer (some ⟨w.heap.size, 0, none⟩), .pointer (some ⟨w.heap.size + 1, 0, none⟩), .pointer (some ⟨w.heap.size, 0, none⟩), .slice ps ns cs, .int .i64 (ns : Int), undef, .pointer (some ⟨w.heap.size, 1, none⟩), .slice pc nc cc, .int .i64 (nc : Int), .slice (some ⟨g2, 0, none⟩) nc nc, .pointer (some ⟨w.heap.size, 1, none⟩), .slice pc nc cc, .int .i64 (nc : Int), undef, .pointer (some ⟨w.heap.size, 2, none⟩), .int .i64 (gn : Int), undef, undef], []⟩ W) ?_ (fun H0100 => ?_)
 ·intro listed hl g2 W hS A2
  subst hl
  refine wpAnyH_ready (rs := [3, 11, 14]) (by kernel_rfl) (by simp) ?_
  refine AllReadyH.cons rfl (fun K hK => ?_) (AllReadyH.cons rfl (fun K hK => ?_) (AllReadyH.cons rfl (fun K hK => ?_) AllReadyH.nil))
  ·go_simp
   have A1 := hide (V1.out W hS.1.size)
   have hb := bel1 W (.cells C1 74)
   refine hK.out _ _ ?hs33 (fun hS2 => ?_)
   case hs33 => exact SC.next hS hb
   try simp only [List.setIfInBounds_toArray, List.set_cons_zero, List.set_cons_succ]
   exact H1100 _ (by kernel_rfl) _ g2 _ hS2 A1 (hide (A2.out.below hb))
  ·go_simp
   have A3 := hide (V3.out W hS.1.size)
   have hb := bel1 W (.cells C3 78)
   refine hK.out _ _ ?hs34 (fun hS2 => ?_)
   case hs34 => exact SC.next hS hb
   try simp only [List.setIfInBounds_toArray, List.set_cons_zero, List.set_cons_succ]
   exact H0110 _ (by kernel_rfl) g2 _ _ hS2 (hide (A2.out.below hb)) A3
  ·go_simp
   have A4 := hide (V4.out W hS.1.size)
   have hb := bel1 W (.cells C4 80)
   refine hK.out _ _ ?hs35 (fun hS2 => ?_)
   case hs35 => exact SC.next hS hb
   try simp only [List.setIfInBounds_toArray, List.set_cons_zero, List.set_cons_succ]
   exact H0101 _ (by kernel_rfl) g2 _ _ hS2 (hide (A2.out.below hb)) A4
 refine share_intro _ _ _ _ _ _ _ _ _ (fun Z => ∀ listed : Array Bool, listed = #[true, true, true, false, true, true, true, false, true, true, true, true, true, true, false, false, false] → ∀ (g3 : Nat) (W : World), SC w w.heap.size (w.heap.size + 1) #[.slice ps ns cs, .slice pc nc cc, .int .i64 (gn : Int)] 25 31 W → Hid (OH 78 w.heap.size W (.slice (some ⟨g3, 0, none⟩) nc nc) (List.replicate nc (none, 0, 0))) → Z 5 listed ⟨#[.agg #[.slice ps ns cs, .slice pc nc cc, .int .i64 (gn : Int)], .pointer (some ⟨w.heap.size, 0, none⟩), .pointer (some ⟨w.heap.size + 1, 0, none⟩), .pointer (some ⟨w.heap.size, 0, none⟩), .slice ps ns cs, .int .i64 (ns : Int), undef, .pointer (some ⟨w.heap.size, 1, none⟩), .slice pc nc cc, .int .i64 (nc : Int), undef, .pointer (some ⟨w.heap.size, 1, none⟩), .slice pc nc cc, .int .i64 (nc : Int), .slice (some ⟨g3, 0, none⟩) nc nc, .pointer (some ⟨w.heap.size, 2, none⟩), .int .i64 (gn : Int), undef, undef], []⟩ W) ?_ (fun H0010 => ?_)
 ·intro listed hl g3 W hS A3
  subst hl
  refine wpAnyH_ready (rs := [3, 7, 14]) (by kernel_rfl) (by simp) ?_
  refine AllReadyH.cons rfl (fun K hK => ?_) (AllReadyH.cons rfl (fun K hK => ?_) (AllReadyH.cons rfl (fun K hK => ?_) AllReadyH.nil))
  ·go_simp
   have A1 := hide (V1.out W hS.1.size)
   have hb := bel1 W (.cells C1 74)
   refine hK.out _ _ ?hs36 (fun hS2 => ?_)
   case hs36 => exact SC.next hS hb
   try simp only [List.setIfInBounds_toArray, List.set_cons_zero, List.set_cons_succ]
   exact H1010 _ (by kernel_rfl) _ g3 _ hS2 A1 (hide (A3.out.below hb))
  ·go_simp
   have A2 := hide (V2.out W hS.1.size)
   have hb := bel1 W (.cells C2 76)
   refine hK.out _ _ ?hs37 (fun hS2 => ?_)
   case hs37 => exact SC.next hS hb
   try simp only [List.setIfInBounds_toArray, List.set_cons_zero, List.set_cons_succ]
   exact H0110 _ (by kernel_rfl) _ g3 _ hS2 A2 (hide (A3.out.below hb))
  ·go_simp
   have A4 := hide (V4.out W hS.1.size)
   have hb := bel1 W (.cells C4 80)
   refine hK.out _ _ ?hs38 (fun hS2 => ?_)
   case hs38 => exact SC.next hS hb
   try simp only [List.setIfInBounds_toArray, List.set_cons_zero, List.set_cons_succ]
   exact H0011 _ (by kernel_rfl) g3 _ _ hS2 (hide (A3.out.below hb)) A4
 refine share_intro _ _ _ _ _ _ _ _ _ (fun Z => ∀ listed : Array Bool, listed = #[true, true, true, false, true, true, true, false, true, true, true, false, true, true, true, false, false] → ∀ (g4 : Nat) (W : World), SC w w.heap.size (w.heap.size + 1) #[.slice ps ns cs, .slice pc nc cc, .int .i64 (gn : Int)] 25 31 W → Hid (OH 80 w.heap.size W (.slice (some ⟨g4, 0, none⟩) gn gn) (List.replicate gn (none, 0, 0))) → Z 5 listed ⟨#[.agg #[.slice ps ns cs, .slice pc nc cc, .int .i64 (gn : Int)], .pointer (some ⟨w.heap.size, 0, none⟩), .pointer (some ⟨w.heap.size + 1, 0, none⟩), .pointer (some ⟨w.heap.size, 0, none⟩), .slice ps ns cs, .int .i64 (ns : Int), undef, .pointer (some ⟨w.heap.size, 1, none⟩), .slice pc nc cc, .int .i64 (nc : Int), undef, .pointer (some ⟨w.heap.size, 1, none⟩), .slice pc nc cc, .int .i64 (nc : Int), undef, .pointer (some ⟨w.heap.size, 2, none⟩), .int .i64 (gn : Int), .slice (some ⟨g4, 0, none⟩) gn gn, undef], []⟩ W) ?_ (fun H0001 => ?_)
 ·intro listed hl g4 W hS A4
  subst hl
  refine wpAnyH_ready (rs := [3, 7, 11]) (by kernel_rfl) (by simp) ?_
  refine AllReadyH.cons rfl (fun K hK => ?_) (AllReadyH.cons rfl (fun K hK => ?_) (AllReadyH.cons rfl (fun K hK => ?_) AllReadyH.nil))
  ·go_simp
   have A1 := hide (V1.out W hS.1.size)
   have hb := bel1 W (.cells C1 74)
   refine hK.out _ _ ?hs39 (fun hS2 => ?_)
   case hs39 => exact SC.next hS hb
   try simp only [List.setIfInBounds_toArray, List.set_cons_zero, List.set_cons_succ]
   exact H1001 _ (by kernel_rfl) _ g4 _ hS2 A1 (hide (A4.out.below hb))
  ·go_simp
   have A2 := hide (V2.out W hS.1.size)
   have hb := bel1 W (.cells C2 76)
   refine hK.out _ _ ?hs40 (fun hS2 => ?_)
   case hs40 => exact SC.next hS hb
   try simp only [List.setIfInBounds_toArray, List.set_cons_zero, List.set_cons_succ]
   exact H0101 _ (by kernel_rfl) _ g4 _ hS2 A2 (hide (A4.out.below hb))
  ·go_simp
   have A3 := hide (V3.out W hS.1.size)
   have hb := bel1 W (.cells C3 78)
   refine hK.out _ _ ?hs41 (fun hS2 => ?_)
   case hs41 => exact SC.next hS hb
   try simp only [List.setIfInBounds_toArray, List.set_cons_zero, List.set_cons_succ]
   exact H0011 _ (by kernel_rfl) _ g4 _ hS2 A3 (hide (A4.out.below hb))
 refine share_intro _ _ _ _ _ _ _ _ _ (fun Z => ∀ listed : Array Bool, listed = #[true, true, true, false, true, true, true, false, true, true, true, false, true, true, false, false, false] → ∀ (W : World), SC w w.heap.size (w.heap.size + 1) #[.slice ps ns cs, .slice pc nc cc, .int .i64 (gn : Int)] 25 31 W → Z 6 listed ⟨#[.agg #[.slice ps ns cs, .slice pc nc cc, .int .i64 (gn : Int)], .pointer (some ⟨w.heap.size, 0, none⟩), .pointer (some ⟨w.heap.size + 1, 0, none⟩), .pointer (some ⟨w.heap.size, 0, none⟩), .slice ps ns cs, .int .i64 (ns : Int), undef, .pointer (some ⟨w.heap.size, 1, none⟩), .slice pc nc cc, .int .i64 (nc : Int), undef, .pointer (some ⟨w.heap.size, 1, none⟩), .slice pc nc cc, .int .i64 (nc : Int), undef, .pointer (some ⟨w.heap.size, 2, none⟩), .int .i64 (gn : Int), undef, undef], []⟩ W) ?_ (fun H0000 => ?_)
 ·intro listed hl  W hS 
  subst hl
  refine wpAnyH_ready (rs := [3, 7, 11, 14]) (by kernel_rfl) (by simp) ?_
  refine AllReadyH.cons rfl (fun K hK => ?_) (AllReadyH.cons rfl (fun K hK => ?_) (AllReadyH.cons rfl (fun K hK => ?_) (AllReadyH.cons rfl (fun K hK => ?_) AllReadyH.nil)))
  ·go_simp
   have A1 := hide (V1.out W hS.1.size)
   have hb := bel1 W (.cells C1 74)
   refine hK.out _ _ ?hs42 (fun hS2 => ?_)
   case hs42 => exact SC.next hS hb
   try simp only [List.setIfInBounds_toArray, List.set_cons_zero, List.set_cons_succ]
   exact H1000 _ (by kernel_rfl) _ _ hS2 A1
  ·go_simp
   have A2 := hide (V2.out W hS.1.size)
   have hb := bel1 W (.cells C2 76)
   refine hK.out _ _ ?hs43 (fun hS2 => ?_)
   case hs43 => exact SC.next hS hb
   try simp only [List.setIfInBounds_toArray, List.set_cons_zero, List.set_cons_succ]
   exact H0100 _ (by kernel_rfl) _ _ hS2 A2
  ·go_simp
   have A3 := hide (V3.out W hS.1.size)
   have hb := bel1 W (.cells C3 78)
   refine hK.out _ _ ?hs44 (fun hS2 => ?_)
   case hs44 => exact SC.next hS hb
   try simp only [List.setIfInBounds_toArray, List.set_cons_zero, List.set_cons_succ]
   exact H0010 _ (by kernel_rfl) _ _ hS2 A3
  ·go_simp
   have A4 := hide (V4.out W hS.1.size)
   have hb := bel1 W (.cells C4 80)
   refine hK.out _ _ ?hs45 (fun hS2 => ?_)
   case hs45 => exact SC.next hS hb
   try simp only [List.setIfInBounds_toArray, List.set_cons_zero, List.set_cons_succ]
   exact H0001 _ (by kernel_rfl) _ _ hS2 A4
 exact H0000 _ (by kernel_rfl) _ hS0

theorem New13_ref (ps : Option Addr) (ns cs : Nat) (pc : Option Addr) (nc cc : Nat) (k : Kd) (gn : Nat) (w : World) (hg : k.2.2 = (gn : Int)) (hK : KM w ps ns cs pc nc cc k) (hk : kindsB k = true) : Calls Tryz.prog 26 #[.agg #[.slice ps ns cs, .slice pc nc cc, .int .i64 (gn : Int)]] w fun e w' => ∃ q1 d1 q2 d2 q3 d3 q4 d4 hs1 hs2 hs3 hs4, e = .returned (.agg #[.slice q1 ns d1, .slice q2 nc d2, .slice q3 nc d3, .slice q4 gn d4]) ∧ OW w.heap.size w' q1 ns d1 q2 nc d2 q3 nc d3 q4 gn d4 hs1 hs2 hs3 hs4 ∧ RH w' hs1 hs2 hs3 hs4 (newW k) ∧ Below w.heap.size w w' := by
 have e1 := hK.s.1
 have e2 := hK.c.1
 have hb : k.1.length ≤ 6 ∧ k.2.1.length ≤ 4 ∧ 0 ≤ k.2.2 ∧ k.2.2 ≤ 3 := by
  unfold kindsB at hk
  rw [Bool.and_eq_true, decide_eq_true_iff] at hk
  exact hk.2
 have e3 : k.2.2.toNat = gn := by omega
 refine (New13_raw ps ns cs pc nc cc gn w (by omega)).mono ?_
 rintro e w' ⟨q1, d1, q2, d2, q3, d3, q4, d4, he, ho, hb⟩
 refine ⟨q1, d1, q2, d2, q3, d3, q4, d4, _, _, _, _, he, ho, ?_, hb⟩
 unfold newW
 rw [e1, e2, e3]
 exact ⟨RelH.repl kept_ent _ _, RelH.repl kept_cel _ _, RelH.repl kept_acc _ _, RelH.repl kept_not _ _⟩
end Go.Proofs.YtkbbegbpkndebaaGreat

