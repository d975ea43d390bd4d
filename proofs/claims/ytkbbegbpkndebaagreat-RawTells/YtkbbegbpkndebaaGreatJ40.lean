/- Texts of this claim, joined: H13. -/
import Derived.Test.YtkbbegbpkndebaaGreatJ17
import Derived.Test.YtkbbegbpkndebaaGreatJ26
import Derived.Test.YtkbbegbpkndebaaGreatJ39
/- The document's Plain and Clean of layer 13. -/
namespace Go.Proofs.YtkbbegbpkndebaaGreat
open Go.RowKit Go.Lib
set_option linter.unusedVariables false
def fmW (f : List En → List En) (kd : Kd) (r : Rw) (k : Nat) : Rw := (r.1.mapIdx (fun i s => if decide (i < k) && rK kd i then f s else s), r.2)
theorem fmW_zero (f : List En → List En) (kd : Kd) (r : Rw) : fmW f kd r 0 = r := by
 unfold fmW
 rw [mapIdx_id (fun i x _ => by simp)]
theorem fmW_skip {f : List En → List En} {kd : Kd} {r : Rw} {k : Nat} (h : rK kd k = false) : fmW f kd r (k + 1) = fmW f kd r k := by
 unfold fmW
 congr 2
 funext i s
 by_cases e : i = k
 ·subst e; rw [h]; simp
 ·have : (i < k + 1) = (i < k) := by apply propext; omega
  simp only [this]
theorem fmW_at {f : List En → List En} {kd : Kd} {r : Rw} {k : Nat} {l : List En} (h : (fmW f kd r k).1[k]? = some l) : r.1[k]? = some l := by
 unfold fmW at h
 simp only [List.getElem?_mapIdx] at h
 rcases hx : r.1[k]? with _ | x
 ·rw [hx] at h; cases h
 ·rw [hx] at h; simpa using h
theorem fmW_next {f : List En → List En} {kd : Kd} {r : Rw} {k : Nat} {l : List En} (h : rK kd k = true) (hl : r.1[k]? = some l) : fmW f kd r (k + 1) = ((fmW f kd r k).1.set k (f l), (fmW f kd r k).2.1, (fmW f kd r k).2.2.1, (fmW f kd r k).2.2.2) := by
 have : (fmW f kd r (k + 1)).1 = (fmW f kd r k).1.set k (f l) := by
  unfold fmW
  apply List.ext_getElem?
  intro i
  simp only [List.getElem?_mapIdx, List.getElem?_set, List.length_mapIdx]
  by_cases e : k = i
  ·subst e
   have := (List.getElem?_eq_some_iff.1 hl).1
   rw [if_pos rfl, if_pos this, hl]
   simp only [Option.map_some, Option.some.injEq]
   rw [decide_eq_true (by omega), Bool.true_and, if_pos h]
  ·rw [if_neg e]
   have : (i < k + 1) = (i < k) := by apply propext; omega
   simp only [this]
 exact Prod.ext this rfl
theorem fmW_end {f : List En → List En} {kd : Kd} {r : Rw} {k : Nat} (h : r.1.length = k) : fmW f kd r k = (r.1.mapIdx (fun i s => if rK kd i = true then f s else s), r.2) := by
 unfold fmW
 congr 1
 apply List.ext_getElem?
 intro i
 simp only [List.getElem?_mapIdx]
 rcases hx : r.1[i]? with _ | x
 ·rfl
 ·have := (List.getElem?_eq_some_iff.1 hx).1
  simp only [Option.map_some]
  rw [decide_eq_true (by omega), Bool.true_and]
def OkS (r : Rw) : Prop := ∀ s ∈ r.1, SrtK s ∧ s.length ≤ 4000 ∧ ∀ x ∈ s, x.2.1.length ≤ 90000 ∧ x.2.2.length ≤ 90000
theorem OO.block1 {N : Nat} {w : World} {g : Nat} {n1 c1 : Nat} {p2 : Option Addr} {n2 c2 : Nat} {p3 : Option Addr} {n3 c3 : Nat} {p4 : Option Addr} {n4 c4 : Nat} {r : Rw} (h : OO N w (some ⟨g, 0, none⟩) n1 c1 p2 n2 c2 p3 n3 c3 p4 n4 c4 r) : ∃ C, BX w g C 74 ∧ SlC C := by
 obtain ⟨hs1, hs2, hs3, hs4, k1, k2⟩ := h
 exact k1.o1.2 g (by simp [Value.ownBlock])
theorem SlC.four (p1 : Option Addr) (n1 c1 : Nat) (p2 : Option Addr) (n2 c2 : Nat) (p3 : Option Addr) (n3 c3 : Nat) (p4 : Option Addr) (n4 c4 : Nat) : SlC #[.slice p1 n1 c1, .slice p2 n2 c2, .slice p3 n3 c3, .slice p4 n4 c4] := by
 intro i x hx
 rcases i with _ | _ | _ | _ | i
 ·simp at hx; exact ⟨_, _, _, hx.symm⟩
 ·simp at hx; exact ⟨_, _, _, hx.symm⟩
 ·simp at hx; exact ⟨_, _, _, hx.symm⟩
 ·simp at hx; exact ⟨_, _, _, hx.symm⟩
 ·simp at hx
theorem BX.ty {w : World} {g : Nat} {C C' : Array Value} {t t' : TypeId} (h : BX w g C t) (h' : BX w g C' t') : t = t' := by
 unfold BX at h h'
 rw [h] at h'
 simp at h'
 exact h'.2
theorem BX.slb {w : World} {g : Nat} {C : Array Value} {t : TypeId} (h : BX w g C t) (hC : SlC C) : SlB g w := by
 intro q x hx hq
 by_cases hc : ∃ i : Nat, C[i]? = some x
 ·obtain ⟨i, hi⟩ := hc
  exact hC i x hi
 ·exact absurd hq (h.ne hx (fun i e => hc ⟨i, e⟩))
theorem OO.put4 {N : Nat} {w : World} {p1 : Option Addr} {n1 c1 : Nat} {p2 : Option Addr} {n2 c2 : Nat} {p3 : Option Addr} {n3 c3 : Nat} {p4 : Option Addr} {n4 c4 : Nat} {r : Rw} (h : OO N w p1 n1 c1 p2 n2 c2 p3 n3 c3 p4 n4 c4 r) {g : Nat} {a1 : Option Addr} {b1 e1 : Nat} {a2 : Option Addr} {b2 e2 : Nat} {a3 : Option Addr} {b3 e3 : Nat} {a4 : Option Addr} {b4 e4 : Nat} {t : TypeId} (hx : BX w g #[.slice a1 b1 e1, .slice a2 b2 e2, .slice a3 b3 e3, .slice a4 b4 e4] t) (h1 : 74 ≠ t) (h2 : 76 ≠ t) (h3 : 78 ≠ t) (h4 : 80 ≠ t) (u1 : Option Addr) (v1 m1 : Nat) (u2 : Option Addr) (v2 m2 : Nat) (u3 : Option Addr) (v3 m3 : Nat) (u4 : Option Addr) (v4 m4 : Nat) : OO N ((((w.setCell ⟨g, 0, none⟩ (.slice u1 v1 m1)).setCell ⟨g, 1, none⟩ (.slice u2 v2 m2)).setCell ⟨g, 2, none⟩ (.slice u3 v3 m3)).setCell ⟨g, 3, none⟩ (.slice u4 v4 m4)) p1 n1 c1 p2 n2 c2 p3 n3 c3 p4 n4 c4 r := by
 have x1 : BX _ g #[.slice u1 v1 m1, .slice a2 b2 e2, .slice a3 b3 e3, .slice a4 b4 e4] t := hx.set 0 (.slice u1 v1 m1)
 have x2 : BX _ g #[.slice u1 v1 m1, .slice u2 v2 m2, .slice a3 b3 e3, .slice a4 b4 e4] t := x1.set 1 (.slice u2 v2 m2)
 have x3 : BX _ g #[.slice u1 v1 m1, .slice u2 v2 m2, .slice u3 v3 m3, .slice a4 b4 e4] t := x2.set 2 (.slice u3 v3 m3)
 exact (((h.put hx h1 h2 h3 h4 (hx.slb (SlC.four _ _ _ _ _ _ _ _ _ _ _ _)) 0 _).put x1 h1 h2 h3 h4 (x1.slb (SlC.four _ _ _ _ _ _ _ _ _ _ _ _)) 1 _).put x2 h1 h2 h3 h4 (x2.slb (SlC.four _ _ _ _ _ _ _ _ _ _ _ _)) 2 _).put x3 h1 h2 h3 h4 (x3.slb (SlC.four _ _ _ _ _ _ _ _ _ _ _ _)) 3 _
set_option maxRecDepth 2000 in
set_option maxHeartbeats 16000000 in
theorem Plain13_ref (ps : Option Addr) (cs : Nat) (pc : Option Addr) (nc cc : Nat) (k : Kd) (g : Int) (p1 : Option Addr) (n1 c1 : Nat) (p2 : Option Addr) (n2 c2 : Nat) (p3 : Option Addr) (n3 c3 : Nat) (p4 : Option Addr) (n4 c4 : Nat) (r : Rw) (w : World) (hK : KM w ps n1 cs pc nc cc k) (hR : RM w p1 n1 c1 p2 n2 c2 p3 n3 c3 p4 n4 c4 r) (hs : OkS r) (hn : n1 ≤ 1000 ∧ n2 ≤ 1000 ∧ n3 ≤ 1000 ∧ n4 ≤ 1000) : Calls Tryz.prog 27 #[.agg #[.slice ps n1 cs, .slice pc nc cc, .int .i64 g], .agg #[.slice p1 n1 c1, .slice p2 n2 c2, .slice p3 n3 c3, .slice p4 n4 c4]] w fun e w' => ∃ q1 d1 q2 d2 q3 d3 q4 d4, e = .returned (.agg #[.slice q1 n1 d1, .slice q2 n2 d2, .slice q3 n3 d3, .slice q4 n4 d4]) ∧ RM w' q1 n1 d1 q2 n2 d2 q3 n3 d3 q4 n4 d4 (r.1.mapIdx (fun i s => if rK k i = true then mapP plainF s else s), r.2) ∧ Below w.heap.size w w' := by
 have HB0 : Hid (Below w.heap.size w (((w.alloc (.cells #[.slice ps n1 cs, .slice pc nc cc, .int .i64 g] 25)).alloc (.cells #[.slice p1 n1 c1, .slice p2 n2 c2, .slice p3 n3 c3, .slice p4 n4 c4] 31)).alloc (.cells #[.slice none 0 0, .slice none 0 0, .slice none 0 0, .slice none 0 0] 31))) := (bel2 w _ _).alloc (by simp; omega) _
 have HK0 := hide hK
 have HS := hide hs
 have HLR := hide (LS.len hR.s)
 skip
 have HCP := hide (copied_any p1 n1 c1 p2 n2 c2 p3 n3 c3 p4 n4 c4 r (((w.alloc (.cells #[.slice ps n1 cs, .slice pc nc cc, .int .i64 g] 25)).alloc (.cells #[.slice p1 n1 c1, .slice p2 n2 c2, .slice p3 n3 c3, .slice p4 n4 c4] 31)).alloc (.cells #[.slice none 0 0, .slice none 0 0, .slice none 0 0, .slice none 0 0] 31)) (hR.below HB0.out) hn)
 have HBK0 : Hid (BX (((w.alloc (.cells #[.slice ps n1 cs, .slice pc nc cc, .int .i64 g] 25)).alloc (.cells #[.slice p1 n1 c1, .slice p2 n2 c2, .slice p3 n3 c3, .slice p4 n4 c4] 31)).alloc (.cells #[.slice none 0 0, .slice none 0 0, .slice none 0 0, .slice none 0 0] 31)) w.heap.size #[.slice ps n1 cs, .slice pc nc cc, .int .i64 g] 25) := ((BX.new w _ rfl _ _).alloc _).alloc _
 have HBS0 : Hid (BX (((w.alloc (.cells #[.slice ps n1 cs, .slice pc nc cc, .int .i64 g] 25)).alloc (.cells #[.slice p1 n1 c1, .slice p2 n2 c2, .slice p3 n3 c3, .slice p4 n4 c4] 31)).alloc (.cells #[.slice none 0 0, .slice none 0 0, .slice none 0 0, .slice none 0 0] 31)) (w.heap.size + 1) #[.slice p1 n1 c1, .slice p2 n2 c2, .slice p3 n3 c3, .slice p4 n4 c4] 31) := (BX.new (w.alloc (.cells #[.slice ps n1 cs, .slice pc nc cc, .int .i64 g] 25)) _ (by simp) _ _).alloc _
 have HBR0 : Hid (BX (((w.alloc (.cells #[.slice ps n1 cs, .slice pc nc cc, .int .i64 g] 25)).alloc (.cells #[.slice p1 n1 c1, .slice p2 n2 c2, .slice p3 n3 c3, .slice p4 n4 c4] 31)).alloc (.cells #[.slice none 0 0, .slice none 0 0, .slice none 0 0, .slice none 0 0] 31)) (w.heap.size + 1 + 1) #[.slice none 0 0, .slice none 0 0, .slice none 0 0, .slice none 0 0] 31) := BX.new ((w.alloc (.cells #[.slice ps n1 cs, .slice pc nc cc, .int .i64 g] 25)).alloc (.cells #[.slice p1 n1 c1, .slice p2 n2 c2, .slice p3 n3 c3, .slice p4 n4 c4] 31)) _ (by simp) _ _
 have hsz : (((w.alloc (.cells #[.slice ps n1 cs, .slice pc nc cc, .int .i64 g] 25)).alloc (.cells #[.slice p1 n1 c1, .slice p2 n2 c2, .slice p3 n3 c3, .slice p4 n4 c4] 31)).alloc (.cells #[.slice none 0 0, .slice none 0 0, .slice none 0 0, .slice none 0 0] 31)).heap.size = w.heap.size + 1 + 1 + 1 := by simp
 clear hK hR hs
 go_enter Tryz.func27, Tryz.ntmps27
 go_upto_region 1 with fail
 generalize (((w.alloc (.cells #[.slice ps n1 cs, .slice pc nc cc, .int .i64 g] 25)).alloc (.cells #[.slice p1 n1 c1, .slice p2 n2 c2, .slice p3 n3 c3, .slice p4 n4 c4] 31)).alloc (.cells #[.slice none 0 0, .slice none 0 0, .slice none 0 0, .slice none 0 0] 31)) = u at *
 have s0 := HBS0.out.cell 0 _ rfl
 have s1 := HBS0.out.cell 1 _ rfl
 have s2 := HBS0.out.cell 2 _ rfl
 have s3 := HBS0.out.cell 3 _ rfl
 go_upto_region 2 with (go_at_call 60; refine HCP.out.mono ?_; rintro e wc ⟨q1, d1, q2, d2, q3, d3, q4, d4, hs1, hs2, hs3, hs4, rfl, ho, hh, hb⟩; have HO0 : Hid (OO u.heap.size wc q1 n1 d1 q2 n2 d2 q3 n3 d3 q4 n4 d4 r) := ⟨hs1, hs2, hs3, hs4, ho, hh⟩; replace HB0 := hide (bel_next HB0.out hb); replace HBK0 := hide (HBK0.out.below hb); replace HBR0 := hide (HBR0.out.below hb); have hwc := hb.size; clear ho hh hb)
 clear s0 s1 s2 s3
 have BQ := hide (bel1 wc (.cells #[.slice q1 n1 d1, .slice q2 n2 d2, .slice q3 n3 d3, .slice q4 n4 d4] 31))
 have HBW0 : Hid (BX (wc.alloc (.cells #[.slice q1 n1 d1, .slice q2 n2 d2, .slice q3 n3 d3, .slice q4 n4 d4] 31)) wc.heap.size #[.slice q1 n1 d1, .slice q2 n2 d2, .slice q3 n3 d3, .slice q4 n4 d4] 31) := BX.new wc _ rfl _ _
 replace HB0 := hide (bel_next HB0.out BQ.out)
 replace HBK0 := hide (HBK0.out.below BQ.out)
 replace HBR0 := hide (HBR0.out.below BQ.out)
 replace HO0 := hide (HO0.out.below BQ.out)
 rw [← fmW_zero (mapP plainF) k r] at HO0
 clear BQ HCP HBS0
 generalize wc.alloc (.cells #[.slice q1 n1 d1, .slice q2 n2 d2, .slice q3 n3 d3, .slice q4 n4 d4] 31) = u2 at *
 generalize hgW : wc.heap.size = gW at *
 have a0 := HBK0.out.cell 0 _ rfl
 go_wp2
 go_loopw [6] (fun v wr => ∃ i : Nat, i ≤ n1 ∧ v = .int .i64 i ∧ Hid (OO u.heap.size wr q1 n1 d1 q2 n2 d2 q3 n3 d3 q4 n4 d4 (fmW (mapP plainF) k r i)) ∧ Hid (BX wr gW #[.slice q1 n1 d1, .slice q2 n2 d2, .slice q3 n3 d3, .slice q4 n4 d4] 31) ∧ Hid (BX wr (w.heap.size + 1 + 1) #[.slice none 0 0, .slice none 0 0, .slice none 0 0, .slice none 0 0] 31) ∧ Hid (BX wr w.heap.size #[.slice ps n1 cs, .slice pc nc cc, .int .i64 g] 25) ∧ Hid (Below w.heap.size w wr)) (fun v _ => n1 - (RowKit.intOf v).toNat)
 case atStart => exact ⟨0, by omega, rfl, HO0, HBW0, HBR0, HBK0, HB0⟩
 case round =>
  clear a0 HO0 HBW0 HBR0 HBK0 HB0
  obtain ⟨k0, hk, rfl, HO, HBW, HBR, HBK, HB⟩ := hrel
  have a0 := HBK.out.cell 0 _ rfl
  by_cases hlt : k0 < n1
  ·obtain ⟨bs, os, rfl⟩ := rs_addr HK0.out.s (by omega)
   obtain ⟨x, hf, y0⟩ := bool_at ((HK0.out.below HB.out).s) k0 hlt
   have hk0 : (0 : Int) ≤ (k0 : Int) := by omega
   have hk1 : (k0 : Int) < (n1 : Int) := by omega
   have hrk : rK k k0 = x := by show k.1.getD k0 false = x; rw [List.getD_eq_getElem?_getD, hf]; rfl
   rcases x with _ | _
   ·rw [← fmW_skip (f := mapP plainF) (r := r) hrk] at HO
    clear hf hrk
    go_wp2
    go_roundw
    case rel => exact ⟨k0 + 1, by omega, by go_num, HO, HBW, HBR, HBK, HB⟩
    case measure => simp [RowKit.intOf]; omega
   ·obtain ⟨gq, px, nx, cx, lx, hq, hgN0, hx, x0, z0, hX, _⟩ := HO.out.at1 k0 hlt
    subst hq
    have hx2 := fmW_at hx
    have HSX := hide (HS.out lx (List.mem_of_getElem? hx2))
    have HNX := hide (fmW_next (f := mapP plainF) hrk hx2)
    have HX1 := hide hX
    have hnx := hX.len
    have hgN : w.heap.size ≤ gq := by omega
    have hgw : gq ≠ gW := fun e => by
     have q := HBW.out
     rw [← e] at q
     obtain ⟨C, b1, _⟩ := HO.out.block1
     have := q.ty b1
     revert this
     decide
    have hgr : gq ≠ w.heap.size + 1 + 1 := by omega
    have hgk : gq ≠ w.heap.size := by omega
    have b0 := HBW.out.cell 0 _ rfl
    clear hf hrk hx hx2 hX
    replace HO := hide (HO.out.below (Below.refl _ wr).drew)
    replace HBW := hide HBW.out.drew
    replace HBR := hide HBR.out.drew
    replace HBK := hide HBK.out.drew
    replace HB := hide HB.out.drew
    replace HX1 := hide (HX1.out.below (Below.refl _ wr).drew)
    have b0 : wr.drew.cell? ⟨gW, 0, none⟩ = some (.slice (some ⟨gq, 0, none⟩) n1 d1) := b0
    have x0 : wr.drew.cell? ⟨gq, k0, none⟩ = some (.slice px nx cx) := x0
    have z0 : wr.drew.frozen? ⟨gq, k0, none⟩ = false := z0
    go_upto_region 6 with fail
    refine wp_region_any (by kernel_rfl) ?_
    change wpAny _ _ _ _ _ _ _ (World.drew _)
    generalize wr.drew = x1 at *
    refine takeP 0 21 ?v1 rfl rfl (by kernel_rfl) (by kernel_rfl) (by kernel_rfl) (fun _ _ _ h => h) (by kernel_rfl) ?hy1 ?_
    case hy1 => (intro W; go_simp; try rfl)
    simp only [ly]
    refine takeP 2 23 ?v2 rfl rfl (by kernel_rfl) (by kernel_rfl) (by kernel_rfl) (fun _ _ _ h => h) (by kernel_rfl) ?hy2 ?_
    case hy2 => (intro W; go_simp; try rfl)
    simp only [ly]
    refine takeP 3 24 ?v3 rfl rfl (by kernel_rfl) (by kernel_rfl) (by kernel_rfl) (fun _ _ _ h => h) (by kernel_rfl) ?hy3 ?_
    case hy3 => (intro W; go_simp; try rfl)
    simp only [ly]
    refine takeP 5 26 ?v4 rfl rfl (by kernel_rfl) (by kernel_rfl) (by kernel_rfl) (fun _ _ _ h => h) (by kernel_rfl) ?hy4 ?_
    case hy4 => (intro W; go_simp; try rfl)
    simp only [ly]
    refine wpAny_ready (rs := [1, 4]) (by kernel_rfl) (by simp) ?_
    refine AllReady.cons rfl (fun K hK => ?_) (AllReady.cons rfl (fun K hK => ?_) AllReady.nil)
    ·go_simp
     first | (refine hK _ _ ?_; clear hK K) | skip
     try simp only [ly]
     refine wpAny_ready (rs := [4]) (by kernel_rfl) (by simp) ?_
     refine AllReady.cons rfl (fun K hK => ?_) AllReady.nil
     go_simp
     first | (refine hK _ _ ?_; clear hK K) | skip
     try simp only [ly]
     refine takeP 6 27 ?v5 rfl rfl (by kernel_rfl) (by kernel_rfl) (by kernel_rfl) (fun _ _ _ h => h) (by kernel_rfl) ?hy5 ?_
     case hy5 => (intro W; go_simp; try rfl)
     simp only [ly]
     refine wpAny_ready (rs := [7]) (by kernel_rfl) (by simp) ?_
     refine AllReady.cons rfl (fun K hK => ?_) AllReady.nil
     go_simp
     first | (refine hK _ _ ?_; clear hK K) | skip
     try simp only [ly]
     refine wpAny_ready (rs := [8]) (by kernel_rfl) (by simp) ?_
     refine AllReady.cons rfl (fun K hK => ?_) AllReady.nil
     go_simp
     refine (Plain9_ref px nx cx lx _ HX1.out HSX.out.1 (by have := HSX.out.2.1; omega) HSX.out.2.2).mono ?_
     rintro e w' ⟨p9, c9, rfl, hn9, hc9, hb⟩
     have HN9 := hide hn9
     have HC9 := hide hc9
     replace HO := hide (HO.out.below hb)
     replace HBW := hide (HBW.out.below hb)
     replace HBR := hide (HBR.out.below hb)
     replace HBK := hide (HBK.out.below hb)
     replace HB := hide (bel_next HB.out hb)
     replace b0 := bcell hb b0
     replace x0 := bcell hb x0
     clear hn9 hc9 z0
     obtain ⟨_, _, _, _, _, hq, _, _, _, z0, _, _⟩ := HO.out.at1 k0 hlt
     cases hq
     clear hb
     first | (refine hK _ _ ?_; clear hK K) | skip
     try simp only [ly]
     refine takeP 9 30 ?v6 rfl rfl (by kernel_rfl) (by kernel_rfl) (by kernel_rfl) (fun _ _ _ h => h) (by kernel_rfl) ?hy6 ?_
     case hy6 => (intro W; go_simp; try rfl)
     simp only [ly]
     refine wpAny_ready (rs := [10]) (by kernel_rfl) (by simp) ?_
     refine AllReady.cons rfl (fun K hK => ?_) AllReady.nil
     go_simp
     first | (refine hK _ _ ?_; clear hK K) | skip
     try simp only [ly]
     refine wpAny_done (by kernel_rfl) ?_ _
     have HN := hide (HO.out.set1 k0 HN9.out HC9.out)
     have hge := hgN
     replace HBW := hide (HBW.out.other hgw k0 (.slice p9 ((mapP plainF lx).length) c9))
     replace HBR := hide (HBR.out.other hgr k0 (.slice p9 ((mapP plainF lx).length) c9))
     replace HBK := hide (HBK.out.other hgk k0 (.slice p9 ((mapP plainF lx).length) c9))
     replace HB := hide (HB.out.setCell (p := ⟨gq, k0, none⟩) hgN (.slice p9 ((mapP plainF lx).length) c9))
     rw [← HNX.out] at HN
     go_wp2
     go_roundw
     case rel => exact ⟨k0 + 1, by omega, by go_num, HN, HBW, HBR, HBK, HB⟩
     case measure => simp [RowKit.intOf]; omega
    ·go_simp
     first | (refine hK _ _ ?_; clear hK K) | skip
     try simp only [ly]
     refine takeP 6 27 ?v7 rfl rfl (by kernel_rfl) (by kernel_rfl) (by kernel_rfl) (fun _ _ _ h => h) (by kernel_rfl) ?hy7 ?_
     case hy7 => (intro W; go_simp; try rfl)
     simp only [ly]
     refine wpAny_ready (rs := [1, 7]) (by kernel_rfl) (by simp) ?_
     refine AllReady.cons rfl (fun K hK => ?_) (AllReady.cons rfl (fun K hK => ?_) AllReady.nil)
     ·go_simp
      first | (refine hK _ _ ?_; clear hK K) | skip
      try simp only [ly]
      refine wpAny_ready (rs := [7]) (by kernel_rfl) (by simp) ?_
      refine AllReady.cons rfl (fun K hK => ?_) AllReady.nil
      go_simp
      first | (refine hK _ _ ?_; clear hK K) | skip
      try simp only [ly]
      refine wpAny_ready (rs := [8]) (by kernel_rfl) (by simp) ?_
      refine AllReady.cons rfl (fun K hK => ?_) AllReady.nil
      go_simp
      refine (Plain9_ref px nx cx lx _ HX1.out HSX.out.1 (by have := HSX.out.2.1; omega) HSX.out.2.2).mono ?_
      rintro e w' ⟨p9, c9, rfl, hn9, hc9, hb⟩
      have HN9 := hide hn9
      have HC9 := hide hc9
      replace HO := hide (HO.out.below hb)
      replace HBW := hide (HBW.out.below hb)
      replace HBR := hide (HBR.out.below hb)
      replace HBK := hide (HBK.out.below hb)
      replace HB := hide (bel_next HB.out hb)
      replace b0 := bcell hb b0
      replace x0 := bcell hb x0
      clear hn9 hc9 z0
      obtain ⟨_, _, _, _, _, hq, _, _, _, z0, _, _⟩ := HO.out.at1 k0 hlt
      cases hq
      clear hb
      first | (refine hK _ _ ?_; clear hK K) | skip
      try simp only [ly]
      refine takeP 9 30 ?v8 rfl rfl (by kernel_rfl) (by kernel_rfl) (by kernel_rfl) (fun _ _ _ h => h) (by kernel_rfl) ?hy8 ?_
      case hy8 => (intro W; go_simp; try rfl)
      simp only [ly]
      refine wpAny_ready (rs := [10]) (by kernel_rfl) (by simp) ?_
      refine AllReady.cons rfl (fun K hK => ?_) AllReady.nil
      go_simp
      first | (refine hK _ _ ?_; clear hK K) | skip
      try simp only [ly]
      refine wpAny_done (by kernel_rfl) ?_ _
      have HN := hide (HO.out.set1 k0 HN9.out HC9.out)
      have hge := hgN
      replace HBW := hide (HBW.out.other hgw k0 (.slice p9 ((mapP plainF lx).length) c9))
      replace HBR := hide (HBR.out.other hgr k0 (.slice p9 ((mapP plainF lx).length) c9))
      replace HBK := hide (HBK.out.other hgk k0 (.slice p9 ((mapP plainF lx).length) c9))
      replace HB := hide (HB.out.setCell (p := ⟨gq, k0, none⟩) hgN (.slice p9 ((mapP plainF lx).length) c9))
      rw [← HNX.out] at HN
      go_wp2
      go_roundw
      case rel => exact ⟨k0 + 1, by omega, by go_num, HN, HBW, HBR, HBK, HB⟩
      case measure => simp [RowKit.intOf]; omega
     ·go_simp
      first | (refine hK _ _ ?_; clear hK K) | skip
      try simp only [ly]
      refine wpAny_ready (rs := [1, 8]) (by kernel_rfl) (by simp) ?_
      refine AllReady.cons rfl (fun K hK => ?_) (AllReady.cons rfl (fun K hK => ?_) AllReady.nil)
      ·go_simp
       first | (refine hK _ _ ?_; clear hK K) | skip
       try simp only [ly]
       refine wpAny_ready (rs := [8]) (by kernel_rfl) (by simp) ?_
       refine AllReady.cons rfl (fun K hK => ?_) AllReady.nil
       go_simp
       refine (Plain9_ref px nx cx lx _ HX1.out HSX.out.1 (by have := HSX.out.2.1; omega) HSX.out.2.2).mono ?_
       rintro e w' ⟨p9, c9, rfl, hn9, hc9, hb⟩
       have HN9 := hide hn9
       have HC9 := hide hc9
       replace HO := hide (HO.out.below hb)
       replace HBW := hide (HBW.out.below hb)
       replace HBR := hide (HBR.out.below hb)
       replace HBK := hide (HBK.out.below hb)
       replace HB := hide (bel_next HB.out hb)
       replace b0 := bcell hb b0
       replace x0 := bcell hb x0
       clear hn9 hc9 z0
       obtain ⟨_, _, _, _, _, hq, _, _, _, z0, _, _⟩ := HO.out.at1 k0 hlt
       cases hq
       clear hb
       first | (refine hK _ _ ?_; clear hK K) | skip
       try simp only [ly]
       refine takeP 9 30 ?v9 rfl rfl (by kernel_rfl) (by kernel_rfl) (by kernel_rfl) (fun _ _ _ h => h) (by kernel_rfl) ?hy9 ?_
       case hy9 => (intro W; go_simp; try rfl)
       simp only [ly]
       refine wpAny_ready (rs := [10]) (by kernel_rfl) (by simp) ?_
       refine AllReady.cons rfl (fun K hK => ?_) AllReady.nil
       go_simp
       first | (refine hK _ _ ?_; clear hK K) | skip
       try simp only [ly]
       refine wpAny_done (by kernel_rfl) ?_ _
       have HN := hide (HO.out.set1 k0 HN9.out HC9.out)
       have hge := hgN
       replace HBW := hide (HBW.out.other hgw k0 (.slice p9 ((mapP plainF lx).length) c9))
       replace HBR := hide (HBR.out.other hgr k0 (.slice p9 ((mapP plainF lx).length) c9))
       replace HBK := hide (HBK.out.other hgk k0 (.slice p9 ((mapP plainF lx).length) c9))
       replace HB := hide (HB.out.setCell (p := ⟨gq, k0, none⟩) hgN (.slice p9 ((mapP plainF lx).length) c9))
       rw [← HNX.out] at HN
       go_wp2
       go_roundw
       case rel => exact ⟨k0 + 1, by omega, by go_num, HN, HBW, HBR, HBK, HB⟩
       case measure => simp [RowKit.intOf]; omega
      ·go_simp
       refine (Plain9_ref px nx cx lx _ HX1.out HSX.out.1 (by have := HSX.out.2.1; omega) HSX.out.2.2).mono ?_
       rintro e w' ⟨p9, c9, rfl, hn9, hc9, hb⟩
       have HN9 := hide hn9
       have HC9 := hide hc9
       replace HO := hide (HO.out.below hb)
       replace HBW := hide (HBW.out.below hb)
       replace HBR := hide (HBR.out.below hb)
       replace HBK := hide (HBK.out.below hb)
       replace HB := hide (bel_next HB.out hb)
       replace b0 := bcell hb b0
       replace x0 := bcell hb x0
       clear hn9 hc9 z0
       obtain ⟨_, _, _, _, _, hq, _, _, _, z0, _, _⟩ := HO.out.at1 k0 hlt
       cases hq
       clear hb
       first | (refine hK _ _ ?_; clear hK K) | skip
       try simp only [ly]
       refine wpAny_ready (rs := [1]) (by kernel_rfl) (by simp) ?_
       refine AllReady.cons rfl (fun K hK => ?_) AllReady.nil
       go_simp
       first | (refine hK _ _ ?_; clear hK K) | skip
       try simp only [ly]
       refine takeP 9 30 ?v10 rfl rfl (by kernel_rfl) (by kernel_rfl) (by kernel_rfl) (fun _ _ _ h => h) (by kernel_rfl) ?hy10 ?_
       case hy10 => (intro W; go_simp; try rfl)
       simp only [ly]
       refine wpAny_ready (rs := [10]) (by kernel_rfl) (by simp) ?_
       refine AllReady.cons rfl (fun K hK => ?_) AllReady.nil
       go_simp
       first | (refine hK _ _ ?_; clear hK K) | skip
       try simp only [ly]
       refine wpAny_done (by kernel_rfl) ?_ _
       have HN := hide (HO.out.set1 k0 HN9.out HC9.out)
       have hge := hgN
       replace HBW := hide (HBW.out.other hgw k0 (.slice p9 ((mapP plainF lx).length) c9))
       replace HBR := hide (HBR.out.other hgr k0 (.slice p9 ((mapP plainF lx).length) c9))
       replace HBK := hide (HBK.out.other hgk k0 (.slice p9 ((mapP plainF lx).length) c9))
       replace HB := hide (HB.out.setCell (p := ⟨gq, k0, none⟩) hgN (.slice p9 ((mapP plainF lx).length) c9))
       rw [← HNX.out] at HN
       go_wp2
       go_roundw
       case rel => exact ⟨k0 + 1, by omega, by go_num, HN, HBW, HBR, HBK, HB⟩
       case measure => simp [RowKit.intOf]; omega
  ·obtain rfl : k0 = n1 := by omega
   rw [fmW_end HLR.out] at HO
   have b0 := HBW.out.cell 0 _ rfl
   have b1 := HBW.out.cell 1 _ rfl
   have b2 := HBW.out.cell 2 _ rfl
   have b3 := HBW.out.cell 3 _ rfl
   have e0 := HBR.out.cell 0 _ rfl
   have e1 := HBR.out.cell 1 _ rfl
   have e2 := HBR.out.cell 2 _ rfl
   have e3 := HBR.out.cell 3 _ rfl
   have z0 := HBR.out.free 0
   have z1 := HBR.out.free 1
   have z2 := HBR.out.free 2
   have z3 := HBR.out.free 3
   go_wp2
   refine bodyPost_ret (results_cell_row rfl _ _ _ _ _ _ _ rfl (HBR.out.put4 _ _ _ _) Tryz.underlying31 rfl (by kernel_rfl)) rfl ?_
   refine ⟨q1, d1, q2, d2, q3, d3, q4, d4, rfl, (OO.put4 HO.out HBR.out (by decide) (by decide) (by decide) (by decide) q1 _ d1 q2 n2 d2 q3 n3 d3 q4 n4 d4).rm, bel_put4N HB.out (by omega) _ _ _ _⟩
set_option maxRecDepth 2000 in
set_option maxHeartbeats 16000000 in
theorem Clean13_ref (ps : Option Addr) (cs : Nat) (pc : Option Addr) (nc cc : Nat) (k : Kd) (g : Int) (p1 : Option Addr) (n1 c1 : Nat) (p2 : Option Addr) (n2 c2 : Nat) (p3 : Option Addr) (n3 c3 : Nat) (p4 : Option Addr) (n4 c4 : Nat) (r : Rw) (pk : Option Addr) (nk ck : Nat) (c : List Int) (w : World) (hK : KM w ps n1 cs pc nc cc k) (hR : RM w p1 n1 c1 p2 n2 c2 p3 n3 c3 p4 n4 c4 r) (hC : NS w pk nk c) (hs : OkS r) (hn : n1 ≤ 1000 ∧ n2 ≤ 1000 ∧ n3 ≤ 1000 ∧ n4 ≤ 1000) : Calls Tryz.prog 31 #[.agg #[.slice ps n1 cs, .slice pc nc cc, .int .i64 g], .agg #[.slice p1 n1 c1, .slice p2 n2 c2, .slice p3 n3 c3, .slice p4 n4 c4], .slice pk nk ck] w fun e w' => ∃ q1 d1 q2 d2 q3 d3 q4 d4, e = .returned (.agg #[.slice q1 n1 d1, .slice q2 n2 d2, .slice q3 n3 d3, .slice q4 n4 d4]) ∧ RM w' q1 n1 d1 q2 n2 d2 q3 n3 d3 q4 n4 d4 (r.1.mapIdx (fun i s => if rK k i = true then mapP (cleanF c) s else s), r.2) ∧ Below w.heap.size w w' := by
 have HB0 : Hid (Below w.heap.size w (((w.alloc (.cells #[.slice ps n1 cs, .slice pc nc cc, .int .i64 g] 25)).alloc (.cells #[.slice p1 n1 c1, .slice p2 n2 c2, .slice p3 n3 c3, .slice p4 n4 c4] 31)).alloc (.cells #[.slice none 0 0, .slice none 0 0, .slice none 0 0, .slice none 0 0] 31))) := (bel2 w _ _).alloc (by simp; omega) _
 have HK0 := hide hK
 have HS := hide hs
 have HLR := hide (LS.len hR.s)
 have HCK := hide hC
 have HCP := hide (copied_any p1 n1 c1 p2 n2 c2 p3 n3 c3 p4 n4 c4 r (((w.alloc (.cells #[.slice ps n1 cs, .slice pc nc cc, .int .i64 g] 25)).alloc (.cells #[.slice p1 n1 c1, .slice p2 n2 c2, .slice p3 n3 c3, .slice p4 n4 c4] 31)).alloc (.cells #[.slice none 0 0, .slice none 0 0, .slice none 0 0, .slice none 0 0] 31)) (hR.below HB0.out) hn)
 have HBK0 : Hid (BX (((w.alloc (.cells #[.slice ps n1 cs, .slice pc nc cc, .int .i64 g] 25)).alloc (.cells #[.slice p1 n1 c1, .slice p2 n2 c2, .slice p3 n3 c3, .slice p4 n4 c4] 31)).alloc (.cells #[.slice none 0 0, .slice none 0 0, .slice none 0 0, .slice none 0 0] 31)) w.heap.size #[.slice ps n1 cs, .slice pc nc cc, .int .i64 g] 25) := ((BX.new w _ rfl _ _).alloc _).alloc _
 have HBS0 : Hid (BX (((w.alloc (.cells #[.slice ps n1 cs, .slice pc nc cc, .int .i64 g] 25)).alloc (.cells #[.slice p1 n1 c1, .slice p2 n2 c2, .slice p3 n3 c3, .slice p4 n4 c4] 31)).alloc (.cells #[.slice none 0 0, .slice none 0 0, .slice none 0 0, .slice none 0 0] 31)) (w.heap.size + 1) #[.slice p1 n1 c1, .slice p2 n2 c2, .slice p3 n3 c3, .slice p4 n4 c4] 31) := (BX.new (w.alloc (.cells #[.slice ps n1 cs, .slice pc nc cc, .int .i64 g] 25)) _ (by simp) _ _).alloc _
 have HBR0 : Hid (BX (((w.alloc (.cells #[.slice ps n1 cs, .slice pc nc cc, .int .i64 g] 25)).alloc (.cells #[.slice p1 n1 c1, .slice p2 n2 c2, .slice p3 n3 c3, .slice p4 n4 c4] 31)).alloc (.cells #[.slice none 0 0, .slice none 0 0, .slice none 0 0, .slice none 0 0] 31)) (w.heap.size + 1 + 1) #[.slice none 0 0, .slice none 0 0, .slice none 0 0, .slice none 0 0] 31) := BX.new ((w.alloc (.cells #[.slice ps n1 cs, .slice pc nc cc, .int .i64 g] 25)).alloc (.cells #[.slice p1 n1 c1, .slice p2 n2 c2, .slice p3 n3 c3, .slice p4 n4 c4] 31)) _ (by simp) _ _
 have hsz : (((w.alloc (.cells #[.slice ps n1 cs, .slice pc nc cc, .int .i64 g] 25)).alloc (.cells #[.slice p1 n1 c1, .slice p2 n2 c2, .slice p3 n3 c3, .slice p4 n4 c4] 31)).alloc (.cells #[.slice none 0 0, .slice none 0 0, .slice none 0 0, .slice none 0 0] 31)).heap.size = w.heap.size + 1 + 1 + 1 := by simp
 clear hK hR hs hC
 go_enter Tryz.func31, Tryz.ntmps31
 go_upto_region 1 with fail
 generalize (((w.alloc (.cells #[.slice ps n1 cs, .slice pc nc cc, .int .i64 g] 25)).alloc (.cells #[.slice p1 n1 c1, .slice p2 n2 c2, .slice p3 n3 c3, .slice p4 n4 c4] 31)).alloc (.cells #[.slice none 0 0, .slice none 0 0, .slice none 0 0, .slice none 0 0] 31)) = u at *
 have s0 := HBS0.out.cell 0 _ rfl
 have s1 := HBS0.out.cell 1 _ rfl
 have s2 := HBS0.out.cell 2 _ rfl
 have s3 := HBS0.out.cell 3 _ rfl
 go_upto_region 2 with (go_at_call 60; refine HCP.out.mono ?_; rintro e wc ⟨q1, d1, q2, d2, q3, d3, q4, d4, hs1, hs2, hs3, hs4, rfl, ho, hh, hb⟩; have HO0 : Hid (OO u.heap.size wc q1 n1 d1 q2 n2 d2 q3 n3 d3 q4 n4 d4 r) := ⟨hs1, hs2, hs3, hs4, ho, hh⟩; replace HB0 := hide (bel_next HB0.out hb); replace HBK0 := hide (HBK0.out.below hb); replace HBR0 := hide (HBR0.out.below hb); have hwc := hb.size; clear ho hh hb)
 clear s0 s1 s2 s3
 have BQ := hide (bel1 wc (.cells #[.slice q1 n1 d1, .slice q2 n2 d2, .slice q3 n3 d3, .slice q4 n4 d4] 31))
 have HBW0 : Hid (BX (wc.alloc (.cells #[.slice q1 n1 d1, .slice q2 n2 d2, .slice q3 n3 d3, .slice q4 n4 d4] 31)) wc.heap.size #[.slice q1 n1 d1, .slice q2 n2 d2, .slice q3 n3 d3, .slice q4 n4 d4] 31) := BX.new wc _ rfl _ _
 replace HB0 := hide (bel_next HB0.out BQ.out)
 replace HBK0 := hide (HBK0.out.below BQ.out)
 replace HBR0 := hide (HBR0.out.below BQ.out)
 replace HO0 := hide (HO0.out.below BQ.out)
 rw [← fmW_zero (mapP (cleanF c)) k r] at HO0
 clear BQ HCP HBS0
 generalize wc.alloc (.cells #[.slice q1 n1 d1, .slice q2 n2 d2, .slice q3 n3 d3, .slice q4 n4 d4] 31) = u2 at *
 generalize hgW : wc.heap.size = gW at *
 have a0 := HBK0.out.cell 0 _ rfl
 go_wp2
 go_loopw [8] (fun v wr => ∃ i : Nat, i ≤ n1 ∧ v = .int .i64 i ∧ Hid (OO u.heap.size wr q1 n1 d1 q2 n2 d2 q3 n3 d3 q4 n4 d4 (fmW (mapP (cleanF c)) k r i)) ∧ Hid (BX wr gW #[.slice q1 n1 d1, .slice q2 n2 d2, .slice q3 n3 d3, .slice q4 n4 d4] 31) ∧ Hid (BX wr (w.heap.size + 1 + 1) #[.slice none 0 0, .slice none 0 0, .slice none 0 0, .slice none 0 0] 31) ∧ Hid (BX wr w.heap.size #[.slice ps n1 cs, .slice pc nc cc, .int .i64 g] 25) ∧ Hid (Below w.heap.size w wr)) (fun v _ => n1 - (RowKit.intOf v).toNat)
 case atStart => exact ⟨0, by omega, rfl, HO0, HBW0, HBR0, HBK0, HB0⟩
 case round =>
  clear a0 HO0 HBW0 HBR0 HBK0 HB0
  obtain ⟨k0, hk, rfl, HO, HBW, HBR, HBK, HB⟩ := hrel
  have a0 := HBK.out.cell 0 _ rfl
  by_cases hlt : k0 < n1
  ·obtain ⟨bs, os, rfl⟩ := rs_addr HK0.out.s (by omega)
   obtain ⟨x, hf, y0⟩ := bool_at ((HK0.out.below HB.out).s) k0 hlt
   have hk0 : (0 : Int) ≤ (k0 : Int) := by omega
   have hk1 : (k0 : Int) < (n1 : Int) := by omega
   have hrk : rK k k0 = x := by show k.1.getD k0 false = x; rw [List.getD_eq_getElem?_getD, hf]; rfl
   rcases x with _ | _
   ·rw [← fmW_skip (f := mapP (cleanF c)) (r := r) hrk] at HO
    clear hf hrk
    go_wp2
    go_roundw
    case rel => exact ⟨k0 + 1, by omega, by go_num, HO, HBW, HBR, HBK, HB⟩
    case measure => simp [RowKit.intOf]; omega
   ·obtain ⟨gq, px, nx, cx, lx, hq, hgN0, hx, x0, z0, hX, _⟩ := HO.out.at1 k0 hlt
    subst hq
    have hx2 := fmW_at hx
    have HSX := hide (HS.out lx (List.mem_of_getElem? hx2))
    have HNX := hide (fmW_next (f := mapP (cleanF c)) hrk hx2)
    have HX1 := hide hX
    have hnx := hX.len
    have hgN : w.heap.size ≤ gq := by omega
    have hgw : gq ≠ gW := fun e => by
     have q := HBW.out
     rw [← e] at q
     obtain ⟨C, b1, _⟩ := HO.out.block1
     have := q.ty b1
     revert this
     decide
    have hgr : gq ≠ w.heap.size + 1 + 1 := by omega
    have hgk : gq ≠ w.heap.size := by omega
    have b0 := HBW.out.cell 0 _ rfl
    clear hf hrk hx hx2 hX
    replace HO := hide (HO.out.below (Below.refl _ wr).drew)
    replace HBW := hide HBW.out.drew
    replace HBR := hide HBR.out.drew
    replace HBK := hide HBK.out.drew
    replace HB := hide HB.out.drew
    replace HX1 := hide (HX1.out.below (Below.refl _ wr).drew)
    have b0 : wr.drew.cell? ⟨gW, 0, none⟩ = some (.slice (some ⟨gq, 0, none⟩) n1 d1) := b0
    have x0 : wr.drew.cell? ⟨gq, k0, none⟩ = some (.slice px nx cx) := x0
    have z0 : wr.drew.frozen? ⟨gq, k0, none⟩ = false := z0
    go_upto_region 6 with fail
    refine wp_region_any (by kernel_rfl) ?_
    change wpAny _ _ _ _ _ _ _ (World.drew _)
    generalize wr.drew = x1 at *
    refine takeP 0 23 ?v11 rfl rfl (by kernel_rfl) (by kernel_rfl) (by kernel_rfl) (fun _ _ _ h => h) (by kernel_rfl) ?hy11 ?_
    case hy11 => (intro W; go_simp; try rfl)
    simp only [ly]
    refine takeP 2 25 ?v12 rfl rfl (by kernel_rfl) (by kernel_rfl) (by kernel_rfl) (fun _ _ _ h => h) (by kernel_rfl) ?hy12 ?_
    case hy12 => (intro W; go_simp; try rfl)
    simp only [ly]
    refine takeP 3 26 ?v13 rfl rfl (by kernel_rfl) (by kernel_rfl) (by kernel_rfl) (fun _ _ _ h => h) (by kernel_rfl) ?hy13 ?_
    case hy13 => (intro W; go_simp; try rfl)
    simp only [ly]
    refine takeP 5 28 ?v14 rfl rfl (by kernel_rfl) (by kernel_rfl) (by kernel_rfl) (fun _ _ _ h => h) (by kernel_rfl) ?hy14 ?_
    case hy14 => (intro W; go_simp; try rfl)
    simp only [ly]
    refine takeP 8 31 ?v15 rfl rfl (by kernel_rfl) (by kernel_rfl) (by kernel_rfl) (fun _ _ _ h => h) (by kernel_rfl) ?hy15 ?_
    case hy15 => (intro W; go_simp; try rfl)
    simp only [ly]
    refine wpAny_ready (rs := [1, 4]) (by kernel_rfl) (by simp) ?_
    refine AllReady.cons rfl (fun K hK => ?_) (AllReady.cons rfl (fun K hK => ?_) AllReady.nil)
    ·go_simp
     first | (refine hK _ _ ?_; clear hK K) | skip
     try simp only [ly]
     refine wpAny_ready (rs := [4]) (by kernel_rfl) (by simp) ?_
     refine AllReady.cons rfl (fun K hK => ?_) AllReady.nil
     go_simp
     first | (refine hK _ _ ?_; clear hK K) | skip
     try simp only [ly]
     refine takeP 6 29 ?v16 rfl rfl (by kernel_rfl) (by kernel_rfl) (by kernel_rfl) (fun _ _ _ h => h) (by kernel_rfl) ?hy16 ?_
     case hy16 => (intro W; go_simp; try rfl)
     simp only [ly]
     refine wpAny_ready (rs := [7]) (by kernel_rfl) (by simp) ?_
     refine AllReady.cons rfl (fun K hK => ?_) AllReady.nil
     go_simp
     first | (refine hK _ _ ?_; clear hK K) | skip
     try simp only [ly]
     refine wpAny_ready (rs := [9]) (by kernel_rfl) (by simp) ?_
     refine AllReady.cons rfl (fun K hK => ?_) AllReady.nil
     go_simp
     refine (Clean9_ref px nx cx lx pk nk ck c _ HX1.out HSX.out.1 (HCK.out.below HB.out) (by have := HSX.out.2.1; omega) HSX.out.2.2).mono ?_
     rintro e w' ⟨p9, c9, rfl, hn9, hc9, hb⟩
     have HN9 := hide hn9
     have HC9 := hide hc9
     replace HO := hide (HO.out.below hb)
     replace HBW := hide (HBW.out.below hb)
     replace HBR := hide (HBR.out.below hb)
     replace HBK := hide (HBK.out.below hb)
     replace HB := hide (bel_next HB.out hb)
     replace b0 := bcell hb b0
     replace x0 := bcell hb x0
     clear hn9 hc9 z0
     obtain ⟨_, _, _, _, _, hq, _, _, _, z0, _, _⟩ := HO.out.at1 k0 hlt
     cases hq
     clear hb
     first | (refine hK _ _ ?_; clear hK K) | skip
     try simp only [ly]
     refine takeP 10 33 ?v17 rfl rfl (by kernel_rfl) (by kernel_rfl) (by kernel_rfl) (fun _ _ _ h => h) (by kernel_rfl) ?hy17 ?_
     case hy17 => (intro W; go_simp; try rfl)
     simp only [ly]
     refine wpAny_ready (rs := [11]) (by kernel_rfl) (by simp) ?_
     refine AllReady.cons rfl (fun K hK => ?_) AllReady.nil
     go_simp
     first | (refine hK _ _ ?_; clear hK K) | skip
     try simp only [ly]
     refine wpAny_done (by kernel_rfl) ?_ _
     have HN := hide (HO.out.set1 k0 HN9.out HC9.out)
     have hge := hgN
     replace HBW := hide (HBW.out.other hgw k0 (.slice p9 ((mapP (cleanF c) lx).length) c9))
     replace HBR := hide (HBR.out.other hgr k0 (.slice p9 ((mapP (cleanF c) lx).length) c9))
     replace HBK := hide (HBK.out.other hgk k0 (.slice p9 ((mapP (cleanF c) lx).length) c9))
     replace HB := hide (HB.out.setCell (p := ⟨gq, k0, none⟩) hgN (.slice p9 ((mapP (cleanF c) lx).length) c9))
     rw [← HNX.out] at HN
     go_wp2
     go_roundw
     case rel => exact ⟨k0 + 1, by omega, by go_num, HN, HBW, HBR, HBK, HB⟩
     case measure => simp [RowKit.intOf]; omega
    ·go_simp
     first | (refine hK _ _ ?_; clear hK K) | skip
     try simp only [ly]
     refine takeP 6 29 ?v18 rfl rfl (by kernel_rfl) (by kernel_rfl) (by kernel_rfl) (fun _ _ _ h => h) (by kernel_rfl) ?hy18 ?_
     case hy18 => (intro W; go_simp; try rfl)
     simp only [ly]
     refine wpAny_ready (rs := [1, 7]) (by kernel_rfl) (by simp) ?_
     refine AllReady.cons rfl (fun K hK => ?_) (AllReady.cons rfl (fun K hK => ?_) AllReady.nil)
     ·go_simp
      first | (refine hK _ _ ?_; clear hK K) | skip
      try simp only [ly]
      refine wpAny_ready (rs := [7]) (by kernel_rfl) (by simp) ?_
      refine AllReady.cons rfl (fun K hK => ?_) AllReady.nil
      go_simp
      first | (refine hK _ _ ?_; clear hK K) | skip
      try simp only [ly]
      refine wpAny_ready (rs := [9]) (by kernel_rfl) (by simp) ?_
      refine AllReady.cons rfl (fun K hK => ?_) AllReady.nil
      go_simp
      refine (Clean9_ref px nx cx lx pk nk ck c _ HX1.out HSX.out.1 (HCK.out.below HB.out) (by have := HSX.out.2.1; omega) HSX.out.2.2).mono ?_
      rintro e w' ⟨p9, c9, rfl, hn9, hc9, hb⟩
      have HN9 := hide hn9
      have HC9 := hide hc9
      replace HO := hide (HO.out.below hb)
      replace HBW := hide (HBW.out.below hb)
      replace HBR := hide (HBR.out.below hb)
      replace HBK := hide (HBK.out.below hb)
      replace HB := hide (bel_next HB.out hb)
      replace b0 := bcell hb b0
      replace x0 := bcell hb x0
      clear hn9 hc9 z0
      obtain ⟨_, _, _, _, _, hq, _, _, _, z0, _, _⟩ := HO.out.at1 k0 hlt
      cases hq
      clear hb
      first | (refine hK _ _ ?_; clear hK K) | skip
      try simp only [ly]
      refine takeP 10 33 ?v19 rfl rfl (by kernel_rfl) (by kernel_rfl) (by kernel_rfl) (fun _ _ _ h => h) (by kernel_rfl) ?hy19 ?_
      case hy19 => (intro W; go_simp; try rfl)
      simp only [ly]
      refine wpAny_ready (rs := [11]) (by kernel_rfl) (by simp) ?_
      refine AllReady.cons rfl (fun K hK => ?_) AllReady.nil
      go_simp
      first | (refine hK _ _ ?_; clear hK K) | skip
      try simp only [ly]
      refine wpAny_done (by kernel_rfl) ?_ _
      have HN := hide (HO.out.set1 k0 HN9.out HC9.out)
      have hge := hgN
      replace HBW := hide (HBW.out.other hgw k0 (.slice p9 ((mapP (cleanF c) lx).length) c9))
      replace HBR := hide (HBR.out.other hgr k0 (.slice p9 ((mapP (cleanF c) lx).length) c9))
      replace HBK := hide (HBK.out.other hgk k0 (.slice p9 ((mapP (cleanF c) lx).length) c9))
      replace HB := hide (HB.out.setCell (p := ⟨gq, k0, none⟩) hgN (.slice p9 ((mapP (cleanF c) lx).length) c9))
      rw [← HNX.out] at HN
      go_wp2
      go_roundw
      case rel => exact ⟨k0 + 1, by omega, by go_num, HN, HBW, HBR, HBK, HB⟩
      case measure => simp [RowKit.intOf]; omega
     ·go_simp
      first | (refine hK _ _ ?_; clear hK K) | skip
      try simp only [ly]
      refine wpAny_ready (rs := [1, 9]) (by kernel_rfl) (by simp) ?_
      refine AllReady.cons rfl (fun K hK => ?_) (AllReady.cons rfl (fun K hK => ?_) AllReady.nil)
      ·go_simp
       first | (refine hK _ _ ?_; clear hK K) | skip
       try simp only [ly]
       refine wpAny_ready (rs := [9]) (by kernel_rfl) (by simp) ?_
       refine AllReady.cons rfl (fun K hK => ?_) AllReady.nil
       go_simp
       refine (Clean9_ref px nx cx lx pk nk ck c _ HX1.out HSX.out.1 (HCK.out.below HB.out) (by have := HSX.out.2.1; omega) HSX.out.2.2).mono ?_
       rintro e w' ⟨p9, c9, rfl, hn9, hc9, hb⟩
       have HN9 := hide hn9
       have HC9 := hide hc9
       replace HO := hide (HO.out.below hb)
       replace HBW := hide (HBW.out.below hb)
       replace HBR := hide (HBR.out.below hb)
       replace HBK := hide (HBK.out.below hb)
       replace HB := hide (bel_next HB.out hb)
       replace b0 := bcell hb b0
       replace x0 := bcell hb x0
       clear hn9 hc9 z0
       obtain ⟨_, _, _, _, _, hq, _, _, _, z0, _, _⟩ := HO.out.at1 k0 hlt
       cases hq
       clear hb
       first | (refine hK _ _ ?_; clear hK K) | skip
       try simp only [ly]
       refine takeP 10 33 ?v20 rfl rfl (by kernel_rfl) (by kernel_rfl) (by kernel_rfl) (fun _ _ _ h => h) (by kernel_rfl) ?hy20 ?_
       case hy20 => (intro W; go_simp; try rfl)
       simp only [ly]
       refine wpAny_ready (rs := [11]) (by kernel_rfl) (by simp) ?_
       refine AllReady.cons rfl (fun K hK => ?_) AllReady.nil
       go_simp
       first | (refine hK _ _ ?_; clear hK K) | skip
       try simp only [ly]
       refine wpAny_done (by kernel_rfl) ?_ _
       have HN := hide (HO.out.set1 k0 HN9.out HC9.out)
       have hge := hgN
       replace HBW := hide (HBW.out.other hgw k0 (.slice p9 ((mapP (cleanF c) lx).length) c9))
       replace HBR := hide (HBR.out.other hgr k0 (.slice p9 ((mapP (cleanF c) lx).length) c9))
       replace HBK := hide (HBK.out.other hgk k0 (.slice p9 ((mapP (cleanF c) lx).length) c9))
       replace HB := hide (HB.out.setCell (p := ⟨gq, k0, none⟩) hgN (.slice p9 ((mapP (cleanF c) lx).length) c9))
       rw [← HNX.out] at HN
       go_wp2
       go_roundw
       case rel => exact ⟨k0 + 1, by omega, by go_num, HN, HBW, HBR, HBK, HB⟩
       case measure => simp [RowKit.intOf]; omega
      ·go_simp
       refine (Clean9_ref px nx cx lx pk nk ck c _ HX1.out HSX.out.1 (HCK.out.below HB.out) (by have := HSX.out.2.1; omega) HSX.out.2.2).mono ?_
       rintro e w' ⟨p9, c9, rfl, hn9, hc9, hb⟩
       have HN9 := hide hn9
       have HC9 := hide hc9
       replace HO := hide (HO.out.below hb)
       replace HBW := hide (HBW.out.below hb)
       replace HBR := hide (HBR.out.below hb)
       replace HBK := hide (HBK.out.below hb)
       replace HB := hide (bel_next HB.out hb)
       replace b0 := bcell hb b0
       replace x0 := bcell hb x0
       clear hn9 hc9 z0
       obtain ⟨_, _, _, _, _, hq, _, _, _, z0, _, _⟩ := HO.out.at1 k0 hlt
       cases hq
       clear hb
       first | (refine hK _ _ ?_; clear hK K) | skip
       try simp only [ly]
       refine wpAny_ready (rs := [1]) (by kernel_rfl) (by simp) ?_
       refine AllReady.cons rfl (fun K hK => ?_) AllReady.nil
       go_simp
       first | (refine hK _ _ ?_; clear hK K) | skip
       try simp only [ly]
       refine takeP 10 33 ?v21 rfl rfl (by kernel_rfl) (by kernel_rfl) (by kernel_rfl) (fun _ _ _ h => h) (by kernel_rfl) ?hy21 ?_
       case hy21 => (intro W; go_simp; try rfl)
       simp only [ly]
       refine wpAny_ready (rs := [11]) (by kernel_rfl) (by simp) ?_
       refine AllReady.cons rfl (fun K hK => ?_) AllReady.nil
       go_simp
       first | (refine hK _ _ ?_; clear hK K) | skip
       try simp only [ly]
       refine wpAny_done (by kernel_rfl) ?_ _
       have HN := hide (HO.out.set1 k0 HN9.out HC9.out)
       have hge := hgN
       replace HBW := hide (HBW.out.other hgw k0 (.slice p9 ((mapP (cleanF c) lx).length) c9))
       replace HBR := hide (HBR.out.other hgr k0 (.slice p9 ((mapP (cleanF c) lx).length) c9))
       replace HBK := hide (HBK.out.other hgk k0 (.slice p9 ((mapP (cleanF c) lx).length) c9))
       replace HB := hide (HB.out.setCell (p := ⟨gq, k0, none⟩) hgN (.slice p9 ((mapP (cleanF c) lx).length) c9))
       rw [← HNX.out] at HN
       go_wp2
       go_roundw
       case rel => exact ⟨k0 + 1, by omega, by go_num, HN, HBW, HBR, HBK, HB⟩
       case measure => simp [RowKit.intOf]; omega
  ·obtain rfl : k0 = n1 := by omega
   rw [fmW_end HLR.out] at HO
   have b0 := HBW.out.cell 0 _ rfl
   have b1 := HBW.out.cell 1 _ rfl
   have b2 := HBW.out.cell 2 _ rfl
   have b3 := HBW.out.cell 3 _ rfl
   have e0 := HBR.out.cell 0 _ rfl
   have e1 := HBR.out.cell 1 _ rfl
   have e2 := HBR.out.cell 2 _ rfl
   have e3 := HBR.out.cell 3 _ rfl
   have z0 := HBR.out.free 0
   have z1 := HBR.out.free 1
   have z2 := HBR.out.free 2
   have z3 := HBR.out.free 3
   go_wp2
   refine bodyPost_ret (results_cell_row rfl _ _ _ _ _ _ _ rfl (HBR.out.put4 _ _ _ _) Tryz.underlying31 rfl (by kernel_rfl)) rfl ?_
   refine ⟨q1, d1, q2, d2, q3, d3, q4, d4, rfl, (OO.put4 HO.out HBR.out (by decide) (by decide) (by decide) (by decide) q1 _ d1 q2 n2 d2 q3 n3 d3 q4 n4 d4).rm, bel_put4N HB.out (by omega) _ _ _ _⟩
end Go.Proofs.YtkbbegbpkndebaaGreat

