/- Texts of this claim, joined: HP5. -/
import Derived.Test.YtkbbegbpkndebaaGreatJ39
import Derived.Test.YtkbbegbpkndebaaGreatJ41
/- withDropSets, Plain and Clean of layer 13 (the program). -/
namespace Go.Proofs.YtkbbegbpkndebaaGreat
open Go.RowKit Go.Lib
set_option linter.unusedVariables false
def SW5 (w : World) (gO : Nat) (K R Q : Array Value) (W : World) : Prop := Below w.heap.size w W ∧ BX W w.heap.size K 25 ∧ BX W (w.heap.size + 1) R 31 ∧ BX W (w.heap.size + 1 + 1) #[.slice none 0 0, .slice none 0 0, .slice none 0 0, .slice none 0 0] 31 ∧ BX W gO Q 31
theorem SW5.next {w : World} {gO : Nat} {K R Q : Array Value} {W W' : World} (h : SW5 w gO K R Q W) (hb : Below W.heap.size W W') : SW5 w gO K R Q W' := ⟨bel_next h.1 hb, h.2.1.below hb, h.2.2.1.below hb, h.2.2.2.1.below hb, h.2.2.2.2.below hb⟩
theorem SW5.set {w : World} {gO : Nat} {K R Q : Array Value} {W : World} (h : SW5 w gO K R Q W) {g : Nat} {C : Array Value} {t : TypeId} (hx : BX W g C t) (h1 : 25 ≠ t) (h3 : 31 ≠ t) (hg : w.heap.size ≤ g) (i : Nat) (v : Value) : SW5 w gO K R Q (W.setCell ⟨g, i, none⟩ v) := by
 have no : ∀ {g' : Nat} {D : Array Value} {t' : TypeId}, BX W g' D t' → t' ≠ t → g ≠ g' := fun hd hne e => hne (by rw [← e] at hd; exact hd.ty hx)
 exact ⟨h.1.setCell (p := ⟨g, i, none⟩) hg v, h.2.1.other (no h.2.1 h1) i v, h.2.2.1.other (no h.2.2.1 h3) i v, h.2.2.2.1.other (no h.2.2.2.1 h3) i v, h.2.2.2.2.other (no h.2.2.2.2 h3) i v⟩
def OkP5 (r : Rw) : Prop := ∀ s ∈ r.1, ∀ x ∈ s, x.2.1.length ≤ 900000 ∧ x.2.2.length ≤ 900000
theorem Plain9_yes (a : Option Addr) (n cap : Nat) (s : List En) (w : World) (hA : NSS w a n s) (hd : ∀ x ∈ s, x.2.1.length ≤ 900000 ∧ x.2.2.length ≤ 900000) (hm : mayS9 s = true) : Calls Tryz.prog 76 #[.slice a n cap] w fun e w' => ∃ p cp, e = .returned (.slice p (mapP plainF s).length cp) ∧ NSS w' p (mapP plainF s).length (mapP plainF s) ∧ CP p (mapP plainF s).length cp ∧ Below w.heap.size w w' := by
 have q := Plain9_any a n cap s w hA hd
 have e : pl9 s = mapP plainF s := by unfold pl9; rw [if_pos hm]
 rw [e] at q
 exact q
set_option maxRecDepth 2000 in
set_option maxHeartbeats 16000000 in
theorem withPlain13 (ps : Option Addr) (cs : Nat) (pc : Option Addr) (nc cc : Nat) (k : Kd) (g : Int) (p1 : Option Addr) (n1 c1 : Nat) (p2 : Option Addr) (n2 c2 : Nat) (p3 : Option Addr) (n3 c3 : Nat) (p4 : Option Addr) (n4 c4 : Nat) (r : Rw) (w : World) (hK : KM w ps n1 cs pc nc cc k) (hR : RM w p1 n1 c1 p2 n2 c2 p3 n3 c3 p4 n4 c4 r) (hz : SzW r) (hs : OkP5 r) (hms : ∀ (i : Nat) s, rK k i = true → r.1[i]? = some s → mayS9 s = true) (hn : n1 ≤ 1000 ∧ n2 ≤ 1000 ∧ n3 ≤ 1000 ∧ n4 ≤ 1000) : Calls Tryz.prog 75 #[.agg #[.slice ps n1 cs, .slice pc nc cc, .int .i64 g], .agg #[.slice p1 n1 c1, .slice p2 n2 c2, .slice p3 n3 c3, .slice p4 n4 c4], .func (.func 76) #[] #[]] w fun e w' => ∃ q1 d1 q2 d2 q3 d3 q4 d4, e = .returned (.agg #[.slice q1 n1 d1, .slice q2 n2 d2, .slice q3 n3 d3, .slice q4 n4 d4]) ∧ OO w.heap.size w' q1 n1 d1 q2 n2 d2 q3 n3 d3 q4 n4 d4 (r.1.mapIdx (fun i s => if rK k i = true then mapP plainF s else s), r.2) ∧ Below w.heap.size w w' := by
 have HB0 : Hid (Below w.heap.size w (((w.alloc (.cells #[.slice ps n1 cs, .slice pc nc cc, .int .i64 g] 25)).alloc (.cells #[.slice p1 n1 c1, .slice p2 n2 c2, .slice p3 n3 c3, .slice p4 n4 c4] 31)).alloc (.cells #[.slice none 0 0, .slice none 0 0, .slice none 0 0, .slice none 0 0] 31))) := (bel2 w _ _).alloc (by simp; omega) _
 have HK0 := hide hK
 have HR0 := hide hR
 have HQS := hide hs
 have HMS := hide hms
 have HLR := hide (LS.len hR.s)
 skip
 have HCP := hide (copyRaw13 p1 n1 c1 p2 n2 c2 p3 n3 c3 p4 n4 c4 r (((w.alloc (.cells #[.slice ps n1 cs, .slice pc nc cc, .int .i64 g] 25)).alloc (.cells #[.slice p1 n1 c1, .slice p2 n2 c2, .slice p3 n3 c3, .slice p4 n4 c4] 31)).alloc (.cells #[.slice none 0 0, .slice none 0 0, .slice none 0 0, .slice none 0 0] 31)) (hR.below HB0.out) hn hz)
 have HBK0 : Hid (BX (((w.alloc (.cells #[.slice ps n1 cs, .slice pc nc cc, .int .i64 g] 25)).alloc (.cells #[.slice p1 n1 c1, .slice p2 n2 c2, .slice p3 n3 c3, .slice p4 n4 c4] 31)).alloc (.cells #[.slice none 0 0, .slice none 0 0, .slice none 0 0, .slice none 0 0] 31)) w.heap.size #[.slice ps n1 cs, .slice pc nc cc, .int .i64 g] 25) := ((BX.new w _ rfl _ _).alloc _).alloc _
 have HBS0 : Hid (BX (((w.alloc (.cells #[.slice ps n1 cs, .slice pc nc cc, .int .i64 g] 25)).alloc (.cells #[.slice p1 n1 c1, .slice p2 n2 c2, .slice p3 n3 c3, .slice p4 n4 c4] 31)).alloc (.cells #[.slice none 0 0, .slice none 0 0, .slice none 0 0, .slice none 0 0] 31)) (w.heap.size + 1) #[.slice p1 n1 c1, .slice p2 n2 c2, .slice p3 n3 c3, .slice p4 n4 c4] 31) := (BX.new (w.alloc (.cells #[.slice ps n1 cs, .slice pc nc cc, .int .i64 g] 25)) _ (by simp) _ _).alloc _
 have HBR0 : Hid (BX (((w.alloc (.cells #[.slice ps n1 cs, .slice pc nc cc, .int .i64 g] 25)).alloc (.cells #[.slice p1 n1 c1, .slice p2 n2 c2, .slice p3 n3 c3, .slice p4 n4 c4] 31)).alloc (.cells #[.slice none 0 0, .slice none 0 0, .slice none 0 0, .slice none 0 0] 31)) (w.heap.size + 1 + 1) #[.slice none 0 0, .slice none 0 0, .slice none 0 0, .slice none 0 0] 31) := BX.new ((w.alloc (.cells #[.slice ps n1 cs, .slice pc nc cc, .int .i64 g] 25)).alloc (.cells #[.slice p1 n1 c1, .slice p2 n2 c2, .slice p3 n3 c3, .slice p4 n4 c4] 31)) _ (by simp) _ _
 clear hK hR hs hms hz
 go_enter Tryz.func75, Tryz.ntmps75
 go_upto_region 1 with fail
 generalize (((w.alloc (.cells #[.slice ps n1 cs, .slice pc nc cc, .int .i64 g] 25)).alloc (.cells #[.slice p1 n1 c1, .slice p2 n2 c2, .slice p3 n3 c3, .slice p4 n4 c4] 31)).alloc (.cells #[.slice none 0 0, .slice none 0 0, .slice none 0 0, .slice none 0 0] 31)) = u at *
 have s0 := HBS0.out.cell 0 _ rfl
 have s1 := HBS0.out.cell 1 _ rfl
 have s2 := HBS0.out.cell 2 _ rfl
 have s3 := HBS0.out.cell 3 _ rfl
 go_upto_region 2 with (go_at_call 50; refine HCP.out.mono ?_; rintro e wc ⟨q1, d1, q2, d2, q3, d3, q4, d4, rfl, ho, hb⟩; have HO0 := hide (ho.mono HB0.out.size); replace HB0 := hide (bel_next HB0.out hb); replace HBK0 := hide (HBK0.out.below hb); replace HBS0 := hide (HBS0.out.below hb); replace HBR0 := hide (HBR0.out.below hb); clear ho hb)
 clear s0 s1 s2 s3
 have BQ := hide (bel1 wc (.cells #[.slice q1 n1 d1, .slice q2 n2 d2, .slice q3 n3 d3, .slice q4 n4 d4] 31))
 have HAS0 : Hid (SW5 w wc.heap.size #[.slice ps n1 cs, .slice pc nc cc, .int .i64 g] #[.slice p1 n1 c1, .slice p2 n2 c2, .slice p3 n3 c3, .slice p4 n4 c4] #[.slice q1 n1 d1, .slice q2 n2 d2, .slice q3 n3 d3, .slice q4 n4 d4] (wc.alloc (.cells #[.slice q1 n1 d1, .slice q2 n2 d2, .slice q3 n3 d3, .slice q4 n4 d4] 31))) := ⟨bel_next HB0.out BQ.out, HBK0.out.below BQ.out, HBS0.out.below BQ.out, HBR0.out.below BQ.out, BX.new wc _ rfl _ _⟩
 replace HO0 := hide (HO0.out.below BQ.out)
 rw [← fmW_zero (mapP plainF) k r] at HO0
 clear BQ HCP HBS0 HBK0 HBR0 HB0
 generalize wc.alloc (.cells #[.slice q1 n1 d1, .slice q2 n2 d2, .slice q3 n3 d3, .slice q4 n4 d4] 31) = u2 at *
 generalize hgO : wc.heap.size = gO at *
 clear hgO
 have a0 := HAS0.out.2.1.cell 0 _ rfl
 go_wp2
 go_loopw [15] (fun v wr => ∃ i : Nat, i ≤ n1 ∧ v = .int .i64 i ∧ Hid (OO w.heap.size wr q1 n1 d1 q2 n2 d2 q3 n3 d3 q4 n4 d4 (fmW (mapP plainF) k r i)) ∧ Hid (SW5 w gO #[.slice ps n1 cs, .slice pc nc cc, .int .i64 g] #[.slice p1 n1 c1, .slice p2 n2 c2, .slice p3 n3 c3, .slice p4 n4 c4] #[.slice q1 n1 d1, .slice q2 n2 d2, .slice q3 n3 d3, .slice q4 n4 d4] wr)) (fun v _ => n1 - (RowKit.intOf v).toNat)
 case atStart => exact ⟨0, by omega, rfl, HO0, HAS0⟩
 case round =>
  clear a0 HO0 HAS0
  obtain ⟨k0, hk, rfl, HO, HAS⟩ := hrel
  by_cases hlt : k0 < n1
  ·obtain ⟨bs, os, rfl⟩ := rs_addr HK0.out.s (by omega)
   obtain ⟨x, hf, y0⟩ := bool_at ((HK0.out.below HAS.out.1).s) k0 hlt
   have hk0 : (0 : Int) ≤ (k0 : Int) := by omega
   have hk1 : (k0 : Int) < (n1 : Int) := by omega
   have hrk : rK k k0 = x := by show k.1.getD k0 false = x; rw [List.getD_eq_getElem?_getD, hf]; rfl
   rcases x with _ | _
   ·rw [← fmW_skip (f := mapP plainF) (r := r) hrk] at HO
    clear hf hrk
    go_wp2
    go_roundw
    case rel => exact ⟨k0 + 1, by omega, by go_num, HO, HAS⟩
    case measure => simp [RowKit.intOf]; omega
   ·obtain ⟨gq, _, _, _, lx, hq, hgN, hx, _, _, _, _⟩ := HO.out.at1 k0 hlt
    subst hq
    have hx2 := fmW_at hx
    obtain ⟨ba, oa, rfl⟩ := LS.addr HR0.out.s (by omega)
    obtain ⟨px, nx, cx, ly, hy, x0, hX, hcx⟩ := LS.at HR0.out.s k0 hlt
    obtain rfl : lx = ly := by rw [hx2] at hy; cases hy; rfl
    have X0 := hide x0
    have HOX := hide (HQS.out lx (List.mem_of_getElem? hx2))
    have HMX := hide (HMS.out k0 lx hrk hx2)
    have HNX := hide (fmW_next (f := mapP plainF) hrk hx2)
    have HX1 := hide hX
    have HCX := hide hcx
    clear hf hrk hx hx2 hX hcx hy x0
    go_upto_region 6 with fail
    clear y0
    replace HO := hide (HO.out.below (Below.refl _ wr).drew)
    refine wp_region_held_drew (S := SW5 w gO #[.slice (some ⟨bs, os, none⟩) n1 cs, .slice pc nc cc, .int .i64 g] #[.slice (some ⟨ba, oa, none⟩) n1 c1, .slice p2 n2 c2, .slice p3 n3 c3, .slice p4 n4 c4] #[.slice (some ⟨gq, 0, none⟩) n1 d1, .slice q2 n2 d2, .slice q3 n3 d3, .slice q4 n4 d4]) (by kernel_rfl) (HAS.out.next (Below.refl _ _).drew) (fun hS0 => ?_)
    generalize wr.drew = x1 at *
    refine tkJ 0 21 hS0 ?_; simp only [lyF]
    refine tkL 1 22 hS0 ?h ?_; case h => (intro W hW; have e0 := hW.2.2.2.2.cell 0 _ rfl; have e1 := hW.2.2.1.cell 0 _ rfl; have e2 := bcell hW.1 X0.out; clear hW; go_simp; try rfl); simp only [lyF]
    refine tkJ 2 23 hS0 ?_; simp only [lyF]
    refine tkJ 3 24 hS0 ?_; simp only [lyF]
    refine tkJ 4 25 hS0 ?_; simp only [lyF]
    refine tkL 5 26 hS0 ?h ?_; case h => (intro W hW; have e0 := hW.2.2.2.2.cell 0 _ rfl; have e1 := hW.2.2.1.cell 0 _ rfl; have e2 := bcell hW.1 X0.out; clear hW; go_simp; try rfl); simp only [lyF]
    refine tkJ 6 27 hS0 ?_; simp only [lyF]
    refine tkJ 7 28 hS0 ?_; simp only [lyF]
    refine tkL 8 29 hS0 ?h ?_; case h => (intro W hW; have e0 := hW.2.2.2.2.cell 0 _ rfl; have e1 := hW.2.2.1.cell 0 _ rfl; have e2 := bcell hW.1 X0.out; clear hW; go_simp; try rfl); simp only [lyF]
    refine wpAnyH_ready (rs := [9]) (by kernel_rfl) (by simp) ?_
    refine AllReadyH.cons rfl (fun K hK => ?_) AllReadyH.nil
    go_simp
    refine (Plain9_yes px nx cx lx _ (HX1.out.below hS0.1) HOX.out HMX.out).mono ?_
    rintro e wz ⟨p9, c9, rfl, hn9, hc9, hb⟩
    have HN9 := hide hn9
    have HC9 := hide hc9
    replace HO := hide (HO.out.below hb)
    have BS9 := SW5.next hS0 hb
    clear hn9 hc9 hb
    refine hK.out _ _ ?hs10 (fun hS1 => ?_)
    case hs10 => exact BS9
    clear hK K
    try simp only [lyF]
    refine tkJ 10 31 hS1 ?_; simp only [lyF]
    refine wpAnyH_ready (rs := [11]) (by kernel_rfl) (by simp) ?_
    refine AllReadyH.cons rfl (fun K hK => ?_) AllReadyH.nil
    obtain ⟨_, _, _, _, _, hq9, _, _, x9, z9, _, _⟩ := HO.out.at1 k0 hlt
    cases hq9
    obtain ⟨C9, hb9, _⟩ := HO.out.block1
    have HTN := hide (HO.out.set1 k0 HN9.out HC9.out)
    go_simp
    refine hK.out _ _ ?hs12 (fun hS2 => ?_)
    case hs12 => exact SW5.set hS1 hb9 (by decide) (by decide) hgN _ _
    clear hK K
    try simp only [lyF]
    refine wpAnyH_done (by kernel_rfl) ?_ _
    replace HO := HTN
    replace HAS := hide hS2
    rw [← HNX.out] at HO
    go_wp2
    go_roundw
    case rel => exact ⟨k0 + 1, by omega, by go_num, HO, HAS⟩
    case measure => simp [RowKit.intOf]; omega
  ·obtain rfl : k0 = n1 := by omega
   rw [fmW_end HLR.out] at HO
   have b0 := HAS.out.2.2.2.2.cell 0 _ rfl
   have b1 := HAS.out.2.2.2.2.cell 1 _ rfl
   have b2 := HAS.out.2.2.2.2.cell 2 _ rfl
   have b3 := HAS.out.2.2.2.2.cell 3 _ rfl
   have HBR := hide HAS.out.2.2.2.1
   have e0 := HBR.out.cell 0 _ rfl
   have e1 := HBR.out.cell 1 _ rfl
   have e2 := HBR.out.cell 2 _ rfl
   have e3 := HBR.out.cell 3 _ rfl
   have z0 := HBR.out.free 0
   have z1 := HBR.out.free 1
   have z2 := HBR.out.free 2
   have z3 := HBR.out.free 3
   go_wp2
   refine bodyPost_ret (results_cell_row rfl _ _ _ _ _ _ _ rfl (HBR.out.put4 _ _ _ _) Tryz.underlying31 rfl (by kernel_rfl)) rfl ?_
   exact ⟨q1, d1, q2, d2, q3, d3, q4, d4, rfl, OO.put4 HO.out HBR.out (by decide) (by decide) (by decide) (by decide) q1 _ d1 q2 n2 d2 q3 n3 d3 q4 n4 d4, bel_put4N HAS.out.1 (by omega) _ _ _ _⟩
set_option maxHeartbeats 2000000 in
theorem cleanC13 (a : Option Addr) (n cap : Nat) (s : List En) (gC : Nat) (pk : Option Addr) (nk ck : Nat) (c : List Int) (w : World) (hA : NSS w a n s) (hX : BX w gC #[.slice pk nk ck] 35) (hP : NS w pk nk c) (h1 : mayS9 s = true) (h2 : mayC c = true) (hd : ∀ x ∈ s, x.2.1.length ≤ 900000 ∧ x.2.2.length ≤ 900000) : Calls Tryz.prog 78 #[.slice a n cap, .pointer (some ⟨gC, 0, none⟩)] w fun e w' => ∃ p cp, e = .returned (.slice p (mapP (cleanF c) s).length cp) ∧ NSS w' p (mapP (cleanF c) s).length (mapP (cleanF c) s) ∧ CP p (mapP (cleanF c) s).length cp ∧ Below w.heap.size w w' := by
 have HM := hide (Clean9_good a n cap s pk nk ck c w hA hP h1 h2 hd)
 have x0 := hX.cell 0 _ rfl
 clear hA hP h1 h2 hd
 go_enter Tryz.func78, Tryz.ntmps78
 go_wp2_with (go_at_call 79; refine HM.out.mono ?_; rintro e w1 ⟨p9, c9, rfl, hn9, hc9, hb⟩; have HN9 := hide hn9; have HC9 := hide hc9; have HB := hide hb; clear hn9 hc9 hb)
 go_ret
 exact ⟨_, _, rfl, HN9.out, HC9.out, HB.out⟩
set_option maxRecDepth 2000 in
set_option maxHeartbeats 16000000 in
theorem withClean13 (ps : Option Addr) (cs : Nat) (pc : Option Addr) (nc cc : Nat) (k : Kd) (g : Int) (p1 : Option Addr) (n1 c1 : Nat) (p2 : Option Addr) (n2 c2 : Nat) (p3 : Option Addr) (n3 c3 : Nat) (p4 : Option Addr) (n4 c4 : Nat) (r : Rw) (gC : Nat) (pk : Option Addr) (nk ck : Nat) (c : List Int) (w : World) (hK : KM w ps n1 cs pc nc cc k) (hR : RM w p1 n1 c1 p2 n2 c2 p3 n3 c3 p4 n4 c4 r) (hC : BX w gC #[.slice pk nk ck] 35) (hP : NS w pk nk c) (hmc : mayC c = true) (hz : SzW r) (hs : OkP5 r) (hms : ∀ (i : Nat) s, rK k i = true → r.1[i]? = some s → mayS9 s = true) (hn : n1 ≤ 1000 ∧ n2 ≤ 1000 ∧ n3 ≤ 1000 ∧ n4 ≤ 1000) : Calls Tryz.prog 75 #[.agg #[.slice ps n1 cs, .slice pc nc cc, .int .i64 g], .agg #[.slice p1 n1 c1, .slice p2 n2 c2, .slice p3 n3 c3, .slice p4 n4 c4], .func (.func 78) #[] #[.pointer (some ⟨gC, 0, none⟩)]] w fun e w' => ∃ q1 d1 q2 d2 q3 d3 q4 d4, e = .returned (.agg #[.slice q1 n1 d1, .slice q2 n2 d2, .slice q3 n3 d3, .slice q4 n4 d4]) ∧ OO w.heap.size w' q1 n1 d1 q2 n2 d2 q3 n3 d3 q4 n4 d4 (r.1.mapIdx (fun i s => if rK k i = true then mapP (cleanF c) s else s), r.2) ∧ Below w.heap.size w w' := by
 have HB0 : Hid (Below w.heap.size w (((w.alloc (.cells #[.slice ps n1 cs, .slice pc nc cc, .int .i64 g] 25)).alloc (.cells #[.slice p1 n1 c1, .slice p2 n2 c2, .slice p3 n3 c3, .slice p4 n4 c4] 31)).alloc (.cells #[.slice none 0 0, .slice none 0 0, .slice none 0 0, .slice none 0 0] 31))) := (bel2 w _ _).alloc (by simp; omega) _
 have HK0 := hide hK
 have HR0 := hide hR
 have HQS := hide hs
 have HMS := hide hms
 have HLR := hide (LS.len hR.s)
 have HCB := hide hC
 have HCN := hide hP
 have HMC := hide hmc
 have HCP := hide (copyRaw13 p1 n1 c1 p2 n2 c2 p3 n3 c3 p4 n4 c4 r (((w.alloc (.cells #[.slice ps n1 cs, .slice pc nc cc, .int .i64 g] 25)).alloc (.cells #[.slice p1 n1 c1, .slice p2 n2 c2, .slice p3 n3 c3, .slice p4 n4 c4] 31)).alloc (.cells #[.slice none 0 0, .slice none 0 0, .slice none 0 0, .slice none 0 0] 31)) (hR.below HB0.out) hn hz)
 have HBK0 : Hid (BX (((w.alloc (.cells #[.slice ps n1 cs, .slice pc nc cc, .int .i64 g] 25)).alloc (.cells #[.slice p1 n1 c1, .slice p2 n2 c2, .slice p3 n3 c3, .slice p4 n4 c4] 31)).alloc (.cells #[.slice none 0 0, .slice none 0 0, .slice none 0 0, .slice none 0 0] 31)) w.heap.size #[.slice ps n1 cs, .slice pc nc cc, .int .i64 g] 25) := ((BX.new w _ rfl _ _).alloc _).alloc _
 have HBS0 : Hid (BX (((w.alloc (.cells #[.slice ps n1 cs, .slice pc nc cc, .int .i64 g] 25)).alloc (.cells #[.slice p1 n1 c1, .slice p2 n2 c2, .slice p3 n3 c3, .slice p4 n4 c4] 31)).alloc (.cells #[.slice none 0 0, .slice none 0 0, .slice none 0 0, .slice none 0 0] 31)) (w.heap.size + 1) #[.slice p1 n1 c1, .slice p2 n2 c2, .slice p3 n3 c3, .slice p4 n4 c4] 31) := (BX.new (w.alloc (.cells #[.slice ps n1 cs, .slice pc nc cc, .int .i64 g] 25)) _ (by simp) _ _).alloc _
 have HBR0 : Hid (BX (((w.alloc (.cells #[.slice ps n1 cs, .slice pc nc cc, .int .i64 g] 25)).alloc (.cells #[.slice p1 n1 c1, .slice p2 n2 c2, .slice p3 n3 c3, .slice p4 n4 c4] 31)).alloc (.cells #[.slice none 0 0, .slice none 0 0, .slice none 0 0, .slice none 0 0] 31)) (w.heap.size + 1 + 1) #[.slice none 0 0, .slice none 0 0, .slice none 0 0, .slice none 0 0] 31) := BX.new ((w.alloc (.cells #[.slice ps n1 cs, .slice pc nc cc, .int .i64 g] 25)).alloc (.cells #[.slice p1 n1 c1, .slice p2 n2 c2, .slice p3 n3 c3, .slice p4 n4 c4] 31)) _ (by simp) _ _
 clear hK hR hs hms hz hC hP hmc
 go_enter Tryz.func75, Tryz.ntmps75
 go_upto_region 1 with fail
 generalize (((w.alloc (.cells #[.slice ps n1 cs, .slice pc nc cc, .int .i64 g] 25)).alloc (.cells #[.slice p1 n1 c1, .slice p2 n2 c2, .slice p3 n3 c3, .slice p4 n4 c4] 31)).alloc (.cells #[.slice none 0 0, .slice none 0 0, .slice none 0 0, .slice none 0 0] 31)) = u at *
 have s0 := HBS0.out.cell 0 _ rfl
 have s1 := HBS0.out.cell 1 _ rfl
 have s2 := HBS0.out.cell 2 _ rfl
 have s3 := HBS0.out.cell 3 _ rfl
 go_upto_region 2 with (go_at_call 50; refine HCP.out.mono ?_; rintro e wc ⟨q1, d1, q2, d2, q3, d3, q4, d4, rfl, ho, hb⟩; have HO0 := hide (ho.mono HB0.out.size); replace HB0 := hide (bel_next HB0.out hb); replace HBK0 := hide (HBK0.out.below hb); replace HBS0 := hide (HBS0.out.below hb); replace HBR0 := hide (HBR0.out.below hb); clear ho hb)
 clear s0 s1 s2 s3
 have BQ := hide (bel1 wc (.cells #[.slice q1 n1 d1, .slice q2 n2 d2, .slice q3 n3 d3, .slice q4 n4 d4] 31))
 have HAS0 : Hid (SW5 w wc.heap.size #[.slice ps n1 cs, .slice pc nc cc, .int .i64 g] #[.slice p1 n1 c1, .slice p2 n2 c2, .slice p3 n3 c3, .slice p4 n4 c4] #[.slice q1 n1 d1, .slice q2 n2 d2, .slice q3 n3 d3, .slice q4 n4 d4] (wc.alloc (.cells #[.slice q1 n1 d1, .slice q2 n2 d2, .slice q3 n3 d3, .slice q4 n4 d4] 31))) := ⟨bel_next HB0.out BQ.out, HBK0.out.below BQ.out, HBS0.out.below BQ.out, HBR0.out.below BQ.out, BX.new wc _ rfl _ _⟩
 replace HO0 := hide (HO0.out.below BQ.out)
 rw [← fmW_zero (mapP (cleanF c)) k r] at HO0
 clear BQ HCP HBS0 HBK0 HBR0 HB0
 generalize wc.alloc (.cells #[.slice q1 n1 d1, .slice q2 n2 d2, .slice q3 n3 d3, .slice q4 n4 d4] 31) = u2 at *
 generalize hgO : wc.heap.size = gO at *
 clear hgO
 have a0 := HAS0.out.2.1.cell 0 _ rfl
 go_wp2
 go_loopw [15] (fun v wr => ∃ i : Nat, i ≤ n1 ∧ v = .int .i64 i ∧ Hid (OO w.heap.size wr q1 n1 d1 q2 n2 d2 q3 n3 d3 q4 n4 d4 (fmW (mapP (cleanF c)) k r i)) ∧ Hid (SW5 w gO #[.slice ps n1 cs, .slice pc nc cc, .int .i64 g] #[.slice p1 n1 c1, .slice p2 n2 c2, .slice p3 n3 c3, .slice p4 n4 c4] #[.slice q1 n1 d1, .slice q2 n2 d2, .slice q3 n3 d3, .slice q4 n4 d4] wr)) (fun v _ => n1 - (RowKit.intOf v).toNat)
 case atStart => exact ⟨0, by omega, rfl, HO0, HAS0⟩
 case round =>
  clear a0 HO0 HAS0
  obtain ⟨k0, hk, rfl, HO, HAS⟩ := hrel
  by_cases hlt : k0 < n1
  ·obtain ⟨bs, os, rfl⟩ := rs_addr HK0.out.s (by omega)
   obtain ⟨x, hf, y0⟩ := bool_at ((HK0.out.below HAS.out.1).s) k0 hlt
   have hk0 : (0 : Int) ≤ (k0 : Int) := by omega
   have hk1 : (k0 : Int) < (n1 : Int) := by omega
   have hrk : rK k k0 = x := by show k.1.getD k0 false = x; rw [List.getD_eq_getElem?_getD, hf]; rfl
   rcases x with _ | _
   ·rw [← fmW_skip (f := mapP (cleanF c)) (r := r) hrk] at HO
    clear hf hrk
    go_wp2
    go_roundw
    case rel => exact ⟨k0 + 1, by omega, by go_num, HO, HAS⟩
    case measure => simp [RowKit.intOf]; omega
   ·obtain ⟨gq, _, _, _, lx, hq, hgN, hx, _, _, _, _⟩ := HO.out.at1 k0 hlt
    subst hq
    have hx2 := fmW_at hx
    obtain ⟨ba, oa, rfl⟩ := LS.addr HR0.out.s (by omega)
    obtain ⟨px, nx, cx, ly, hy, x0, hX, hcx⟩ := LS.at HR0.out.s k0 hlt
    obtain rfl : lx = ly := by rw [hx2] at hy; cases hy; rfl
    have X0 := hide x0
    have HOX := hide (HQS.out lx (List.mem_of_getElem? hx2))
    have HMX := hide (HMS.out k0 lx hrk hx2)
    have HNX := hide (fmW_next (f := mapP (cleanF c)) hrk hx2)
    have HX1 := hide hX
    have HCX := hide hcx
    clear hf hrk hx hx2 hX hcx hy x0
    go_upto_region 6 with fail
    clear y0
    replace HO := hide (HO.out.below (Below.refl _ wr).drew)
    refine wp_region_held_drew (S := SW5 w gO #[.slice (some ⟨bs, os, none⟩) n1 cs, .slice pc nc cc, .int .i64 g] #[.slice (some ⟨ba, oa, none⟩) n1 c1, .slice p2 n2 c2, .slice p3 n3 c3, .slice p4 n4 c4] #[.slice (some ⟨gq, 0, none⟩) n1 d1, .slice q2 n2 d2, .slice q3 n3 d3, .slice q4 n4 d4]) (by kernel_rfl) (HAS.out.next (Below.refl _ _).drew) (fun hS0 => ?_)
    generalize wr.drew = x1 at *
    refine tkJ 0 21 hS0 ?_; simp only [lyF]
    refine tkL 1 22 hS0 ?h ?_; case h => (intro W hW; have e0 := hW.2.2.2.2.cell 0 _ rfl; have e1 := hW.2.2.1.cell 0 _ rfl; have e2 := bcell hW.1 X0.out; clear hW; go_simp; try rfl); simp only [lyF]
    refine tkJ 2 23 hS0 ?_; simp only [lyF]
    refine tkJ 3 24 hS0 ?_; simp only [lyF]
    refine tkJ 4 25 hS0 ?_; simp only [lyF]
    refine tkL 5 26 hS0 ?h ?_; case h => (intro W hW; have e0 := hW.2.2.2.2.cell 0 _ rfl; have e1 := hW.2.2.1.cell 0 _ rfl; have e2 := bcell hW.1 X0.out; clear hW; go_simp; try rfl); simp only [lyF]
    refine tkJ 6 27 hS0 ?_; simp only [lyF]
    refine tkJ 7 28 hS0 ?_; simp only [lyF]
    refine tkL 8 29 hS0 ?h ?_; case h => (intro W hW; have e0 := hW.2.2.2.2.cell 0 _ rfl; have e1 := hW.2.2.1.cell 0 _ rfl; have e2 := bcell hW.1 X0.out; clear hW; go_simp; try rfl); simp only [lyF]
    refine wpAnyH_ready (rs := [9]) (by kernel_rfl) (by simp) ?_
    refine AllReadyH.cons rfl (fun K hK => ?_) AllReadyH.nil
    go_simp
    refine (cleanC13 px nx cx lx gC pk nk ck c _ (HX1.out.below hS0.1) (HCB.out.below hS0.1) (HCN.out.below hS0.1) HMX.out HMC.out HOX.out).mono ?_
    rintro e wz ⟨p9, c9, rfl, hn9, hc9, hb⟩
    have HN9 := hide hn9
    have HC9 := hide hc9
    replace HO := hide (HO.out.below hb)
    have BS9 := SW5.next hS0 hb
    clear hn9 hc9 hb
    refine hK.out _ _ ?hs22 (fun hS1 => ?_)
    case hs22 => exact BS9
    clear hK K
    try simp only [lyF]
    refine tkJ 10 31 hS1 ?_; simp only [lyF]
    refine wpAnyH_ready (rs := [11]) (by kernel_rfl) (by simp) ?_
    refine AllReadyH.cons rfl (fun K hK => ?_) AllReadyH.nil
    obtain ⟨_, _, _, _, _, hq9, _, _, x9, z9, _, _⟩ := HO.out.at1 k0 hlt
    cases hq9
    obtain ⟨C9, hb9, _⟩ := HO.out.block1
    have HTN := hide (HO.out.set1 k0 HN9.out HC9.out)
    go_simp
    refine hK.out _ _ ?hs24 (fun hS2 => ?_)
    case hs24 => exact SW5.set hS1 hb9 (by decide) (by decide) hgN _ _
    clear hK K
    try simp only [lyF]
    refine wpAnyH_done (by kernel_rfl) ?_ _
    replace HO := HTN
    replace HAS := hide hS2
    rw [← HNX.out] at HO
    go_wp2
    go_roundw
    case rel => exact ⟨k0 + 1, by omega, by go_num, HO, HAS⟩
    case measure => simp [RowKit.intOf]; omega
  ·obtain rfl : k0 = n1 := by omega
   rw [fmW_end HLR.out] at HO
   have b0 := HAS.out.2.2.2.2.cell 0 _ rfl
   have b1 := HAS.out.2.2.2.2.cell 1 _ rfl
   have b2 := HAS.out.2.2.2.2.cell 2 _ rfl
   have b3 := HAS.out.2.2.2.2.cell 3 _ rfl
   have HBR := hide HAS.out.2.2.2.1
   have e0 := HBR.out.cell 0 _ rfl
   have e1 := HBR.out.cell 1 _ rfl
   have e2 := HBR.out.cell 2 _ rfl
   have e3 := HBR.out.cell 3 _ rfl
   have z0 := HBR.out.free 0
   have z1 := HBR.out.free 1
   have z2 := HBR.out.free 2
   have z3 := HBR.out.free 3
   go_wp2
   refine bodyPost_ret (results_cell_row rfl _ _ _ _ _ _ _ rfl (HBR.out.put4 _ _ _ _) Tryz.underlying31 rfl (by kernel_rfl)) rfl ?_
   exact ⟨q1, d1, q2, d2, q3, d3, q4, d4, rfl, OO.put4 HO.out HBR.out (by decide) (by decide) (by decide) (by decide) q1 _ d1 q2 n2 d2 q3 n3 d3 q4 n4 d4, bel_put4N HAS.out.1 (by omega) _ _ _ _⟩
end Go.Proofs.YtkbbegbpkndebaaGreat

