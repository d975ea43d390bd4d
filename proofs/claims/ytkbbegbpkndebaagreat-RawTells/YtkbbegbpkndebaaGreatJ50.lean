/- Texts of this claim, joined: HQ2, HQ3, HQ4. -/
import Derived.Test.YtkbbegbpkndebaaGreatJ39
import Derived.Test.YtkbbegbpkndebaaGreatJ40
import Derived.Test.YtkbbegbpkndebaaGreatJ43
import Derived.Test.YtkbbegbpkndebaaGreatJ44
import Derived.Test.YtkbbegbpkndebaaGreatJ49
/- The doer's drop and add of layer 13 (the program). -/
namespace Go.Proofs.YtkbbegbpkndebaaGreat
open Go.RowKit Go.Lib
set_option linter.unusedVariables false
def NTy (t : TypeId) : Prop := 74 ≠ t ∧ 76 ≠ t ∧ 78 ≠ t ∧ 80 ≠ t
def Fr (N : Nat) (w w' : World) : Prop := Below N w w' ∧ ∀ g C t, BX w g C t → NTy t → BX w' g C t
theorem Fr.refl (N : Nat) (w : World) : Fr N w w := ⟨Below.refl _ _, fun _ _ _ h _ => h⟩
theorem Fr.trans {N : Nat} {a b c : World} (h : Fr N a b) (k : Fr N b c) : Fr N a c := ⟨h.1.trans k.1, fun g C t hx hn => k.2 g C t (h.2 g C t hx hn) hn⟩
theorem Fr.bel {N : Nat} {w w' : World} (hN : N ≤ w.heap.size) (h : Below w.heap.size w w') : Fr N w w' := ⟨h.mono hN, fun g C t hx _ => hx.below h⟩
theorem Fr.drew {N : Nat} {a w : World} (h : Fr N a w) : Fr N a w.drew := ⟨h.1.drew, fun g C t hx hn => (h.2 g C t hx hn).drew⟩
theorem Fr.set {N : Nat} {w : World} {g : Nat} {C : Array Value} {t : TypeId} (hx : BX w g C t) (ht : ∀ t', NTy t' → t ≠ t') (hg : N ≤ g) (i : Nat) (v : Value) : Fr N w (w.setCell ⟨g, i, none⟩ v) :=
 ⟨(Below.refl N w).setCell (p := ⟨g, i, none⟩) hg v, fun g' D t' hd hn => hd.other (fun e => ht t' hn (by rw [← e] at hd; exact hx.ty hd)) i v⟩
theorem nty1 (t' : TypeId) (h : NTy t') : 74 ≠ t' := h.1
theorem ntyD : NTy 94 := by unfold NTy; decide
theorem ntyF : NTy 82 := by unfold NTy; decide
theorem rK_at {k : Kd} {i : Nat} {b : Bool} (h : k.1[i]? = some b) : rK k i = b := by show k.1.getD i false = b; rw [List.getD_eq_getElem?_getD, h]; rfl
set_option maxHeartbeats 2000000 in
theorem drop13_oth (gD : Nat) (ps : Option Addr) (ns cs : Nat) (pc : Option Addr) (nc cc : Nat) (g : Int) (q1 : Option Addr) (n1 d1 : Nat) (q2 : Option Addr) (n2 d2 : Nat) (q3 : Option Addr) (n3 d3 : Nat) (q4 : Option Addr) (n4 d4 : Nat) (er es : Int) (pa : Option Addr) (na ca : Nat) (pe : Option Addr) (ne ce : Nat) (k : Kd) (c : List Int) (l : List Eff) (R : Rw) (cn : Nat) (kx : Int) (j : Nat) (ky : List Int) (xn xt : Int) (wd : List Int) (w0 w : World) (hX : BX w gD #[.slice ps ns cs, .slice pc nc cc, .int .i64 g, .slice q1 n1 d1, .slice q2 n2 d2, .slice q3 n3 d3, .slice q4 n4 d4, .int .i64 er, .int .i64 es, .slice pa na ca, .slice pe ne ce] 94) (hO : OO w0.heap.size w q1 n1 d1 q2 n2 d2 q3 n3 d3 q4 n4 d4 R) (hB : Below w0.heap.size w0 w) (h2 : kx ≠ 2) : Calls Tryz.prog 121 #[.pointer (some ⟨gD, 0, none⟩), .agg #[.int .i64 kx, .int .i64 (j : Int), .string (strOfNums ky), .int .i64 xn, .int .i64 xt, .string (strOfNums wd)]] w fun e w' => e = .returned (.int .i64 0) ∧ OO w0.heap.size w' q1 n1 d1 q2 n2 d2 q3 n3 d3 q4 n4 d4 (dropW k ((er, es), c, l) R (kx, (j : Int), ky, xn, xt, wd)) ∧ Fr w0.heap.size w w' := by
 rw [dropW_no (show (((kx, (j : Int), ky, xn, xt, wd) : Eff)).1 ≠ 2 from h2)]
 have HO := hide (hO.below (bel1 w (.cells #[.int .i64 kx, .int .i64 (j : Int), .string (strOfNums ky), .int .i64 xn, .int .i64 xt, .string (strOfNums wd)] 82)))
 have HF := hide (Fr.bel hB.size (bel1 w (.cells #[.int .i64 kx, .int .i64 (j : Int), .string (strOfNums ky), .int .i64 xn, .int .i64 xt, .string (strOfNums wd)] 82)))
 clear hX hO
 go_enter Tryz.func121, Tryz.ntmps121
 go_wp2
 go_ret
 exact ⟨rfl, HO.out, HF.out⟩
set_option maxRecDepth 2000 in
set_option maxHeartbeats 8000000 in
theorem add13_aw (gD : Nat) (ps : Option Addr) (ns cs : Nat) (pc : Option Addr) (nc cc : Nat) (g : Int) (q1 : Option Addr) (n1 d1 : Nat) (q2 : Option Addr) (n2 d2 : Nat) (q3 : Option Addr) (n3 d3 : Nat) (q4 : Option Addr) (n4 d4 : Nat) (er es : Int) (pa : Option Addr) (na ca : Nat) (pe : Option Addr) (ne ce : Nat) (k : Kd) (c : List Int) (l : List Eff) (R : Rw) (cn : Nat) (j : Nat) (ky : List Int) (xn xt : Int) (wd : List Int) (w0 w : World) (hX : BX w gD #[.slice ps ns cs, .slice pc nc cc, .int .i64 g, .slice q1 n1 d1, .slice q2 n2 d2, .slice q3 n3 d3, .slice q4 n4 d4, .int .i64 er, .int .i64 es, .slice pa na ca, .slice pe ne ce] 94) (hO : OO w0.heap.size w q1 n1 d1 q2 n2 d2 q3 n3 d3 q4 n4 d4 R) (hB : Below w0.heap.size w0 w) (hK : KM w0 ps ns cs pc nc cc k) (hP : NS w0 pa na c) (hE : ES w0 pe ne l) (hM : MG k cn R) (hc : cn ≤ 2000) (hD : mayD (er, es) = true) (hC : mayC c = true) (hF : ∀ y ∈ l, mayF y = true) (hx : mayF (1, (j : Int), ky, xn, xt, wd) = true) (hfit : fitF k (1, (j : Int), ky, xn, xt, wd) = true) (hrk : rK k j = false) : Calls Tryz.prog 122 #[.pointer (some ⟨gD, 0, none⟩), .agg #[.int .i64 1, .int .i64 (j : Int), .string (strOfNums ky), .int .i64 xn, .int .i64 xt, .string (strOfNums wd)]] w fun e w' => e = .returned (.int .i64 0) ∧ OO w0.heap.size w' q1 n1 d1 q2 n2 d2 q3 n3 d3 q4 n4 d4 (addW k ((er, es), c, l) R (1, (j : Int), ky, xn, xt, wd)) ∧ Fr w0.heap.size w w' := by
 have hjs : j < ns := by
  have q := hfit
  unfold fitF at q
  rw [if_pos (Or.inl rfl), decide_eq_true_iff] at q
  have q2 := hK.s.1
  simp only at q
  omega
 have hl1 := LS.len hO.rm.s
 have hlt : j < n1 := by have q1 := hM.l1; have q2 := hK.s.1; omega
 obtain ⟨h3, h4, h5⟩ := eff_set hx (Or.inl rfl)
 simp only at h3 h4 h5
 subst h3 h4 h5
 obtain ⟨bs, os, rfl⟩ := rs_addr hK.s (by omega)
 obtain ⟨gq, px, nx, cx, s, hq, hgN, hs, x0, _, hXS, hcx⟩ := hO.at1 j hlt
 subst hq
 obtain ⟨b, hkb, y0⟩ := bool_at hK.s j hjs
 obtain rfl : b = false := by rw [← rK_at hkb]; exact hrk
 have HRES : Hid (addW k ((er, es), c, l) R (1, (j : Int), ky, 0, 0, []) = (R.1.set j (addS s (strOfNums ky) (er, es) c), R.2.1, R.2.2.1, R.2.2.2)) := by
  unfold Hid
  rw [addW_set (j := j) (s := s) (s' := addS s (strOfNums ky) (er, es) c) rfl hs (by rw [hrk]; exact aS_aw rfl rfl)]
 have HMK : Hid (mayK (strOfNums ky) = true) := by
  unfold Hid mayK
  have q := (mayF13.1 hx).1
  rw [decide_eq_true_iff, str_size]
  simp only at q
  omega
 have hlen := hM.len hc hs
 have hok := hM.g.s s (List.mem_of_getElem? hs)
 have hnx : s.length = nx := kept_ent.len hXS
 have hlt4 : nx < 4000 := by omega
 have HD9 : Hid (∀ x ∈ s, x.2.1.length ≤ 900000 ∧ x.2.2.length ≤ 900000) := fun x hx => by have q := hok.2.2 x hx; omega
 have HD8 : Hid (∀ x ∈ s, x.2.1.length ≤ 100000) := fun x hx => by have q := hok.2.2 x hx; omega
 have hsb := hM.s j s hs
 rw [hrk] at hsb
 have HMS : Hid (mayS s = true) := hsb
 have HMC := hide hC
 have HMD := hide hD
 clear hsb hok hM hrk hD hC hF hx hfit hkb
 have hj0 : (0 : Int) ≤ (j : Int) := by omega
 have hj1 : (j : Int) < (n1 : Int) := by omega
 have hj2 : (j : Int) < (ns : Int) := by omega
 generalize strOfNums ky = sk at *
 generalize strOfNums ([] : List Int) = sE at *
 have BQ := hide (bel1 w (.cells #[.int .i64 1, .int .i64 (j : Int), .string sk, .int .i64 0, .int .i64 0, .string sE] 82))
 have HFU := hide (Fr.bel hB.size BQ.out)
 have HXD := hide (hX.alloc (.cells #[.int .i64 1, .int .i64 (j : Int), .string sk, .int .i64 0, .int .i64 0, .string sE] 82))
 have HXB : Hid (BX (w.alloc (.cells #[.int .i64 1, .int .i64 (j : Int), .string sk, .int .i64 0, .int .i64 0, .string sE] 82)) w.heap.size #[.int .i64 1, .int .i64 (j : Int), .string sk, .int .i64 0, .int .i64 0, .string sE] 82) := BX.new w _ rfl _ _
 have HO := hide (hO.below BQ.out)
 have HX1 := hide (hXS.below BQ.out)
 have HCX := hide hcx
 have HPN := hide hP
 have HEN := hide hE
 have HB := hide (hB.trans (BQ.out.mono hB.size))
 have hy0 := bcell (hB.trans (BQ.out.mono hB.size)) y0
 have hx0 := bcell BQ.out x0
 clear hX hO hXS hcx hP hE hB hK x0 y0 BQ hs
 go_enter Tryz.func122, Tryz.ntmps122
 go_upto_region 1 with fail
 generalize hgb : w.heap.size = gX at HXB ⊢
 generalize w.alloc (.cells #[.int .i64 1, .int .i64 (j : Int), .string sk, .int .i64 0, .int .i64 0, .string sE] 82) = u at *
 clear hgb
 have e0 := HXB.out.cell 0 _ rfl
 have e1 := HXB.out.cell 1 _ rfl
 have e2 := HXB.out.cell 2 _ rfl
 have e3 := HXB.out.cell 3 _ rfl
 have e4 := HXB.out.cell 4 _ rfl
 have e5 := HXB.out.cell 5 _ rfl
 have f0 := HXD.out.cell 0 _ rfl
 have f3 := HXD.out.cell 3 _ rfl
 go_upto_region 3 with fail
 go_region
 go_upto_region 4 with fail
 go_region
 go_upto_region 5 with fail
 clear e0 e1 e2 e3 e4 e5 f0 f3 hx0 hy0
 replace HXD := hide HXD.out.drew.drew
 replace HXB := hide HXB.out.drew.drew
 replace HO := hide (HO.out.below (Below.refl _ u).drew.drew)
 replace HX1 := hide (HX1.out.below (Below.refl _ u).drew.drew)
 replace HB := hide HB.out.drew.drew
 replace HFU := hide HFU.out.drew.drew
 generalize u.drew.drew = v at *
 replace HO := hide (HO.out.below (Below.refl _ v).drew)
 replace HX1 := hide (HX1.out.below (Below.refl _ v).drew)
 refine wp_region_held_drew (S := fun W => Fr w0.heap.size v W) (by kernel_rfl) ((Fr.refl w0.heap.size v).drew) (fun hS0 => ?_)
 generalize v.drew = x1 at *
 refine tkJ 0 29 hS0 ?_; simp only [ly]
 refine tkJ 1 30 hS0 ?_; simp only [ly]
 refine tkJ 2 31 hS0 ?_; simp only [ly]
 refine tkJ 3 32 hS0 ?_; simp only [ly]
 refine tkL 4 33 hS0 ?h ?_; case h => (intro W hW; have e0 := (hW.2 _ _ _ HXD.out ntyD).cell 3 _ rfl; have e1 := (hW.2 _ _ _ HXD.out ntyD).cell 7 _ rfl; have e2 := (hW.2 _ _ _ HXD.out ntyD).cell 8 _ rfl; have e3 := (hW.2 _ _ _ HXD.out ntyD).cell 9 _ rfl; have e4 := (hW.2 _ _ _ HXB.out ntyF).cell 0 _ rfl; have e5 := (hW.2 _ _ _ HXB.out ntyF).cell 1 _ rfl; have e6 := (hW.2 _ _ _ HXB.out ntyF).cell 2 _ rfl; have e7 := (hW.2 _ _ _ HXB.out ntyF).cell 3 _ rfl; have e8 := (hW.2 _ _ _ HXB.out ntyF).cell 4 _ rfl; have e9 := (hW.2 _ _ _ HXB.out ntyF).cell 5 _ rfl; clear hW; go_simp; try rfl); simp only [ly]
 refine tkJ 5 34 hS0 ?_; simp only [ly]
 refine tkL 6 35 hS0 ?h ?_; case h => (intro W hW; have e0 := (hW.2 _ _ _ HXD.out ntyD).cell 3 _ rfl; have e1 := (hW.2 _ _ _ HXD.out ntyD).cell 7 _ rfl; have e2 := (hW.2 _ _ _ HXD.out ntyD).cell 8 _ rfl; have e3 := (hW.2 _ _ _ HXD.out ntyD).cell 9 _ rfl; have e4 := (hW.2 _ _ _ HXB.out ntyF).cell 0 _ rfl; have e5 := (hW.2 _ _ _ HXB.out ntyF).cell 1 _ rfl; have e6 := (hW.2 _ _ _ HXB.out ntyF).cell 2 _ rfl; have e7 := (hW.2 _ _ _ HXB.out ntyF).cell 3 _ rfl; have e8 := (hW.2 _ _ _ HXB.out ntyF).cell 4 _ rfl; have e9 := (hW.2 _ _ _ HXB.out ntyF).cell 5 _ rfl; clear hW; go_simp; try rfl); simp only [ly]
 refine tkJ 7 36 hS0 ?_; simp only [ly]
 refine tkJ 8 37 hS0 ?_; simp only [ly]
 refine tkL 9 38 hS0 ?h ?_; case h => (intro W hW; have e0 := (hW.2 _ _ _ HXD.out ntyD).cell 3 _ rfl; have e1 := (hW.2 _ _ _ HXD.out ntyD).cell 7 _ rfl; have e2 := (hW.2 _ _ _ HXD.out ntyD).cell 8 _ rfl; have e3 := (hW.2 _ _ _ HXD.out ntyD).cell 9 _ rfl; have e4 := (hW.2 _ _ _ HXB.out ntyF).cell 0 _ rfl; have e5 := (hW.2 _ _ _ HXB.out ntyF).cell 1 _ rfl; have e6 := (hW.2 _ _ _ HXB.out ntyF).cell 2 _ rfl; have e7 := (hW.2 _ _ _ HXB.out ntyF).cell 3 _ rfl; have e8 := (hW.2 _ _ _ HXB.out ntyF).cell 4 _ rfl; have e9 := (hW.2 _ _ _ HXB.out ntyF).cell 5 _ rfl; clear hW; go_simp; try rfl); simp only [ly]
 refine tkJ 10 39 hS0 ?_; simp only [ly]
 refine tkJ 11 40 hS0 ?_; simp only [ly]
 refine tkJ 12 41 hS0 ?_; simp only [ly]
 refine tkJ 13 42 hS0 ?_; simp only [ly]
 refine tkL 14 43 hS0 ?h ?_; case h => (intro W hW; have e0 := (hW.2 _ _ _ HXD.out ntyD).cell 3 _ rfl; have e1 := (hW.2 _ _ _ HXD.out ntyD).cell 7 _ rfl; have e2 := (hW.2 _ _ _ HXD.out ntyD).cell 8 _ rfl; have e3 := (hW.2 _ _ _ HXD.out ntyD).cell 9 _ rfl; have e4 := (hW.2 _ _ _ HXB.out ntyF).cell 0 _ rfl; have e5 := (hW.2 _ _ _ HXB.out ntyF).cell 1 _ rfl; have e6 := (hW.2 _ _ _ HXB.out ntyF).cell 2 _ rfl; have e7 := (hW.2 _ _ _ HXB.out ntyF).cell 3 _ rfl; have e8 := (hW.2 _ _ _ HXB.out ntyF).cell 4 _ rfl; have e9 := (hW.2 _ _ _ HXB.out ntyF).cell 5 _ rfl; clear hW; go_simp; try rfl); simp only [ly]
 refine tkJ 15 44 hS0 ?_; simp only [ly]
 refine tkJ 16 45 hS0 ?_; simp only [ly]
 refine tkJ 17 46 hS0 ?_; simp only [ly]
 refine tkJ 18 47 hS0 ?_; simp only [ly]
 refine tkL 19 48 hS0 ?h ?_; case h => (intro W hW; have e0 := (hW.2 _ _ _ HXD.out ntyD).cell 3 _ rfl; have e1 := (hW.2 _ _ _ HXD.out ntyD).cell 7 _ rfl; have e2 := (hW.2 _ _ _ HXD.out ntyD).cell 8 _ rfl; have e3 := (hW.2 _ _ _ HXD.out ntyD).cell 9 _ rfl; have e4 := (hW.2 _ _ _ HXB.out ntyF).cell 0 _ rfl; have e5 := (hW.2 _ _ _ HXB.out ntyF).cell 1 _ rfl; have e6 := (hW.2 _ _ _ HXB.out ntyF).cell 2 _ rfl; have e7 := (hW.2 _ _ _ HXB.out ntyF).cell 3 _ rfl; have e8 := (hW.2 _ _ _ HXB.out ntyF).cell 4 _ rfl; have e9 := (hW.2 _ _ _ HXB.out ntyF).cell 5 _ rfl; clear hW; go_simp; try rfl); simp only [ly]
 refine wpAnyH_ready (rs := [20]) (by kernel_rfl) (by simp) ?_
 refine AllReadyH.cons rfl (fun K hK => ?_) AllReadyH.nil
 go_simp
 refine (Add_good px nx cx s sk er es pa na ca c _ HX1.out HCX.out (HPN.out.below (HB.out.trans hS0.1)) HMS.out HMK.out HMD.out HMC.out HD8.out hlt4).mono ?_
 rintro e wz ⟨p9, c9, rfl, hn9, hc9, hb⟩
 have HN9 := hide hn9
 have HC9 := hide hc9
 replace HO := hide (HO.out.below hb)
 have BS9 := Fr.trans hS0 (Fr.bel (Nat.le_trans HB.out.size hS0.1.size) hb)
 clear hn9 hc9 hb
 refine hK.out _ _ ?hs97 (fun hS1 => ?_)
 case hs97 => exact BS9
 clear hK K
 try simp only [ly]
 refine tkJ 21 28 hS1 ?_; simp only [ly]
 refine tkJ 22 50 hS1 ?_; simp only [ly]
 refine tkJ 23 51 hS1 ?_; simp only [ly]
 refine tkJ 24 52 hS1 ?_; simp only [ly]
 refine wpAnyH_ready (rs := [25]) (by kernel_rfl) (by simp) ?_
 refine AllReadyH.cons rfl (fun K hK => ?_) AllReadyH.nil
 obtain ⟨_, _, _, _, _, hq9, _, _, x9, z9, _, _⟩ := HO.out.at1 j hlt
 cases hq9
 obtain ⟨C9, hb9, _⟩ := HO.out.block1
 have HTN := hide (HO.out.set1 j HN9.out HC9.out)
 go_simp
 refine hK.out _ _ ?hs102 (fun hS2 => ?_)
 case hs102 => exact Fr.trans hS1 (Fr.set hb9 nty1 hgN _ _)
 clear hK K
 try simp only [ly]
 refine tkJ 26 4 hS2 ?_; simp only [ly]
 refine wpAnyH_done (by kernel_rfl) ?_ _
 go_wp2
 go_ret
 exact ⟨rfl, (by rw [HRES.out]; exact HTN.out), Fr.trans HFU.out hS2⟩
end Go.Proofs.YtkbbegbpkndebaaGreat

/- The doer's note, up and other of layer 13 (the program). -/
namespace Go.Proofs.YtkbbegbpkndebaaGreat
open Go.RowKit Go.Lib
set_option linter.unusedVariables false
set_option maxHeartbeats 4000000 in
theorem oth13_set (gD : Nat) (ps : Option Addr) (ns cs : Nat) (pc : Option Addr) (nc cc : Nat) (g : Int) (q1 : Option Addr) (n1 d1 : Nat) (q2 : Option Addr) (n2 d2 : Nat) (q3 : Option Addr) (n3 d3 : Nat) (q4 : Option Addr) (n4 d4 : Nat) (er es : Int) (pa : Option Addr) (na ca : Nat) (pe : Option Addr) (ne ce : Nat) (k : Kd) (c : List Int) (l : List Eff) (R : Rw) (cn : Nat) (kx : Int) (j : Nat) (ky : List Int) (xn xt : Int) (wd : List Int) (w0 w : World) (hX : BX w gD #[.slice ps ns cs, .slice pc nc cc, .int .i64 g, .slice q1 n1 d1, .slice q2 n2 d2, .slice q3 n3 d3, .slice q4 n4 d4, .int .i64 er, .int .i64 es, .slice pa na ca, .slice pe ne ce] 94) (hO : OO w0.heap.size w q1 n1 d1 q2 n2 d2 q3 n3 d3 q4 n4 d4 R) (hB : Below w0.heap.size w0 w) (h12 : kx = 1 ∨ kx = 2) : Calls Tryz.prog 123 #[.pointer (some ⟨gD, 0, none⟩), .agg #[.int .i64 kx, .int .i64 (j : Int), .string (strOfNums ky), .int .i64 xn, .int .i64 xt, .string (strOfNums wd)]] w fun e w' => e = .returned (.int .i64 0) ∧ OO w0.heap.size w' q1 n1 d1 q2 n2 d2 q3 n3 d3 q4 n4 d4 R ∧ Fr w0.heap.size w w' := by
 have HO := hide (hO.below (bel1 w (.cells #[.int .i64 kx, .int .i64 (j : Int), .string (strOfNums ky), .int .i64 xn, .int .i64 xt, .string (strOfNums wd)] 82)))
 have HF := hide (Fr.bel hB.size (bel1 w (.cells #[.int .i64 kx, .int .i64 (j : Int), .string (strOfNums ky), .int .i64 xn, .int .i64 xt, .string (strOfNums wd)] 82)))
 have h3 : ¬ kx = 3 := by omega
 have h4 : ¬ kx = 4 := by omega
 have h5 : ¬ kx = 5 := by omega
 have h6 : ¬ kx = 6 := by omega
 clear hX hO hB h12
 go_enter Tryz.func123, Tryz.ntmps123
 go_wp2
 go_ret
 exact ⟨rfl, HO.out, HF.out⟩
end Go.Proofs.YtkbbegbpkndebaaGreat

/- The doer's other, inTurn and doAll of layer 13 (the program). -/
namespace Go.Proofs.YtkbbegbpkndebaaGreat
open Go.RowKit Go.Lib
set_option linter.unusedVariables false
theorem key_may {kx : Int} {j : Nat} {ky wd : List Int} {xn xt : Int} (h : mayF (kx, (j : Int), ky, xn, xt, wd) = true) : mayK (strOfNums ky) = true := by
 have q := (mayF13.1 h).1
 unfold mayK
 rw [decide_eq_true_iff, str_size]
 simp only at q
 omega
end Go.Proofs.YtkbbegbpkndebaaGreat

