/- Texts of this claim, joined: H7. -/
import Derived.Test.YtkbbegbpkndebaaGreatJ22
import Derived.Test.YtkbbegbpkndebaaGreatJ25
/- The document's May of layer 13. -/
namespace Go.Proofs.YtkbbegbpkndebaaGreat
open Go.RowKit Go.Lib
set_option linter.unusedVariables false
theorem mayW_no {k : Kd} {w : Rw} (h : ¬ (kindsB k = true ∧ lensB k w = true ∧ (∀ (i : Nat) r s, k.1[i]? = some r → w.1[i]? = some s → setB r s = true) ∧ (∀ (i : Nat) f t a, k.2.1[i]? = some f → w.2.1[i]? = some t → w.2.2.1[i]? = some a → cntB f t a = true) ∧ ∀ g ∈ w.2.2.2, mayR12 g = true)) : mayW k w = false := by
 rw [← Bool.not_eq_true, mayW_iff]
 exact h
set_option maxRecDepth 4000 in
set_option maxHeartbeats 16000000 in
theorem May13_ref (ps : Option Addr) (ns cs : Nat) (pc : Option Addr) (nc cc : Nat) (k : Kd) (g : Int) (p1 : Option Addr) (n1 c1 : Nat) (p2 : Option Addr) (n2 c2 : Nat) (p3 : Option Addr) (n3 c3 : Nat) (p4 : Option Addr) (n4 c4 : Nat) (r : Rw) (w : World) (hg : k.2.2 = g) (hK : KM w ps ns cs pc nc cc k) (hR : RM w p1 n1 c1 p2 n2 c2 p3 n3 c3 p4 n4 c4 r) (hbd : ∀ s ∈ r.1, ∀ x ∈ s, x.2.1.length ≤ 100000 ∧ x.2.2.length ≤ 100000) : Calls Tryz.prog 10 #[.agg #[.slice ps ns cs, .slice pc nc cc, .int .i64 g], .agg #[.slice p1 n1 c1, .slice p2 n2 c2, .slice p3 n3 c3, .slice p4 n4 c4]] w fun e w' => e = .returned (.bool (mayW k r)) ∧ Below w.heap.size w w' := by
 have HK := hide hK
 have HR := hide hR
 have HKS := hide hK.s.1
 have HKC := hide hK.c.1
 have HL1 := hide (LS.len hR.s)
 have HL2 := hide (LS.len hR.t)
 have HL3 := hide (LS.len hR.a)
 have HL4 := hide (LS.len hR.g)
 have HBD := hide hbd
 clear hK hR hbd
 have HB0 := hide (bel2 w (.cells #[.slice ps ns cs, .slice pc nc cc, .int .i64 g] 25) (.cells #[.slice p1 n1 c1, .slice p2 n2 c2, .slice p3 n3 c3, .slice p4 n4 c4] 31))
 have a0 := cell_old (w := w.alloc (.cells #[.slice ps ns cs, .slice pc nc cc, .int .i64 g] 25)) (.cells #[.slice p1 n1 c1, .slice p2 n2 c2, .slice p3 n3 c3, .slice p4 n4 c4] 31) (cell_new w #[.slice ps ns cs, .slice pc nc cc, .int .i64 g] 25 _ rfl 0 _ rfl)
 have a1 := cell_old (w := w.alloc (.cells #[.slice ps ns cs, .slice pc nc cc, .int .i64 g] 25)) (.cells #[.slice p1 n1 c1, .slice p2 n2 c2, .slice p3 n3 c3, .slice p4 n4 c4] 31) (cell_new w #[.slice ps ns cs, .slice pc nc cc, .int .i64 g] 25 _ rfl 1 _ rfl)
 have a2 := cell_old (w := w.alloc (.cells #[.slice ps ns cs, .slice pc nc cc, .int .i64 g] 25)) (.cells #[.slice p1 n1 c1, .slice p2 n2 c2, .slice p3 n3 c3, .slice p4 n4 c4] 31) (cell_new w #[.slice ps ns cs, .slice pc nc cc, .int .i64 g] 25 _ rfl 2 _ rfl)
 have b0 := cell_new (w.alloc (.cells #[.slice ps ns cs, .slice pc nc cc, .int .i64 g] 25)) #[.slice p1 n1 c1, .slice p2 n2 c2, .slice p3 n3 c3, .slice p4 n4 c4] 31 (w.heap.size + 1) (by simp) 0 _ rfl
 have b1 := cell_new (w.alloc (.cells #[.slice ps ns cs, .slice pc nc cc, .int .i64 g] 25)) #[.slice p1 n1 c1, .slice p2 n2 c2, .slice p3 n3 c3, .slice p4 n4 c4] 31 (w.heap.size + 1) (by simp) 1 _ rfl
 have b2 := cell_new (w.alloc (.cells #[.slice ps ns cs, .slice pc nc cc, .int .i64 g] 25)) #[.slice p1 n1 c1, .slice p2 n2 c2, .slice p3 n3 c3, .slice p4 n4 c4] 31 (w.heap.size + 1) (by simp) 2 _ rfl
 have b3 := cell_new (w.alloc (.cells #[.slice ps ns cs, .slice pc nc cc, .int .i64 g] 25)) #[.slice p1 n1 c1, .slice p2 n2 c2, .slice p3 n3 c3, .slice p4 n4 c4] 31 (w.heap.size + 1) (by simp) 3 _ rfl
 rcases hkb : kindsB k with _ | _
 ·have HKB := hide hkb
  have HNO : Hid (mayW k r = false) := mayW_no (fun h => by rw [hkb] at h; cases h.1)
  clear hkb
  go_enter Tryz.func10, Tryz.ntmps10
  go_wp2_with (go_at_call 12; refine (Kinds13_ref _ _ _ _ _ _ k _ _ hg (HK.out.below HB0.out)).mono ?_; rintro e w1 ⟨rfl, hb⟩; rw [HKB.out]; replace HB0 := hide (bel_next HB0.out hb); (try replace a0 := bcell hb a0); (try replace a1 := bcell hb a1); (try replace a2 := bcell hb a2); (try replace b0 := bcell hb b0); (try replace b1 := bcell hb b1); (try replace b2 := bcell hb b2); (try replace b3 := bcell hb b3); (try replace x0 := bcell hb x0); (try replace y0 := bcell hb y0); (try replace y1 := bcell hb y1); (try replace v0 := bcell hb v0); clear hb)
  go_ret
  exact ⟨by rw [HNO.out]; rfl, HB0.out⟩
 ·have HKB := hide hkb
  have hg0 : 0 ≤ g := by
   unfold kindsB at hkb
   rw [Bool.and_eq_true, decide_eq_true_iff] at hkb
   omega
  clear hkb
  by_cases d1 : n1 = ns
  ·subst d1
   by_cases d2 : n2 = nc
   ·subst d2
    by_cases d3 : n3 = n2
    ·subst d3
     by_cases d4 : (n4 : Int) = g
     ·subst d4
      have HLEN : Hid (lensB k r = true) := lensB_iff.2 ⟨by rw [HL1.out, HKS.out], by rw [HL2.out, HKC.out], by rw [HL3.out, HKC.out], by rw [HL4.out, hg]⟩
      go_enter Tryz.func10, Tryz.ntmps10
      go_upto_region 3 with (go_at_call 12; refine (Kinds13_ref _ _ _ _ _ _ k _ _ hg (HK.out.below HB0.out)).mono ?_; rintro e w1 ⟨rfl, hb⟩; rw [HKB.out]; replace HB0 := hide (bel_next HB0.out hb); (try replace a0 := bcell hb a0); (try replace a1 := bcell hb a1); (try replace a2 := bcell hb a2); (try replace b0 := bcell hb b0); (try replace b1 := bcell hb b1); (try replace b2 := bcell hb b2); (try replace b3 := bcell hb b3); (try replace x0 := bcell hb x0); (try replace y0 := bcell hb y0); (try replace y1 := bcell hb y1); (try replace v0 := bcell hb v0); clear hb)
      have A0 := hide a0
      have A1 := hide a1
      have A2 := hide a2
      have B0 := hide b0
      have B1 := hide b1
      have B2 := hide b2
      have B3 := hide b3
      obtain ⟨wC, hC⟩ : ∃ x, w1 = x := ⟨_, rfl⟩
      have HBW : Hid (Below w1.heap.size w1 wC) := by unfold Hid; rw [← hC]; exact Below.refl _ _
      rw [hC] at a0 a1 a2 b0 b1 b2 b3 ⊢
      clear hC
      go_wp2
      go_loopw [5] (fun v wr => ∃ i : Nat, i ≤ n1 ∧ v = .int .i64 i ∧ Hid (∀ (j : Nat) x s, j < i → k.1[j]? = some x → r.1[j]? = some s → setB x s = true) ∧ Hid (Below wC.heap.size wC wr)) (fun v _ => n1 - (intOf v).toNat)
      case atStart => exact ⟨0, by omega, rfl, (fun j x s hj => by omega), Below.refl _ _⟩
      case round =>
       clear a0 a1 a2 b0 b1 b2 b3
       obtain ⟨k0, hk, rfl, HF, HB⟩ := hrel
       have a0 := bcell (bel_next HBW.out HB.out) A0.out
       have a1 := bcell (bel_next HBW.out HB.out) A1.out
       have a2 := bcell (bel_next HBW.out HB.out) A2.out
       have b0 := bcell (bel_next HBW.out HB.out) B0.out
       have b1 := bcell (bel_next HBW.out HB.out) B1.out
       have b2 := bcell (bel_next HBW.out HB.out) B2.out
       have b3 := bcell (bel_next HBW.out HB.out) B3.out
       by_cases hlt : k0 < n1
       ·obtain ⟨bc, oc, rfl⟩ := rs_addr HK.out.s (by omega)
        obtain ⟨ba, oa, rfl⟩ := LS.addr HR.out.s (by omega)
        obtain ⟨x, hf, y0⟩ := bool_at ((HK.out.below (bel_next HB0.out (bel_next HBW.out HB.out))).s) k0 hlt
        obtain ⟨px, nx, cx, lx, hx, x0, hX, _⟩ := LS.at ((HR.out.below (bel_next HB0.out (bel_next HBW.out HB.out))).s) k0 hlt
        have HX1 := hide hX
        have hk0 : (0 : Int) ≤ (k0 : Int) := by omega
        have hk1 : (k0 : Int) < (n1 : Int) := by omega
        have hmk : n1 ≤ 9223372036854775807 := by have h := LS.max HR.out.s; unfold maxLen at h; omega
        have HBX := hide (HBD.out lx (List.mem_of_getElem? hx))
        rcases hs : setB x lx with _ | _
        ·have HNO : Hid (mayW k r = false) := mayW_no (fun h => by have q := h.2.2.1 k0 _ _ hf hx; rw [hs] at q; cases q)
         rcases x with _ | _
         ·have HM : Hid (mayS lx = false) := by unfold setB at hs; rw [if_neg (by decide)] at hs; exact hs
          clear hf hx hX hs
          go_wp2_with (go_at_call 40; refine (MayS_ref px nx cx lx _ HX1.out (fun z hz => (HBX.out z hz).1)).mono ?_; rintro e wn ⟨rfl, hb⟩; rw [HM.out]; replace HB := hide (bel_next HB.out hb); (try replace HX1 := hide (HX1.out.below hb)); (try replace HX2 := hide (HX2.out.below hb)); (try replace a0 := bcell hb a0); (try replace a1 := bcell hb a1); (try replace a2 := bcell hb a2); (try replace b0 := bcell hb b0); (try replace b1 := bcell hb b1); (try replace b2 := bcell hb b2); (try replace b3 := bcell hb b3); (try replace x0 := bcell hb x0); (try replace y0 := bcell hb y0); (try replace y1 := bcell hb y1); (try replace v0 := bcell hb v0); clear hb)
          go_ret
          exact ⟨by rw [HNO.out]; rfl, bel_next HB0.out (bel_next HBW.out HB.out)⟩
         ·have HM : Hid (mayS9 lx = false) := by unfold setB at hs; rw [if_pos rfl] at hs; exact hs
          clear hf hx hX hs
          go_wp2_with (go_at_call 39; refine (May9_ref px nx cx lx _ HX1.out HBX.out).mono ?_; rintro e wn ⟨rfl, hb⟩; rw [HM.out]; replace HB := hide (bel_next HB.out hb); (try replace HX1 := hide (HX1.out.below hb)); (try replace HX2 := hide (HX2.out.below hb)); (try replace a0 := bcell hb a0); (try replace a1 := bcell hb a1); (try replace a2 := bcell hb a2); (try replace b0 := bcell hb b0); (try replace b1 := bcell hb b1); (try replace b2 := bcell hb b2); (try replace b3 := bcell hb b3); (try replace x0 := bcell hb x0); (try replace y0 := bcell hb y0); (try replace y1 := bcell hb y1); (try replace v0 := bcell hb v0); clear hb)
          go_ret
          exact ⟨by rw [HNO.out]; rfl, bel_next HB0.out (bel_next HBW.out HB.out)⟩
        ·have HF2 : Hid (∀ (j : Nat) x s, j < k0 + 1 → k.1[j]? = some x → r.1[j]? = some s → setB x s = true) := by
          intro j y s hj h1 h2
          by_cases e : j = k0
          ·subst e
           rw [hf] at h1
           rw [hx] at h2
           cases h1
           cases h2
           exact hs
          ·exact HF.out j y s (by omega) h1 h2
         rcases x with _ | _
         ·have HM : Hid (mayS lx = true) := by unfold setB at hs; rw [if_neg (by decide)] at hs; exact hs
          clear hf hx hX hs
          go_wp2_with (go_at_call 40; refine (MayS_ref px nx cx lx _ HX1.out (fun z hz => (HBX.out z hz).1)).mono ?_; rintro e wn ⟨rfl, hb⟩; rw [HM.out]; replace HB := hide (bel_next HB.out hb); (try replace HX1 := hide (HX1.out.below hb)); (try replace HX2 := hide (HX2.out.below hb)); (try replace a0 := bcell hb a0); (try replace a1 := bcell hb a1); (try replace a2 := bcell hb a2); (try replace b0 := bcell hb b0); (try replace b1 := bcell hb b1); (try replace b2 := bcell hb b2); (try replace b3 := bcell hb b3); (try replace x0 := bcell hb x0); (try replace y0 := bcell hb y0); (try replace y1 := bcell hb y1); (try replace v0 := bcell hb v0); clear hb)
          go_roundw
          case rel => exact ⟨k0 + 1, by omega, by go_num, HF2, HB⟩
          case measure => simp [intOf]; omega
         ·have HM : Hid (mayS9 lx = true) := by unfold setB at hs; rw [if_pos rfl] at hs; exact hs
          clear hf hx hX hs
          go_wp2_with (go_at_call 39; refine (May9_ref px nx cx lx _ HX1.out HBX.out).mono ?_; rintro e wn ⟨rfl, hb⟩; rw [HM.out]; replace HB := hide (bel_next HB.out hb); (try replace HX1 := hide (HX1.out.below hb)); (try replace HX2 := hide (HX2.out.below hb)); (try replace a0 := bcell hb a0); (try replace a1 := bcell hb a1); (try replace a2 := bcell hb a2); (try replace b0 := bcell hb b0); (try replace b1 := bcell hb b1); (try replace b2 := bcell hb b2); (try replace b3 := bcell hb b3); (try replace x0 := bcell hb x0); (try replace y0 := bcell hb y0); (try replace y1 := bcell hb y1); (try replace v0 := bcell hb v0); clear hb)
          go_roundw
          case rel => exact ⟨k0 + 1, by omega, by go_num, HF2, HB⟩
          case measure => simp [intOf]; omega
       ·obtain rfl : k0 = n1 := by omega
        have HF1 : Hid (∀ (i : Nat) x s, k.1[i]? = some x → r.1[i]? = some s → setB x s = true) := by
         intro i x s h1 h2
         exact HF.out i x s (by have := (List.getElem?_eq_some_iff.1 h1).1; rw [HKS.out] at this; exact this) h1 h2
        clear HF
        replace HBW := hide (bel_next HBW.out HB.out)
        clear HB
        generalize hww : wr = wC at *
        clear hww
        go_wp2
        go_loopw [6] (fun v wr => ∃ i : Nat, i ≤ n3 ∧ v = .int .i64 i ∧ Hid (∀ (j : Nat) f t a, j < i → k.2.1[j]? = some f → r.2.1[j]? = some t → r.2.2.1[j]? = some a → cntB f t a = true) ∧ Hid (Below wC.heap.size wC wr)) (fun v _ => n3 - (intOf v).toNat)
        case atStart => exact ⟨0, by omega, rfl, (fun j f t a hj => by omega), Below.refl _ _⟩
        case round =>
         clear a0 a1 a2 b0 b1 b2 b3
         obtain ⟨k0, hk, rfl, HF, HB⟩ := hrel
         have a0 := bcell (bel_next HBW.out HB.out) A0.out
         have a1 := bcell (bel_next HBW.out HB.out) A1.out
         have a2 := bcell (bel_next HBW.out HB.out) A2.out
         have b0 := bcell (bel_next HBW.out HB.out) B0.out
         have b1 := bcell (bel_next HBW.out HB.out) B1.out
         have b2 := bcell (bel_next HBW.out HB.out) B2.out
         have b3 := bcell (bel_next HBW.out HB.out) B3.out
         by_cases hlt : k0 < n3
         ·obtain ⟨bc, oc, rfl⟩ := rs_addr HK.out.c (by omega)
          obtain ⟨ba, oa, rfl⟩ := LS.addr HR.out.t (by omega)
          obtain ⟨bb, ob, rfl⟩ := LS.addr HR.out.a (by omega)
          obtain ⟨is, fat, hf, y0, y1⟩ := floor_at ((HK.out.below (bel_next HB0.out (bel_next HBW.out HB.out))).c) k0 hlt
          obtain ⟨px, nx, cx, lx, hx, x0, hX, _⟩ := LS.at ((HR.out.below (bel_next HB0.out (bel_next HBW.out HB.out))).t) k0 hlt
          obtain ⟨py, ny, cy, ly, hy, v0, hY, _⟩ := LS.at ((HR.out.below (bel_next HB0.out (bel_next HBW.out HB.out))).a) k0 hlt
          have HX1 := hide hX
          have HX2 := hide hY
          have hnx := kept_cel.len hX
          have hny := kept_acc.len hY
          have hk0 : (0 : Int) ≤ (k0 : Int) := by omega
          have hk1 : (k0 : Int) < (n3 : Int) := by omega
          have hmk : n3 ≤ 9223372036854775807 := by have h := LS.max HR.out.t; unfold maxLen at h; omega
          rcases hmt : mayT lx with _ | _
          ·have HMT := hide hmt
           have HNO : Hid (mayW k r = false) := mayW_no (fun h => by
            have q := h.2.2.2.1 k0 _ _ _ hf hx hy
            unfold cntB at q
            rw [hmt] at q; cases q)
           clear hf hx hy hX hY
           clear hmt hnx hny
           go_wp2_with (first | (go_at_call 41; refine (May10_ref px _ cx lx _ HX1.out).mono ?_; rintro e wn ⟨rfl, hb⟩; rw [HMT.out]; replace HB := hide (bel_next HB.out hb); (try replace HX1 := hide (HX1.out.below hb)); (try replace HX2 := hide (HX2.out.below hb)); (try replace a0 := bcell hb a0); (try replace a1 := bcell hb a1); (try replace a2 := bcell hb a2); (try replace b0 := bcell hb b0); (try replace b1 := bcell hb b1); (try replace b2 := bcell hb b2); (try replace b3 := bcell hb b3); (try replace x0 := bcell hb x0); (try replace y0 := bcell hb y0); (try replace y1 := bcell hb y1); (try replace v0 := bcell hb v0); clear hb) | (go_at_call 42; refine (Right11_ref py _ cy ly _ HX2.out).mono ?_; rintro e wn ⟨rfl, hb⟩; rw [HMA.out]; replace HB := hide (bel_next HB.out hb); (try replace HX1 := hide (HX1.out.below hb)); (try replace HX2 := hide (HX2.out.below hb)); (try replace a0 := bcell hb a0); (try replace a1 := bcell hb a1); (try replace a2 := bcell hb a2); (try replace b0 := bcell hb b0); (try replace b1 := bcell hb b1); (try replace b2 := bcell hb b2); (try replace b3 := bcell hb b3); (try replace x0 := bcell hb x0); (try replace y0 := bcell hb y0); (try replace y1 := bcell hb y1); (try replace v0 := bcell hb v0); clear hb))
           go_ret
           exact ⟨by rw [HNO.out]; rfl, bel_next HB0.out (bel_next HBW.out HB.out)⟩
          ·have HMT := hide hmt
           rcases hma : mayA ly with _ | _
           ·have HMA := hide hma
            have HNO : Hid (mayW k r = false) := mayW_no (fun h => by
             have q := h.2.2.2.1 k0 _ _ _ hf hx hy
             unfold cntB at q
             rw [hmt, hma] at q; cases q)
            clear hf hx hy hX hY
            clear hmt hma hnx hny
            go_wp2_with (first | (go_at_call 41; refine (May10_ref px _ cx lx _ HX1.out).mono ?_; rintro e wn ⟨rfl, hb⟩; rw [HMT.out]; replace HB := hide (bel_next HB.out hb); (try replace HX1 := hide (HX1.out.below hb)); (try replace HX2 := hide (HX2.out.below hb)); (try replace a0 := bcell hb a0); (try replace a1 := bcell hb a1); (try replace a2 := bcell hb a2); (try replace b0 := bcell hb b0); (try replace b1 := bcell hb b1); (try replace b2 := bcell hb b2); (try replace b3 := bcell hb b3); (try replace x0 := bcell hb x0); (try replace y0 := bcell hb y0); (try replace y1 := bcell hb y1); (try replace v0 := bcell hb v0); clear hb) | (go_at_call 42; refine (Right11_ref py _ cy ly _ HX2.out).mono ?_; rintro e wn ⟨rfl, hb⟩; rw [HMA.out]; replace HB := hide (bel_next HB.out hb); (try replace HX1 := hide (HX1.out.below hb)); (try replace HX2 := hide (HX2.out.below hb)); (try replace a0 := bcell hb a0); (try replace a1 := bcell hb a1); (try replace a2 := bcell hb a2); (try replace b0 := bcell hb b0); (try replace b1 := bcell hb b1); (try replace b2 := bcell hb b2); (try replace b3 := bcell hb b3); (try replace x0 := bcell hb x0); (try replace y0 := bcell hb y0); (try replace y1 := bcell hb y1); (try replace v0 := bcell hb v0); clear hb))
            go_ret
            exact ⟨by rw [HNO.out]; rfl, bel_next HB0.out (bel_next HBW.out HB.out)⟩
           ·have HMA := hide hma
            rcases is with _ | _
            ·by_cases e : ny = 0
             ·have e2 : ly = [] := List.eq_nil_of_length_eq_zero (by omega)
              have HF2 : Hid (∀ (i : Nat) f t a, i < k0 + 1 → k.2.1[i]? = some f → r.2.1[i]? = some t → r.2.2.1[i]? = some a → cntB f t a = true) := by
               intro i f t a hi h1 h2 h3
               by_cases e : i = k0
               ·subst e
                rw [hf] at h1
                rw [hx] at h2
                rw [hy] at h3
                cases h1
                cases h2
                cases h3
                unfold cntB
                rw [hmt, hma, if_neg (by simp), decide_eq_true e2]; rfl
               ·exact HF.out i f t a (by omega) h1 h2 h3
              clear hf hx hy hX hY
              subst e
              clear hmt hma hnx hny e2
              go_wp2_with (first | (go_at_call 41; refine (May10_ref px _ cx lx _ HX1.out).mono ?_; rintro e wn ⟨rfl, hb⟩; rw [HMT.out]; replace HB := hide (bel_next HB.out hb); (try replace HX1 := hide (HX1.out.below hb)); (try replace HX2 := hide (HX2.out.below hb)); (try replace a0 := bcell hb a0); (try replace a1 := bcell hb a1); (try replace a2 := bcell hb a2); (try replace b0 := bcell hb b0); (try replace b1 := bcell hb b1); (try replace b2 := bcell hb b2); (try replace b3 := bcell hb b3); (try replace x0 := bcell hb x0); (try replace y0 := bcell hb y0); (try replace y1 := bcell hb y1); (try replace v0 := bcell hb v0); clear hb) | (go_at_call 42; refine (Right11_ref py _ cy ly _ HX2.out).mono ?_; rintro e wn ⟨rfl, hb⟩; rw [HMA.out]; replace HB := hide (bel_next HB.out hb); (try replace HX1 := hide (HX1.out.below hb)); (try replace HX2 := hide (HX2.out.below hb)); (try replace a0 := bcell hb a0); (try replace a1 := bcell hb a1); (try replace a2 := bcell hb a2); (try replace b0 := bcell hb b0); (try replace b1 := bcell hb b1); (try replace b2 := bcell hb b2); (try replace b3 := bcell hb b3); (try replace x0 := bcell hb x0); (try replace y0 := bcell hb y0); (try replace y1 := bcell hb y1); (try replace v0 := bcell hb v0); clear hb))
              go_roundw
              case rel => exact ⟨k0 + 1, by omega, by go_num, HF2, HB⟩
              case measure => simp [intOf]; omega
             ·have e2 : ¬ ly = [] := fun q => e (by rw [← hny, q]; rfl)
              have e3 : (0 : Int) < (ny : Int) := by omega
              have HNO : Hid (mayW k r = false) := mayW_no (fun h => by
               have q := h.2.2.2.1 k0 _ _ _ hf hx hy
               unfold cntB at q
               rw [hmt, hma, if_neg (by simp), decide_eq_false e2] at q; cases q)
              clear hf hx hy hX hY
              clear hmt hma hnx hny e2
              go_wp2_with (first | (go_at_call 41; refine (May10_ref px _ cx lx _ HX1.out).mono ?_; rintro e wn ⟨rfl, hb⟩; rw [HMT.out]; replace HB := hide (bel_next HB.out hb); (try replace HX1 := hide (HX1.out.below hb)); (try replace HX2 := hide (HX2.out.below hb)); (try replace a0 := bcell hb a0); (try replace a1 := bcell hb a1); (try replace a2 := bcell hb a2); (try replace b0 := bcell hb b0); (try replace b1 := bcell hb b1); (try replace b2 := bcell hb b2); (try replace b3 := bcell hb b3); (try replace x0 := bcell hb x0); (try replace y0 := bcell hb y0); (try replace y1 := bcell hb y1); (try replace v0 := bcell hb v0); clear hb) | (go_at_call 42; refine (Right11_ref py _ cy ly _ HX2.out).mono ?_; rintro e wn ⟨rfl, hb⟩; rw [HMA.out]; replace HB := hide (bel_next HB.out hb); (try replace HX1 := hide (HX1.out.below hb)); (try replace HX2 := hide (HX2.out.below hb)); (try replace a0 := bcell hb a0); (try replace a1 := bcell hb a1); (try replace a2 := bcell hb a2); (try replace b0 := bcell hb b0); (try replace b1 := bcell hb b1); (try replace b2 := bcell hb b2); (try replace b3 := bcell hb b3); (try replace x0 := bcell hb x0); (try replace y0 := bcell hb y0); (try replace y1 := bcell hb y1); (try replace v0 := bcell hb v0); clear hb))
              go_ret
              exact ⟨by rw [HNO.out]; rfl, bel_next HB0.out (bel_next HBW.out HB.out)⟩
            ·by_cases e : nx = 0
             ·have e2 : lx = [] := List.eq_nil_of_length_eq_zero (by omega)
              have HF2 : Hid (∀ (i : Nat) f t a, i < k0 + 1 → k.2.1[i]? = some f → r.2.1[i]? = some t → r.2.2.1[i]? = some a → cntB f t a = true) := by
               intro i f t a hi h1 h2 h3
               by_cases e : i = k0
               ·subst e
                rw [hf] at h1
                rw [hx] at h2
                rw [hy] at h3
                cases h1
                cases h2
                cases h3
                unfold cntB
                rw [hmt, hma, if_pos rfl, decide_eq_true e2]; rfl
               ·exact HF.out i f t a (by omega) h1 h2 h3
              clear hf hx hy hX hY
              subst e
              clear hmt hma hnx hny e2
              go_wp2_with (first | (go_at_call 41; refine (May10_ref px _ cx lx _ HX1.out).mono ?_; rintro e wn ⟨rfl, hb⟩; rw [HMT.out]; replace HB := hide (bel_next HB.out hb); (try replace HX1 := hide (HX1.out.below hb)); (try replace HX2 := hide (HX2.out.below hb)); (try replace a0 := bcell hb a0); (try replace a1 := bcell hb a1); (try replace a2 := bcell hb a2); (try replace b0 := bcell hb b0); (try replace b1 := bcell hb b1); (try replace b2 := bcell hb b2); (try replace b3 := bcell hb b3); (try replace x0 := bcell hb x0); (try replace y0 := bcell hb y0); (try replace y1 := bcell hb y1); (try replace v0 := bcell hb v0); clear hb) | (go_at_call 42; refine (Right11_ref py _ cy ly _ HX2.out).mono ?_; rintro e wn ⟨rfl, hb⟩; rw [HMA.out]; replace HB := hide (bel_next HB.out hb); (try replace HX1 := hide (HX1.out.below hb)); (try replace HX2 := hide (HX2.out.below hb)); (try replace a0 := bcell hb a0); (try replace a1 := bcell hb a1); (try replace a2 := bcell hb a2); (try replace b0 := bcell hb b0); (try replace b1 := bcell hb b1); (try replace b2 := bcell hb b2); (try replace b3 := bcell hb b3); (try replace x0 := bcell hb x0); (try replace y0 := bcell hb y0); (try replace y1 := bcell hb y1); (try replace v0 := bcell hb v0); clear hb))
              go_roundw
              case rel => exact ⟨k0 + 1, by omega, by go_num, HF2, HB⟩
              case measure => simp [intOf]; omega
             ·have e2 : ¬ lx = [] := fun q => e (by rw [← hnx, q]; rfl)
              have e3 : (0 : Int) < (nx : Int) := by omega
              have HNO : Hid (mayW k r = false) := mayW_no (fun h => by
               have q := h.2.2.2.1 k0 _ _ _ hf hx hy
               unfold cntB at q
               rw [hmt, hma, if_pos rfl, decide_eq_false e2] at q; cases q)
              clear hf hx hy hX hY
              clear hmt hma hnx hny e2
              go_wp2_with (first | (go_at_call 41; refine (May10_ref px _ cx lx _ HX1.out).mono ?_; rintro e wn ⟨rfl, hb⟩; rw [HMT.out]; replace HB := hide (bel_next HB.out hb); (try replace HX1 := hide (HX1.out.below hb)); (try replace HX2 := hide (HX2.out.below hb)); (try replace a0 := bcell hb a0); (try replace a1 := bcell hb a1); (try replace a2 := bcell hb a2); (try replace b0 := bcell hb b0); (try replace b1 := bcell hb b1); (try replace b2 := bcell hb b2); (try replace b3 := bcell hb b3); (try replace x0 := bcell hb x0); (try replace y0 := bcell hb y0); (try replace y1 := bcell hb y1); (try replace v0 := bcell hb v0); clear hb) | (go_at_call 42; refine (Right11_ref py _ cy ly _ HX2.out).mono ?_; rintro e wn ⟨rfl, hb⟩; rw [HMA.out]; replace HB := hide (bel_next HB.out hb); (try replace HX1 := hide (HX1.out.below hb)); (try replace HX2 := hide (HX2.out.below hb)); (try replace a0 := bcell hb a0); (try replace a1 := bcell hb a1); (try replace a2 := bcell hb a2); (try replace b0 := bcell hb b0); (try replace b1 := bcell hb b1); (try replace b2 := bcell hb b2); (try replace b3 := bcell hb b3); (try replace x0 := bcell hb x0); (try replace y0 := bcell hb y0); (try replace y1 := bcell hb y1); (try replace v0 := bcell hb v0); clear hb))
              go_ret
              exact ⟨by rw [HNO.out]; rfl, bel_next HB0.out (bel_next HBW.out HB.out)⟩
         ·obtain rfl : k0 = n3 := by omega
          have HFC : Hid (∀ (i : Nat) f t a, k.2.1[i]? = some f → r.2.1[i]? = some t → r.2.2.1[i]? = some a → cntB f t a = true) := by
           intro i f t a h1 h2 h3
           exact HF.out i f t a (by have := (List.getElem?_eq_some_iff.1 h1).1; rw [HKC.out] at this; exact this) h1 h2 h3
          clear HF
          replace HBW := hide (bel_next HBW.out HB.out)
          clear HB
          generalize hww : wr = wC at *
          clear hww
          go_wp2
          go_loopw [7] (fun v wr => ∃ i : Nat, i ≤ n4 ∧ v = .int .i64 i ∧ Hid (∀ z ∈ r.2.2.2.take i, mayR12 z = true) ∧ Hid (Below wC.heap.size wC wr)) (fun v _ => n4 - (intOf v).toNat)
          case atStart => exact ⟨0, by omega, rfl, (fun z hz => by simp at hz), Below.refl _ _⟩
          case round =>
           clear a0 a1 a2 b0 b1 b2 b3
           obtain ⟨k0, hk, rfl, HF, HB⟩ := hrel
           have a0 := bcell (bel_next HBW.out HB.out) A0.out
           have a1 := bcell (bel_next HBW.out HB.out) A1.out
           have a2 := bcell (bel_next HBW.out HB.out) A2.out
           have b0 := bcell (bel_next HBW.out HB.out) B0.out
           have b1 := bcell (bel_next HBW.out HB.out) B1.out
           have b2 := bcell (bel_next HBW.out HB.out) B2.out
           have b3 := bcell (bel_next HBW.out HB.out) B3.out
           by_cases hlt : k0 < n4
           ·obtain ⟨ba, oa, rfl⟩ := LS.addr HR.out.g (by omega)
            obtain ⟨px, nx, cx, lx, hx, x0, hX, _⟩ := LS.at ((HR.out.below (bel_next HB0.out (bel_next HBW.out HB.out))).g) k0 hlt
            have HX1 := hide hX
            have hk0 : (0 : Int) ≤ (k0 : Int) := by omega
            have hk1 : (k0 : Int) < (n4 : Int) := by omega
            have hmk : n4 ≤ 9223372036854775807 := by have h := LS.max HR.out.g; unfold maxLen at h; omega
            rcases hm : mayR12 lx with _ | _
            ·have HM := hide hm
             have HNO : Hid (mayW k r = false) := mayW_no (fun h => by have := h.2.2.2.2 lx (List.mem_of_getElem? hx); rw [hm] at this; cases this)
             clear hx hX hm
             go_wp2_with (go_at_call 43; refine (May12_ref px nx cx lx _ HX1.out).mono ?_; rintro e wn ⟨rfl, hb⟩; rw [HM.out]; replace HB := hide (bel_next HB.out hb); (try replace HX1 := hide (HX1.out.below hb)); (try replace HX2 := hide (HX2.out.below hb)); (try replace a0 := bcell hb a0); (try replace a1 := bcell hb a1); (try replace a2 := bcell hb a2); (try replace b0 := bcell hb b0); (try replace b1 := bcell hb b1); (try replace b2 := bcell hb b2); (try replace b3 := bcell hb b3); (try replace x0 := bcell hb x0); (try replace y0 := bcell hb y0); (try replace y1 := bcell hb y1); (try replace v0 := bcell hb v0); clear hb)
             go_ret
             exact ⟨by rw [HNO.out]; rfl, bel_next HB0.out (bel_next HBW.out HB.out)⟩
            ·have HM := hide hm
             have HF2 : Hid (∀ z ∈ r.2.2.2.take (k0 + 1), mayR12 z = true) := by
              intro z hz
              rw [takeG_snoc hx] at hz
              rcases List.mem_append.1 hz with q | q
              ·exact HF.out z q
              ·rw [List.mem_singleton] at q; subst q; exact hm
             clear hx hX hm
             go_wp2_with (go_at_call 43; refine (May12_ref px nx cx lx _ HX1.out).mono ?_; rintro e wn ⟨rfl, hb⟩; rw [HM.out]; replace HB := hide (bel_next HB.out hb); (try replace HX1 := hide (HX1.out.below hb)); (try replace HX2 := hide (HX2.out.below hb)); (try replace a0 := bcell hb a0); (try replace a1 := bcell hb a1); (try replace a2 := bcell hb a2); (try replace b0 := bcell hb b0); (try replace b1 := bcell hb b1); (try replace b2 := bcell hb b2); (try replace b3 := bcell hb b3); (try replace x0 := bcell hb x0); (try replace y0 := bcell hb y0); (try replace y1 := bcell hb y1); (try replace v0 := bcell hb v0); clear hb)
             go_roundw
             case rel => exact ⟨k0 + 1, by omega, by go_num, HF2, HB⟩
             case measure => simp [intOf]; omega
           ·obtain rfl : k0 = n4 := by omega
            have HYES : Hid (mayW k r = true) := by
             refine mayW_iff.2 ⟨HKB.out, HLEN.out, HF1.out, HFC.out, ?_⟩
             have h := HF.out
             rw [List.take_of_length_le (by rw [HL4.out]; exact Nat.le_refl _)] at h
             exact h
            clear HF
            go_wp2
            go_ret
            exact ⟨by rw [HYES.out]; rfl, bel_next HB0.out (bel_next HBW.out HB.out)⟩
     ·have hz4 : ¬ ((n4 : Int) = g) := by omega
      have hy4 : (((n4 : Int) != g)) = true := by simpa using hz4
      have HNO : Hid (mayW k r = false) := mayW_no (fun h => by have := lensB_iff.1 h.2.1; rw [HL1.out, HL2.out, HL3.out, HL4.out, HKS.out, HKC.out, hg] at this; omega)
      go_enter Tryz.func10, Tryz.ntmps10
      go_wp2_with (go_at_call 12; refine (Kinds13_ref _ _ _ _ _ _ k _ _ hg (HK.out.below HB0.out)).mono ?_; rintro e w1 ⟨rfl, hb⟩; rw [HKB.out]; replace HB0 := hide (bel_next HB0.out hb); (try replace a0 := bcell hb a0); (try replace a1 := bcell hb a1); (try replace a2 := bcell hb a2); (try replace b0 := bcell hb b0); (try replace b1 := bcell hb b1); (try replace b2 := bcell hb b2); (try replace b3 := bcell hb b3); (try replace x0 := bcell hb x0); (try replace y0 := bcell hb y0); (try replace y1 := bcell hb y1); (try replace v0 := bcell hb v0); clear hb)
      go_ret
      exact ⟨by rw [HNO.out]; rfl, HB0.out⟩
    ·have hz3 : ¬ ((n3 : Int) = (n2 : Int)) := by omega
     have hy3 : (((n3 : Int) != (n2 : Int))) = true := by simpa using hz3
     have HNO : Hid (mayW k r = false) := mayW_no (fun h => by have := lensB_iff.1 h.2.1; rw [HL1.out, HL2.out, HL3.out, HL4.out, HKS.out, HKC.out, hg] at this; omega)
     go_enter Tryz.func10, Tryz.ntmps10
     go_wp2_with (go_at_call 12; refine (Kinds13_ref _ _ _ _ _ _ k _ _ hg (HK.out.below HB0.out)).mono ?_; rintro e w1 ⟨rfl, hb⟩; rw [HKB.out]; replace HB0 := hide (bel_next HB0.out hb); (try replace a0 := bcell hb a0); (try replace a1 := bcell hb a1); (try replace a2 := bcell hb a2); (try replace b0 := bcell hb b0); (try replace b1 := bcell hb b1); (try replace b2 := bcell hb b2); (try replace b3 := bcell hb b3); (try replace x0 := bcell hb x0); (try replace y0 := bcell hb y0); (try replace y1 := bcell hb y1); (try replace v0 := bcell hb v0); clear hb)
     go_ret
     exact ⟨by rw [HNO.out]; rfl, HB0.out⟩
   ·have hz2 : ¬ ((n2 : Int) = (nc : Int)) := by omega
    have hy2 : (((n2 : Int) != (nc : Int))) = true := by simpa using hz2
    have HNO : Hid (mayW k r = false) := mayW_no (fun h => by have := lensB_iff.1 h.2.1; rw [HL1.out, HL2.out, HL3.out, HL4.out, HKS.out, HKC.out, hg] at this; omega)
    go_enter Tryz.func10, Tryz.ntmps10
    go_wp2_with (go_at_call 12; refine (Kinds13_ref _ _ _ _ _ _ k _ _ hg (HK.out.below HB0.out)).mono ?_; rintro e w1 ⟨rfl, hb⟩; rw [HKB.out]; replace HB0 := hide (bel_next HB0.out hb); (try replace a0 := bcell hb a0); (try replace a1 := bcell hb a1); (try replace a2 := bcell hb a2); (try replace b0 := bcell hb b0); (try replace b1 := bcell hb b1); (try replace b2 := bcell hb b2); (try replace b3 := bcell hb b3); (try replace x0 := bcell hb x0); (try replace y0 := bcell hb y0); (try replace y1 := bcell hb y1); (try replace v0 := bcell hb v0); clear hb)
    go_ret
    exact ⟨by rw [HNO.out]; rfl, HB0.out⟩
  ·have hz1 : ¬ ((n1 : Int) = (ns : Int)) := by omega
   have hy1 : (((n1 : Int) != (ns : Int))) = true := by simpa using hz1
   have HNO : Hid (mayW k r = false) := mayW_no (fun h => by have := lensB_iff.1 h.2.1; rw [HL1.out, HL2.out, HL3.out, HL4.out, HKS.out, HKC.out, hg] at this; omega)
   go_enter Tryz.func10, Tryz.ntmps10
   go_wp2_with (go_at_call 12; refine (Kinds13_ref _ _ _ _ _ _ k _ _ hg (HK.out.below HB0.out)).mono ?_; rintro e w1 ⟨rfl, hb⟩; rw [HKB.out]; replace HB0 := hide (bel_next HB0.out hb); (try replace a0 := bcell hb a0); (try replace a1 := bcell hb a1); (try replace a2 := bcell hb a2); (try replace b0 := bcell hb b0); (try replace b1 := bcell hb b1); (try replace b2 := bcell hb b2); (try replace b3 := bcell hb b3); (try replace x0 := bcell hb x0); (try replace y0 := bcell hb y0); (try replace y1 := bcell hb y1); (try replace v0 := bcell hb v0); clear hb)
   go_ret
   exact ⟨by rw [HNO.out]; rfl, HB0.out⟩
end Go.Proofs.YtkbbegbpkndebaaGreat

