/- Texts of this claim, joined: H6. -/
import Derived.Test.YtkbbegbpkndebaaGreatJ13
import Derived.Test.YtkbbegbpkndebaaGreatJ15
import Derived.Test.YtkbbegbpkndebaaGreatJ16
import Derived.Test.YtkbbegbpkndebaaGreatJ17
import Derived.Test.YtkbbegbpkndebaaGreatJ18
/- The document's Kinds and Same of layer 13. -/
namespace Go.Proofs.YtkbbegbpkndebaaGreat
open Go.RowKit Go.Lib
set_option linter.unusedVariables false
/-- Are raws alike? -/
def sameW (r q : Rw) : Bool := decide (r.1 = q.1) && decide (r.2.1 = q.2.1) && decide (r.2.2.1 = q.2.2.1) && decide (r.2.2.2 = q.2.2.2)
theorem sameW_iff {r q : Rw} : sameW r q = true ↔ r = q := by
  unfold sameW
  rw [Bool.and_eq_true, Bool.and_eq_true, Bool.and_eq_true, decide_eq_true_iff, decide_eq_true_iff, decide_eq_true_iff, decide_eq_true_iff]
  exact ⟨fun h => Prod.ext h.1.1.1 (Prod.ext h.1.1.2 (Prod.ext h.1.2 h.2)), fun h => by rw [h]; exact ⟨⟨⟨rfl, rfl⟩, rfl⟩, rfl⟩⟩
theorem sameW_yes {r q : Rw} (h : r = q) : sameW r q = true := sameW_iff.2 h
theorem sameW_no {r q : Rw} : sameW r q = false ↔ ¬ r = q := by rw [← Bool.not_eq_true, sameW_iff]
theorem kinds_no {k : Kd} {i : Nat} {f : Bool × Int} (h : k.2.1[i]? = some f) (hf : floB f = false) : kindsB k = false := by
  unfold kindsB
  rw [Bool.and_eq_false_iff]
  left
  rw [List.all_eq_false]
  exact ⟨f, List.mem_of_getElem? h, by rw [hf]; decide⟩
theorem kinds_yes {k : Kd} (h : k.2.1.all floB = true) : kindsB k = decide (k.1.length ≤ 6 ∧ k.2.1.length ≤ 4 ∧ 0 ≤ k.2.2 ∧ k.2.2 ≤ 3) := by
  unfold kindsB
  rw [h, Bool.true_and]
set_option maxHeartbeats 16000000 in
theorem Same13_ref (p1 : Option Addr) (n1 c1 : Nat) (p2 : Option Addr) (n2 c2 : Nat) (p3 : Option Addr) (n3 c3 : Nat) (p4 : Option Addr) (n4 c4 : Nat) (q1 : Option Addr) (m1 d1 : Nat) (q2 : Option Addr) (m2 d2 : Nat) (q3 : Option Addr) (m3 d3 : Nat) (q4 : Option Addr) (m4 d4 : Nat) (r q : Rw) (w : World) (hA : RM w p1 n1 c1 p2 n2 c2 p3 n3 c3 p4 n4 c4 r) (hQ : RM w q1 m1 d1 q2 m2 d2 q3 m3 d3 q4 m4 d4 q) : Calls Tryz.prog 20 #[.agg #[.slice p1 n1 c1, .slice p2 n2 c2, .slice p3 n3 c3, .slice p4 n4 c4], .agg #[.slice q1 m1 d1, .slice q2 m2 d2, .slice q3 m3 d3, .slice q4 m4 d4]] w fun e w' => e = .returned (.bool (sameW r q)) ∧ Below w.heap.size w w' := by
  have HA := hide hA
  have HQ := hide hQ
  have HL1 := hide (LS.len hA.s)
  have HM1 := hide (LS.len hQ.s)
  have HL2 := hide (LS.len hA.t)
  have HM2 := hide (LS.len hQ.t)
  have HL3 := hide (LS.len hA.a)
  have HM3 := hide (LS.len hQ.a)
  have HL4 := hide (LS.len hA.g)
  have HM4 := hide (LS.len hQ.g)
  clear hA hQ
  have HB0 := hide (bel2 w (.cells #[.slice p1 n1 c1, .slice p2 n2 c2, .slice p3 n3 c3, .slice p4 n4 c4] 31) (.cells #[.slice q1 m1 d1, .slice q2 m2 d2, .slice q3 m3 d3, .slice q4 m4 d4] 31))
  have a1 := cell_old (w := w.alloc (.cells #[.slice p1 n1 c1, .slice p2 n2 c2, .slice p3 n3 c3, .slice p4 n4 c4] 31)) (.cells #[.slice q1 m1 d1, .slice q2 m2 d2, .slice q3 m3 d3, .slice q4 m4 d4] 31) (cell_new w #[.slice p1 n1 c1, .slice p2 n2 c2, .slice p3 n3 c3, .slice p4 n4 c4] 31 _ rfl 0 _ rfl)
  have b1 := cell_new (w.alloc (.cells #[.slice p1 n1 c1, .slice p2 n2 c2, .slice p3 n3 c3, .slice p4 n4 c4] 31)) #[.slice q1 m1 d1, .slice q2 m2 d2, .slice q3 m3 d3, .slice q4 m4 d4] 31 (w.heap.size + 1) (by simp) 0 _ rfl
  have a2 := cell_old (w := w.alloc (.cells #[.slice p1 n1 c1, .slice p2 n2 c2, .slice p3 n3 c3, .slice p4 n4 c4] 31)) (.cells #[.slice q1 m1 d1, .slice q2 m2 d2, .slice q3 m3 d3, .slice q4 m4 d4] 31) (cell_new w #[.slice p1 n1 c1, .slice p2 n2 c2, .slice p3 n3 c3, .slice p4 n4 c4] 31 _ rfl 1 _ rfl)
  have b2 := cell_new (w.alloc (.cells #[.slice p1 n1 c1, .slice p2 n2 c2, .slice p3 n3 c3, .slice p4 n4 c4] 31)) #[.slice q1 m1 d1, .slice q2 m2 d2, .slice q3 m3 d3, .slice q4 m4 d4] 31 (w.heap.size + 1) (by simp) 1 _ rfl
  have a3 := cell_old (w := w.alloc (.cells #[.slice p1 n1 c1, .slice p2 n2 c2, .slice p3 n3 c3, .slice p4 n4 c4] 31)) (.cells #[.slice q1 m1 d1, .slice q2 m2 d2, .slice q3 m3 d3, .slice q4 m4 d4] 31) (cell_new w #[.slice p1 n1 c1, .slice p2 n2 c2, .slice p3 n3 c3, .slice p4 n4 c4] 31 _ rfl 2 _ rfl)
  have b3 := cell_new (w.alloc (.cells #[.slice p1 n1 c1, .slice p2 n2 c2, .slice p3 n3 c3, .slice p4 n4 c4] 31)) #[.slice q1 m1 d1, .slice q2 m2 d2, .slice q3 m3 d3, .slice q4 m4 d4] 31 (w.heap.size + 1) (by simp) 2 _ rfl
  have a4 := cell_old (w := w.alloc (.cells #[.slice p1 n1 c1, .slice p2 n2 c2, .slice p3 n3 c3, .slice p4 n4 c4] 31)) (.cells #[.slice q1 m1 d1, .slice q2 m2 d2, .slice q3 m3 d3, .slice q4 m4 d4] 31) (cell_new w #[.slice p1 n1 c1, .slice p2 n2 c2, .slice p3 n3 c3, .slice p4 n4 c4] 31 _ rfl 3 _ rfl)
  have b4 := cell_new (w.alloc (.cells #[.slice p1 n1 c1, .slice p2 n2 c2, .slice p3 n3 c3, .slice p4 n4 c4] 31)) #[.slice q1 m1 d1, .slice q2 m2 d2, .slice q3 m3 d3, .slice q4 m4 d4] 31 (w.heap.size + 1) (by simp) 3 _ rfl
  by_cases hn1 : n1 = m1
  · subst hn1
    by_cases hn2 : n2 = m2
    · subst hn2
      by_cases hn3 : n3 = m3
      · subst hn3
        by_cases hn4 : n4 = m4
        · subst hn4
          go_enter Tryz.func20, Tryz.ntmps20
          go_upto_region 3 with fail
          have Z1 := hide a1
          have Y1 := hide b1
          have Z2 := hide a2
          have Y2 := hide b2
          have Z3 := hide a3
          have Y3 := hide b3
          have Z4 := hide a4
          have Y4 := hide b4
          generalize hww : (w.alloc (.cells #[.slice p1 n1 c1, .slice p2 n2 c2, .slice p3 n3 c3, .slice p4 n4 c4] 31)).alloc (.cells #[.slice q1 n1 d1, .slice q2 n2 d2, .slice q3 n3 d3, .slice q4 n4 d4] 31) = u at *
          clear hww
          obtain ⟨wC, hC⟩ : ∃ x, u = x := ⟨_, rfl⟩
          have HBW : Hid (Below u.heap.size u wC) := by unfold Hid; rw [← hC]; exact Below.refl _ _
          rw [hC] at a1 a2 a3 a4 b1 b2 b3 b4 ⊢
          clear hC
          go_wp2
          go_loopw [5] (fun v wr => ∃ i : Nat, i ≤ n1 ∧ v = .int .i64 i ∧ Hid (r.1.take i = q.1.take i) ∧ Hid (Below wC.heap.size wC wr)) (fun v _ => n1 - (intOf v).toNat)
          case atStart => exact ⟨0, by omega, rfl, (show _ = _ by simp), Below.refl _ _⟩
          case round =>
            clear a1 b1 a2 b2 a3 b3 a4 b4
            obtain ⟨k0, hk, rfl, HF, HB⟩ := hrel
            have a1 := bcell (bel_next HBW.out HB.out) Z1.out
            have b1 := bcell (bel_next HBW.out HB.out) Y1.out
            have a2 := bcell (bel_next HBW.out HB.out) Z2.out
            have b2 := bcell (bel_next HBW.out HB.out) Y2.out
            have a3 := bcell (bel_next HBW.out HB.out) Z3.out
            have b3 := bcell (bel_next HBW.out HB.out) Y3.out
            have a4 := bcell (bel_next HBW.out HB.out) Z4.out
            have b4 := bcell (bel_next HBW.out HB.out) Y4.out
            by_cases hlt : k0 < n1
            · obtain ⟨ba, oa, rfl⟩ := LS.addr HA.out.s (by omega)
              obtain ⟨bb, ob, rfl⟩ := LS.addr HQ.out.s (by omega)
              obtain ⟨px, nx, cx, lx, hx, x0, hX, _⟩ := LS.at ((HA.out.below (bel_next HB0.out (bel_next HBW.out HB.out))).s) k0 hlt
              obtain ⟨py, ny, cy, ly, hy, y0, hY, _⟩ := LS.at ((HQ.out.below (bel_next HB0.out (bel_next HBW.out HB.out))).s) k0 hlt
              have HX1 := hide hX
              have HX2 := hide hY
              have hk0 : (0 : Int) ≤ (k0 : Int) := by omega
              have hk1 : (k0 : Int) < (n1 : Int) := by omega
              have hmk : n1 ≤ 9223372036854775807 := by have h := LS.max HA.out.s; unfold maxLen at h; omega
              by_cases he : lx = ly
              · have HD : Hid (decide (lx = ly) = true) := decide_eq_true he
                have HF2 : Hid (r.1.take (k0 + 1) = q.1.take (k0 + 1)) := by unfold Hid; rw [takeG_snoc hx, takeG_snoc hy, HF.out, he]
                clear hx hy hX hY he
                go_upto_region 6 with fail
                refine wp_region_held_drew (S := fun W => Below wr.heap.size wr W) (by kernel_rfl) ((Below.refl _ wr).drew) (fun hS0 => ?_)
                refine tkI 0 50 ?v73 rfl rfl hS0 ?hy73 ?_
                case hy73 => (intro W hW; clear hW; go_simp; try rfl)
                simp only [Go.Proofs.YtkbbegbpkndebaaGreat.ly]
                refine tkI 1 51 ?v74 rfl rfl hS0 ?hy74 ?_
                case hy74 => (intro W hW; have e0 := bcell hW a1; have e1 := bcell hW b1; have e2 := bcell hW x0; have e3 := bcell hW y0; clear hW; go_simp; try rfl)
                simp only [Go.Proofs.YtkbbegbpkndebaaGreat.ly]
                refine tkI 2 52 ?v75 rfl rfl hS0 ?hy75 ?_
                case hy75 => (intro W hW; clear hW; go_simp; try rfl)
                simp only [Go.Proofs.YtkbbegbpkndebaaGreat.ly]
                refine tkI 3 53 ?v76 rfl rfl hS0 ?hy76 ?_
                case hy76 => (intro W hW; clear hW; go_simp; try rfl)
                simp only [Go.Proofs.YtkbbegbpkndebaaGreat.ly]
                refine tkI 4 54 ?v77 rfl rfl hS0 ?hy77 ?_
                case hy77 => (intro W hW; have e0 := bcell hW a1; have e1 := bcell hW b1; have e2 := bcell hW x0; have e3 := bcell hW y0; clear hW; go_simp; try rfl)
                simp only [Go.Proofs.YtkbbegbpkndebaaGreat.ly]
                refine tkI 5 55 ?v78 rfl rfl hS0 ?hy78 ?_
                case hy78 => (intro W hW; clear hW; go_simp; try rfl)
                simp only [Go.Proofs.YtkbbegbpkndebaaGreat.ly]
                refine tkI 6 56 ?v79 rfl rfl hS0 ?hy79 ?_
                case hy79 => (intro W hW; have e0 := bcell hW a1; have e1 := bcell hW b1; have e2 := bcell hW x0; have e3 := bcell hW y0; clear hW; go_simp; try rfl)
                simp only [Go.Proofs.YtkbbegbpkndebaaGreat.ly]
                refine tkI 7 57 ?v80 rfl rfl hS0 ?hy80 ?_
                case hy80 => (intro W hW; clear hW; go_simp; try rfl)
                simp only [Go.Proofs.YtkbbegbpkndebaaGreat.ly]
                refine tkI 8 58 ?v81 rfl rfl hS0 ?hy81 ?_
                case hy81 => (intro W hW; clear hW; go_simp; try rfl)
                simp only [Go.Proofs.YtkbbegbpkndebaaGreat.ly]
                refine tkI 9 59 ?v82 rfl rfl hS0 ?hy82 ?_
                case hy82 => (intro W hW; have e0 := bcell hW a1; have e1 := bcell hW b1; have e2 := bcell hW x0; have e3 := bcell hW y0; clear hW; go_simp; try rfl)
                simp only [Go.Proofs.YtkbbegbpkndebaaGreat.ly]
                refine wpAnyH_ready (rs := [10]) (by kernel_rfl) (by simp) ?_
                refine AllReadyH.cons rfl (fun K hK => ?_) AllReadyH.nil
                go_simp
                refine (SameS_ref px nx cx lx py ny cy ly _ (HX1.out.below hS0) (HX2.out.below hS0)).mono ?_
                rintro e wn ⟨rfl, hb⟩
                rw [HD.out]
                refine hK.out _ _ ?hs83 (fun hS1 => ?_)
                case hs83 => exact bel_next hS0 hb
                clear hK K hb
                try simp only [Go.Proofs.YtkbbegbpkndebaaGreat.ly]
                refine tkI 11 61 ?v84 rfl rfl hS1 ?hy84 ?_
                case hy84 => (intro W hW; clear hW; go_simp; try rfl)
                simp only [Go.Proofs.YtkbbegbpkndebaaGreat.ly]
                refine wpAnyH_done (by kernel_rfl) ?_ _
                go_wp2
                go_roundw
                case rel => exact ⟨k0 + 1, by omega, by go_num, HF2, (show Hid _ from bel_next HB.out hS1)⟩
                case measure => simp [intOf]; omega
              · have HD : Hid (decide (lx = ly) = false) := decide_eq_false he
                have HNO : Hid (sameW r q = false) := by
                  unfold Hid
                  rw [sameW_no]
                  rintro rfl
                  rw [hx] at hy
                  cases hy
                  exact he rfl
                clear hx hy hX hY he
                go_upto_region 6 with fail
                refine wp_region_held_drew (S := fun W => Below wr.heap.size wr W) (by kernel_rfl) ((Below.refl _ wr).drew) (fun hS0 => ?_)
                refine tkI 0 50 ?v85 rfl rfl hS0 ?hy85 ?_
                case hy85 => (intro W hW; clear hW; go_simp; try rfl)
                simp only [Go.Proofs.YtkbbegbpkndebaaGreat.ly]
                refine tkI 1 51 ?v86 rfl rfl hS0 ?hy86 ?_
                case hy86 => (intro W hW; have e0 := bcell hW a1; have e1 := bcell hW b1; have e2 := bcell hW x0; have e3 := bcell hW y0; clear hW; go_simp; try rfl)
                simp only [Go.Proofs.YtkbbegbpkndebaaGreat.ly]
                refine tkI 2 52 ?v87 rfl rfl hS0 ?hy87 ?_
                case hy87 => (intro W hW; clear hW; go_simp; try rfl)
                simp only [Go.Proofs.YtkbbegbpkndebaaGreat.ly]
                refine tkI 3 53 ?v88 rfl rfl hS0 ?hy88 ?_
                case hy88 => (intro W hW; clear hW; go_simp; try rfl)
                simp only [Go.Proofs.YtkbbegbpkndebaaGreat.ly]
                refine tkI 4 54 ?v89 rfl rfl hS0 ?hy89 ?_
                case hy89 => (intro W hW; have e0 := bcell hW a1; have e1 := bcell hW b1; have e2 := bcell hW x0; have e3 := bcell hW y0; clear hW; go_simp; try rfl)
                simp only [Go.Proofs.YtkbbegbpkndebaaGreat.ly]
                refine tkI 5 55 ?v90 rfl rfl hS0 ?hy90 ?_
                case hy90 => (intro W hW; clear hW; go_simp; try rfl)
                simp only [Go.Proofs.YtkbbegbpkndebaaGreat.ly]
                refine tkI 6 56 ?v91 rfl rfl hS0 ?hy91 ?_
                case hy91 => (intro W hW; have e0 := bcell hW a1; have e1 := bcell hW b1; have e2 := bcell hW x0; have e3 := bcell hW y0; clear hW; go_simp; try rfl)
                simp only [Go.Proofs.YtkbbegbpkndebaaGreat.ly]
                refine tkI 7 57 ?v92 rfl rfl hS0 ?hy92 ?_
                case hy92 => (intro W hW; clear hW; go_simp; try rfl)
                simp only [Go.Proofs.YtkbbegbpkndebaaGreat.ly]
                refine tkI 8 58 ?v93 rfl rfl hS0 ?hy93 ?_
                case hy93 => (intro W hW; clear hW; go_simp; try rfl)
                simp only [Go.Proofs.YtkbbegbpkndebaaGreat.ly]
                refine tkI 9 59 ?v94 rfl rfl hS0 ?hy94 ?_
                case hy94 => (intro W hW; have e0 := bcell hW a1; have e1 := bcell hW b1; have e2 := bcell hW x0; have e3 := bcell hW y0; clear hW; go_simp; try rfl)
                simp only [Go.Proofs.YtkbbegbpkndebaaGreat.ly]
                refine wpAnyH_ready (rs := [10]) (by kernel_rfl) (by simp) ?_
                refine AllReadyH.cons rfl (fun K hK => ?_) AllReadyH.nil
                go_simp
                refine (SameS_ref px nx cx lx py ny cy ly _ (HX1.out.below hS0) (HX2.out.below hS0)).mono ?_
                rintro e wn ⟨rfl, hb⟩
                rw [HD.out]
                refine hK.out _ _ ?hs95 (fun hS1 => ?_)
                case hs95 => exact bel_next hS0 hb
                clear hK K hb
                try simp only [Go.Proofs.YtkbbegbpkndebaaGreat.ly]
                refine tkI 11 61 ?v96 rfl rfl hS1 ?hy96 ?_
                case hy96 => (intro W hW; clear hW; go_simp; try rfl)
                simp only [Go.Proofs.YtkbbegbpkndebaaGreat.ly]
                refine wpAnyH_done (by kernel_rfl) ?_ _
                go_wp2
                go_ret
                exact ⟨by rw [HNO.out]; rfl, bel_next HB0.out (bel_next HBW.out (bel_next HB.out hS1))⟩
            · obtain rfl : k0 = n1 := by omega
              have HE1 : Hid (r.1 = q.1) := by
                have h := HF.out
                rwa [List.take_of_length_le (by rw [HL1.out]; exact Nat.le_refl _), List.take_of_length_le (by rw [HM1.out]; exact Nat.le_refl _)] at h
              clear HF
              replace HBW := hide (bel_next HBW.out HB.out)
              clear HB
              generalize hww : wr = wC at *
              clear hww
              go_wp2
              go_loopw [6] (fun v wr => ∃ i : Nat, i ≤ n2 ∧ v = .int .i64 i ∧ Hid (r.2.1.take i = q.2.1.take i) ∧ Hid (Below wC.heap.size wC wr)) (fun v _ => n2 - (intOf v).toNat)
              case atStart => exact ⟨0, by omega, rfl, (show _ = _ by simp), Below.refl _ _⟩
              case round =>
                clear a2 b2 a3 b3 a4 b4
                obtain ⟨k0, hk, rfl, HF, HB⟩ := hrel
                have a2 := bcell (bel_next HBW.out HB.out) Z2.out
                have b2 := bcell (bel_next HBW.out HB.out) Y2.out
                have a3 := bcell (bel_next HBW.out HB.out) Z3.out
                have b3 := bcell (bel_next HBW.out HB.out) Y3.out
                have a4 := bcell (bel_next HBW.out HB.out) Z4.out
                have b4 := bcell (bel_next HBW.out HB.out) Y4.out
                by_cases hlt : k0 < n2
                · obtain ⟨ba, oa, rfl⟩ := LS.addr HA.out.t (by omega)
                  obtain ⟨bb, ob, rfl⟩ := LS.addr HQ.out.t (by omega)
                  obtain ⟨px, nx, cx, lx, hx, x0, hX, _⟩ := LS.at ((HA.out.below (bel_next HB0.out (bel_next HBW.out HB.out))).t) k0 hlt
                  obtain ⟨py, ny, cy, ly, hy, y0, hY, _⟩ := LS.at ((HQ.out.below (bel_next HB0.out (bel_next HBW.out HB.out))).t) k0 hlt
                  have HX1 := hide hX
                  have HX2 := hide hY
                  have hk0 : (0 : Int) ≤ (k0 : Int) := by omega
                  have hk1 : (k0 : Int) < (n2 : Int) := by omega
                  have hmk : n2 ≤ 9223372036854775807 := by have h := LS.max HA.out.t; unfold maxLen at h; omega
                  by_cases he : lx = ly
                  · have HD : Hid (decide (lx = ly) = true) := decide_eq_true he
                    have HF2 : Hid (r.2.1.take (k0 + 1) = q.2.1.take (k0 + 1)) := by unfold Hid; rw [takeG_snoc hx, takeG_snoc hy, HF.out, he]
                    clear hx hy hX hY he
                    go_upto_region 11 with fail
                    refine wp_region_held_drew (S := fun W => Below wr.heap.size wr W) (by kernel_rfl) ((Below.refl _ wr).drew) (fun hS0 => ?_)
                    refine tkI 0 69 ?v49 rfl rfl hS0 ?hy49 ?_
                    case hy49 => (intro W hW; clear hW; go_simp; try rfl)
                    simp only [Go.Proofs.YtkbbegbpkndebaaGreat.ly]
                    refine tkI 1 70 ?v50 rfl rfl hS0 ?hy50 ?_
                    case hy50 => (intro W hW; have e0 := bcell hW a2; have e1 := bcell hW b2; have e2 := bcell hW x0; have e3 := bcell hW y0; clear hW; go_simp; try rfl)
                    simp only [Go.Proofs.YtkbbegbpkndebaaGreat.ly]
                    refine tkI 2 71 ?v51 rfl rfl hS0 ?hy51 ?_
                    case hy51 => (intro W hW; clear hW; go_simp; try rfl)
                    simp only [Go.Proofs.YtkbbegbpkndebaaGreat.ly]
                    refine tkI 3 72 ?v52 rfl rfl hS0 ?hy52 ?_
                    case hy52 => (intro W hW; clear hW; go_simp; try rfl)
                    simp only [Go.Proofs.YtkbbegbpkndebaaGreat.ly]
                    refine tkI 4 73 ?v53 rfl rfl hS0 ?hy53 ?_
                    case hy53 => (intro W hW; have e0 := bcell hW a2; have e1 := bcell hW b2; have e2 := bcell hW x0; have e3 := bcell hW y0; clear hW; go_simp; try rfl)
                    simp only [Go.Proofs.YtkbbegbpkndebaaGreat.ly]
                    refine tkI 5 74 ?v54 rfl rfl hS0 ?hy54 ?_
                    case hy54 => (intro W hW; clear hW; go_simp; try rfl)
                    simp only [Go.Proofs.YtkbbegbpkndebaaGreat.ly]
                    refine tkI 6 75 ?v55 rfl rfl hS0 ?hy55 ?_
                    case hy55 => (intro W hW; have e0 := bcell hW a2; have e1 := bcell hW b2; have e2 := bcell hW x0; have e3 := bcell hW y0; clear hW; go_simp; try rfl)
                    simp only [Go.Proofs.YtkbbegbpkndebaaGreat.ly]
                    refine tkI 7 76 ?v56 rfl rfl hS0 ?hy56 ?_
                    case hy56 => (intro W hW; clear hW; go_simp; try rfl)
                    simp only [Go.Proofs.YtkbbegbpkndebaaGreat.ly]
                    refine tkI 8 77 ?v57 rfl rfl hS0 ?hy57 ?_
                    case hy57 => (intro W hW; clear hW; go_simp; try rfl)
                    simp only [Go.Proofs.YtkbbegbpkndebaaGreat.ly]
                    refine tkI 9 78 ?v58 rfl rfl hS0 ?hy58 ?_
                    case hy58 => (intro W hW; have e0 := bcell hW a2; have e1 := bcell hW b2; have e2 := bcell hW x0; have e3 := bcell hW y0; clear hW; go_simp; try rfl)
                    simp only [Go.Proofs.YtkbbegbpkndebaaGreat.ly]
                    refine wpAnyH_ready (rs := [10]) (by kernel_rfl) (by simp) ?_
                    refine AllReadyH.cons rfl (fun K hK => ?_) AllReadyH.nil
                    go_simp
                    refine (Same10_ref px nx cx lx py ny cy ly _ (HX1.out.below hS0) (HX2.out.below hS0)).mono ?_
                    rintro e wn ⟨rfl, hb⟩
                    rw [HD.out]
                    refine hK.out _ _ ?hs59 (fun hS1 => ?_)
                    case hs59 => exact bel_next hS0 hb
                    clear hK K hb
                    try simp only [Go.Proofs.YtkbbegbpkndebaaGreat.ly]
                    refine tkI 11 80 ?v60 rfl rfl hS1 ?hy60 ?_
                    case hy60 => (intro W hW; clear hW; go_simp; try rfl)
                    simp only [Go.Proofs.YtkbbegbpkndebaaGreat.ly]
                    refine wpAnyH_done (by kernel_rfl) ?_ _
                    go_wp2
                    go_roundw
                    case rel => exact ⟨k0 + 1, by omega, by go_num, HF2, (show Hid _ from bel_next HB.out hS1)⟩
                    case measure => simp [intOf]; omega
                  · have HD : Hid (decide (lx = ly) = false) := decide_eq_false he
                    have HNO : Hid (sameW r q = false) := by
                      unfold Hid
                      rw [sameW_no]
                      rintro rfl
                      rw [hx] at hy
                      cases hy
                      exact he rfl
                    clear hx hy hX hY he
                    go_upto_region 11 with fail
                    refine wp_region_held_drew (S := fun W => Below wr.heap.size wr W) (by kernel_rfl) ((Below.refl _ wr).drew) (fun hS0 => ?_)
                    refine tkI 0 69 ?v61 rfl rfl hS0 ?hy61 ?_
                    case hy61 => (intro W hW; clear hW; go_simp; try rfl)
                    simp only [Go.Proofs.YtkbbegbpkndebaaGreat.ly]
                    refine tkI 1 70 ?v62 rfl rfl hS0 ?hy62 ?_
                    case hy62 => (intro W hW; have e0 := bcell hW a2; have e1 := bcell hW b2; have e2 := bcell hW x0; have e3 := bcell hW y0; clear hW; go_simp; try rfl)
                    simp only [Go.Proofs.YtkbbegbpkndebaaGreat.ly]
                    refine tkI 2 71 ?v63 rfl rfl hS0 ?hy63 ?_
                    case hy63 => (intro W hW; clear hW; go_simp; try rfl)
                    simp only [Go.Proofs.YtkbbegbpkndebaaGreat.ly]
                    refine tkI 3 72 ?v64 rfl rfl hS0 ?hy64 ?_
                    case hy64 => (intro W hW; clear hW; go_simp; try rfl)
                    simp only [Go.Proofs.YtkbbegbpkndebaaGreat.ly]
                    refine tkI 4 73 ?v65 rfl rfl hS0 ?hy65 ?_
                    case hy65 => (intro W hW; have e0 := bcell hW a2; have e1 := bcell hW b2; have e2 := bcell hW x0; have e3 := bcell hW y0; clear hW; go_simp; try rfl)
                    simp only [Go.Proofs.YtkbbegbpkndebaaGreat.ly]
                    refine tkI 5 74 ?v66 rfl rfl hS0 ?hy66 ?_
                    case hy66 => (intro W hW; clear hW; go_simp; try rfl)
                    simp only [Go.Proofs.YtkbbegbpkndebaaGreat.ly]
                    refine tkI 6 75 ?v67 rfl rfl hS0 ?hy67 ?_
                    case hy67 => (intro W hW; have e0 := bcell hW a2; have e1 := bcell hW b2; have e2 := bcell hW x0; have e3 := bcell hW y0; clear hW; go_simp; try rfl)
                    simp only [Go.Proofs.YtkbbegbpkndebaaGreat.ly]
                    refine tkI 7 76 ?v68 rfl rfl hS0 ?hy68 ?_
                    case hy68 => (intro W hW; clear hW; go_simp; try rfl)
                    simp only [Go.Proofs.YtkbbegbpkndebaaGreat.ly]
                    refine tkI 8 77 ?v69 rfl rfl hS0 ?hy69 ?_
                    case hy69 => (intro W hW; clear hW; go_simp; try rfl)
                    simp only [Go.Proofs.YtkbbegbpkndebaaGreat.ly]
                    refine tkI 9 78 ?v70 rfl rfl hS0 ?hy70 ?_
                    case hy70 => (intro W hW; have e0 := bcell hW a2; have e1 := bcell hW b2; have e2 := bcell hW x0; have e3 := bcell hW y0; clear hW; go_simp; try rfl)
                    simp only [Go.Proofs.YtkbbegbpkndebaaGreat.ly]
                    refine wpAnyH_ready (rs := [10]) (by kernel_rfl) (by simp) ?_
                    refine AllReadyH.cons rfl (fun K hK => ?_) AllReadyH.nil
                    go_simp
                    refine (Same10_ref px nx cx lx py ny cy ly _ (HX1.out.below hS0) (HX2.out.below hS0)).mono ?_
                    rintro e wn ⟨rfl, hb⟩
                    rw [HD.out]
                    refine hK.out _ _ ?hs71 (fun hS1 => ?_)
                    case hs71 => exact bel_next hS0 hb
                    clear hK K hb
                    try simp only [Go.Proofs.YtkbbegbpkndebaaGreat.ly]
                    refine tkI 11 80 ?v72 rfl rfl hS1 ?hy72 ?_
                    case hy72 => (intro W hW; clear hW; go_simp; try rfl)
                    simp only [Go.Proofs.YtkbbegbpkndebaaGreat.ly]
                    refine wpAnyH_done (by kernel_rfl) ?_ _
                    go_wp2
                    go_ret
                    exact ⟨by rw [HNO.out]; rfl, bel_next HB0.out (bel_next HBW.out (bel_next HB.out hS1))⟩
                · obtain rfl : k0 = n2 := by omega
                  have HE2 : Hid (r.2.1 = q.2.1) := by
                    have h := HF.out
                    rwa [List.take_of_length_le (by rw [HL2.out]; exact Nat.le_refl _), List.take_of_length_le (by rw [HM2.out]; exact Nat.le_refl _)] at h
                  clear HF
                  replace HBW := hide (bel_next HBW.out HB.out)
                  clear HB
                  generalize hww : wr = wC at *
                  clear hww
                  go_wp2
                  go_loopw [7] (fun v wr => ∃ i : Nat, i ≤ n3 ∧ v = .int .i64 i ∧ Hid (r.2.2.1.take i = q.2.2.1.take i) ∧ Hid (Below wC.heap.size wC wr)) (fun v _ => n3 - (intOf v).toNat)
                  case atStart => exact ⟨0, by omega, rfl, (show _ = _ by simp), Below.refl _ _⟩
                  case round =>
                    clear a3 b3 a4 b4
                    obtain ⟨k0, hk, rfl, HF, HB⟩ := hrel
                    have a3 := bcell (bel_next HBW.out HB.out) Z3.out
                    have b3 := bcell (bel_next HBW.out HB.out) Y3.out
                    have a4 := bcell (bel_next HBW.out HB.out) Z4.out
                    have b4 := bcell (bel_next HBW.out HB.out) Y4.out
                    by_cases hlt : k0 < n3
                    · obtain ⟨ba, oa, rfl⟩ := LS.addr HA.out.a (by omega)
                      obtain ⟨bb, ob, rfl⟩ := LS.addr HQ.out.a (by omega)
                      obtain ⟨px, nx, cx, lx, hx, x0, hX, _⟩ := LS.at ((HA.out.below (bel_next HB0.out (bel_next HBW.out HB.out))).a) k0 hlt
                      obtain ⟨py, ny, cy, ly, hy, y0, hY, _⟩ := LS.at ((HQ.out.below (bel_next HB0.out (bel_next HBW.out HB.out))).a) k0 hlt
                      have HX1 := hide hX
                      have HX2 := hide hY
                      have hk0 : (0 : Int) ≤ (k0 : Int) := by omega
                      have hk1 : (k0 : Int) < (n3 : Int) := by omega
                      have hmk : n3 ≤ 9223372036854775807 := by have h := LS.max HA.out.a; unfold maxLen at h; omega
                      by_cases he : lx = ly
                      · have HD : Hid (decide (lx = ly) = true) := decide_eq_true he
                        have HF2 : Hid (r.2.2.1.take (k0 + 1) = q.2.2.1.take (k0 + 1)) := by unfold Hid; rw [takeG_snoc hx, takeG_snoc hy, HF.out, he]
                        clear hx hy hX hY he
                        go_upto_region 16 with fail
                        refine wp_region_held_drew (S := fun W => Below wr.heap.size wr W) (by kernel_rfl) ((Below.refl _ wr).drew) (fun hS0 => ?_)
                        refine tkI 0 88 ?v25 rfl rfl hS0 ?hy25 ?_
                        case hy25 => (intro W hW; clear hW; go_simp; try rfl)
                        simp only [Go.Proofs.YtkbbegbpkndebaaGreat.ly]
                        refine tkI 1 89 ?v26 rfl rfl hS0 ?hy26 ?_
                        case hy26 => (intro W hW; have e0 := bcell hW a3; have e1 := bcell hW b3; have e2 := bcell hW x0; have e3 := bcell hW y0; clear hW; go_simp; try rfl)
                        simp only [Go.Proofs.YtkbbegbpkndebaaGreat.ly]
                        refine tkI 2 90 ?v27 rfl rfl hS0 ?hy27 ?_
                        case hy27 => (intro W hW; clear hW; go_simp; try rfl)
                        simp only [Go.Proofs.YtkbbegbpkndebaaGreat.ly]
                        refine tkI 3 91 ?v28 rfl rfl hS0 ?hy28 ?_
                        case hy28 => (intro W hW; clear hW; go_simp; try rfl)
                        simp only [Go.Proofs.YtkbbegbpkndebaaGreat.ly]
                        refine tkI 4 92 ?v29 rfl rfl hS0 ?hy29 ?_
                        case hy29 => (intro W hW; have e0 := bcell hW a3; have e1 := bcell hW b3; have e2 := bcell hW x0; have e3 := bcell hW y0; clear hW; go_simp; try rfl)
                        simp only [Go.Proofs.YtkbbegbpkndebaaGreat.ly]
                        refine tkI 5 93 ?v30 rfl rfl hS0 ?hy30 ?_
                        case hy30 => (intro W hW; clear hW; go_simp; try rfl)
                        simp only [Go.Proofs.YtkbbegbpkndebaaGreat.ly]
                        refine tkI 6 94 ?v31 rfl rfl hS0 ?hy31 ?_
                        case hy31 => (intro W hW; have e0 := bcell hW a3; have e1 := bcell hW b3; have e2 := bcell hW x0; have e3 := bcell hW y0; clear hW; go_simp; try rfl)
                        simp only [Go.Proofs.YtkbbegbpkndebaaGreat.ly]
                        refine tkI 7 95 ?v32 rfl rfl hS0 ?hy32 ?_
                        case hy32 => (intro W hW; clear hW; go_simp; try rfl)
                        simp only [Go.Proofs.YtkbbegbpkndebaaGreat.ly]
                        refine tkI 8 96 ?v33 rfl rfl hS0 ?hy33 ?_
                        case hy33 => (intro W hW; clear hW; go_simp; try rfl)
                        simp only [Go.Proofs.YtkbbegbpkndebaaGreat.ly]
                        refine tkI 9 97 ?v34 rfl rfl hS0 ?hy34 ?_
                        case hy34 => (intro W hW; have e0 := bcell hW a3; have e1 := bcell hW b3; have e2 := bcell hW x0; have e3 := bcell hW y0; clear hW; go_simp; try rfl)
                        simp only [Go.Proofs.YtkbbegbpkndebaaGreat.ly]
                        refine wpAnyH_ready (rs := [10]) (by kernel_rfl) (by simp) ?_
                        refine AllReadyH.cons rfl (fun K hK => ?_) AllReadyH.nil
                        go_simp
                        refine (Same11_ref px nx cx lx py ny cy ly _ (HX1.out.below hS0) (HX2.out.below hS0)).mono ?_
                        rintro e wn ⟨rfl, hb⟩
                        rw [HD.out]
                        refine hK.out _ _ ?hs35 (fun hS1 => ?_)
                        case hs35 => exact bel_next hS0 hb
                        clear hK K hb
                        try simp only [Go.Proofs.YtkbbegbpkndebaaGreat.ly]
                        refine tkI 11 99 ?v36 rfl rfl hS1 ?hy36 ?_
                        case hy36 => (intro W hW; clear hW; go_simp; try rfl)
                        simp only [Go.Proofs.YtkbbegbpkndebaaGreat.ly]
                        refine wpAnyH_done (by kernel_rfl) ?_ _
                        go_wp2
                        go_roundw
                        case rel => exact ⟨k0 + 1, by omega, by go_num, HF2, (show Hid _ from bel_next HB.out hS1)⟩
                        case measure => simp [intOf]; omega
                      · have HD : Hid (decide (lx = ly) = false) := decide_eq_false he
                        have HNO : Hid (sameW r q = false) := by
                          unfold Hid
                          rw [sameW_no]
                          rintro rfl
                          rw [hx] at hy
                          cases hy
                          exact he rfl
                        clear hx hy hX hY he
                        go_upto_region 16 with fail
                        refine wp_region_held_drew (S := fun W => Below wr.heap.size wr W) (by kernel_rfl) ((Below.refl _ wr).drew) (fun hS0 => ?_)
                        refine tkI 0 88 ?v37 rfl rfl hS0 ?hy37 ?_
                        case hy37 => (intro W hW; clear hW; go_simp; try rfl)
                        simp only [Go.Proofs.YtkbbegbpkndebaaGreat.ly]
                        refine tkI 1 89 ?v38 rfl rfl hS0 ?hy38 ?_
                        case hy38 => (intro W hW; have e0 := bcell hW a3; have e1 := bcell hW b3; have e2 := bcell hW x0; have e3 := bcell hW y0; clear hW; go_simp; try rfl)
                        simp only [Go.Proofs.YtkbbegbpkndebaaGreat.ly]
                        refine tkI 2 90 ?v39 rfl rfl hS0 ?hy39 ?_
                        case hy39 => (intro W hW; clear hW; go_simp; try rfl)
                        simp only [Go.Proofs.YtkbbegbpkndebaaGreat.ly]
                        refine tkI 3 91 ?v40 rfl rfl hS0 ?hy40 ?_
                        case hy40 => (intro W hW; clear hW; go_simp; try rfl)
                        simp only [Go.Proofs.YtkbbegbpkndebaaGreat.ly]
                        refine tkI 4 92 ?v41 rfl rfl hS0 ?hy41 ?_
                        case hy41 => (intro W hW; have e0 := bcell hW a3; have e1 := bcell hW b3; have e2 := bcell hW x0; have e3 := bcell hW y0; clear hW; go_simp; try rfl)
                        simp only [Go.Proofs.YtkbbegbpkndebaaGreat.ly]
                        refine tkI 5 93 ?v42 rfl rfl hS0 ?hy42 ?_
                        case hy42 => (intro W hW; clear hW; go_simp; try rfl)
                        simp only [Go.Proofs.YtkbbegbpkndebaaGreat.ly]
                        refine tkI 6 94 ?v43 rfl rfl hS0 ?hy43 ?_
                        case hy43 => (intro W hW; have e0 := bcell hW a3; have e1 := bcell hW b3; have e2 := bcell hW x0; have e3 := bcell hW y0; clear hW; go_simp; try rfl)
                        simp only [Go.Proofs.YtkbbegbpkndebaaGreat.ly]
                        refine tkI 7 95 ?v44 rfl rfl hS0 ?hy44 ?_
                        case hy44 => (intro W hW; clear hW; go_simp; try rfl)
                        simp only [Go.Proofs.YtkbbegbpkndebaaGreat.ly]
                        refine tkI 8 96 ?v45 rfl rfl hS0 ?hy45 ?_
                        case hy45 => (intro W hW; clear hW; go_simp; try rfl)
                        simp only [Go.Proofs.YtkbbegbpkndebaaGreat.ly]
                        refine tkI 9 97 ?v46 rfl rfl hS0 ?hy46 ?_
                        case hy46 => (intro W hW; have e0 := bcell hW a3; have e1 := bcell hW b3; have e2 := bcell hW x0; have e3 := bcell hW y0; clear hW; go_simp; try rfl)
                        simp only [Go.Proofs.YtkbbegbpkndebaaGreat.ly]
                        refine wpAnyH_ready (rs := [10]) (by kernel_rfl) (by simp) ?_
                        refine AllReadyH.cons rfl (fun K hK => ?_) AllReadyH.nil
                        go_simp
                        refine (Same11_ref px nx cx lx py ny cy ly _ (HX1.out.below hS0) (HX2.out.below hS0)).mono ?_
                        rintro e wn ⟨rfl, hb⟩
                        rw [HD.out]
                        refine hK.out _ _ ?hs47 (fun hS1 => ?_)
                        case hs47 => exact bel_next hS0 hb
                        clear hK K hb
                        try simp only [Go.Proofs.YtkbbegbpkndebaaGreat.ly]
                        refine tkI 11 99 ?v48 rfl rfl hS1 ?hy48 ?_
                        case hy48 => (intro W hW; clear hW; go_simp; try rfl)
                        simp only [Go.Proofs.YtkbbegbpkndebaaGreat.ly]
                        refine wpAnyH_done (by kernel_rfl) ?_ _
                        go_wp2
                        go_ret
                        exact ⟨by rw [HNO.out]; rfl, bel_next HB0.out (bel_next HBW.out (bel_next HB.out hS1))⟩
                    · obtain rfl : k0 = n3 := by omega
                      have HE3 : Hid (r.2.2.1 = q.2.2.1) := by
                        have h := HF.out
                        rwa [List.take_of_length_le (by rw [HL3.out]; exact Nat.le_refl _), List.take_of_length_le (by rw [HM3.out]; exact Nat.le_refl _)] at h
                      clear HF
                      replace HBW := hide (bel_next HBW.out HB.out)
                      clear HB
                      generalize hww : wr = wC at *
                      clear hww
                      go_wp2
                      go_loopw [8] (fun v wr => ∃ i : Nat, i ≤ n4 ∧ v = .int .i64 i ∧ Hid (r.2.2.2.take i = q.2.2.2.take i) ∧ Hid (Below wC.heap.size wC wr)) (fun v _ => n4 - (intOf v).toNat)
                      case atStart => exact ⟨0, by omega, rfl, (show _ = _ by simp), Below.refl _ _⟩
                      case round =>
                        clear a4 b4
                        obtain ⟨k0, hk, rfl, HF, HB⟩ := hrel
                        have a4 := bcell (bel_next HBW.out HB.out) Z4.out
                        have b4 := bcell (bel_next HBW.out HB.out) Y4.out
                        by_cases hlt : k0 < n4
                        · obtain ⟨ba, oa, rfl⟩ := LS.addr HA.out.g (by omega)
                          obtain ⟨bb, ob, rfl⟩ := LS.addr HQ.out.g (by omega)
                          obtain ⟨px, nx, cx, lx, hx, x0, hX, _⟩ := LS.at ((HA.out.below (bel_next HB0.out (bel_next HBW.out HB.out))).g) k0 hlt
                          obtain ⟨py, ny, cy, ly, hy, y0, hY, _⟩ := LS.at ((HQ.out.below (bel_next HB0.out (bel_next HBW.out HB.out))).g) k0 hlt
                          have HX1 := hide hX
                          have HX2 := hide hY
                          have hk0 : (0 : Int) ≤ (k0 : Int) := by omega
                          have hk1 : (k0 : Int) < (n4 : Int) := by omega
                          have hmk : n4 ≤ 9223372036854775807 := by have h := LS.max HA.out.g; unfold maxLen at h; omega
                          by_cases he : lx = ly
                          · have HD : Hid (decide (lx = ly) = true) := decide_eq_true he
                            have HF2 : Hid (r.2.2.2.take (k0 + 1) = q.2.2.2.take (k0 + 1)) := by unfold Hid; rw [takeG_snoc hx, takeG_snoc hy, HF.out, he]
                            clear hx hy hX hY he
                            go_upto_region 21 with fail
                            refine wp_region_held_drew (S := fun W => Below wr.heap.size wr W) (by kernel_rfl) ((Below.refl _ wr).drew) (fun hS0 => ?_)
                            refine tkI 0 107 ?v1 rfl rfl hS0 ?hy1 ?_
                            case hy1 => (intro W hW; clear hW; go_simp; try rfl)
                            simp only [Go.Proofs.YtkbbegbpkndebaaGreat.ly]
                            refine tkI 1 108 ?v2 rfl rfl hS0 ?hy2 ?_
                            case hy2 => (intro W hW; have e0 := bcell hW a4; have e1 := bcell hW b4; have e2 := bcell hW x0; have e3 := bcell hW y0; clear hW; go_simp; try rfl)
                            simp only [Go.Proofs.YtkbbegbpkndebaaGreat.ly]
                            refine tkI 2 109 ?v3 rfl rfl hS0 ?hy3 ?_
                            case hy3 => (intro W hW; clear hW; go_simp; try rfl)
                            simp only [Go.Proofs.YtkbbegbpkndebaaGreat.ly]
                            refine tkI 3 110 ?v4 rfl rfl hS0 ?hy4 ?_
                            case hy4 => (intro W hW; clear hW; go_simp; try rfl)
                            simp only [Go.Proofs.YtkbbegbpkndebaaGreat.ly]
                            refine tkI 4 111 ?v5 rfl rfl hS0 ?hy5 ?_
                            case hy5 => (intro W hW; have e0 := bcell hW a4; have e1 := bcell hW b4; have e2 := bcell hW x0; have e3 := bcell hW y0; clear hW; go_simp; try rfl)
                            simp only [Go.Proofs.YtkbbegbpkndebaaGreat.ly]
                            refine tkI 5 112 ?v6 rfl rfl hS0 ?hy6 ?_
                            case hy6 => (intro W hW; clear hW; go_simp; try rfl)
                            simp only [Go.Proofs.YtkbbegbpkndebaaGreat.ly]
                            refine tkI 6 113 ?v7 rfl rfl hS0 ?hy7 ?_
                            case hy7 => (intro W hW; have e0 := bcell hW a4; have e1 := bcell hW b4; have e2 := bcell hW x0; have e3 := bcell hW y0; clear hW; go_simp; try rfl)
                            simp only [Go.Proofs.YtkbbegbpkndebaaGreat.ly]
                            refine tkI 7 114 ?v8 rfl rfl hS0 ?hy8 ?_
                            case hy8 => (intro W hW; clear hW; go_simp; try rfl)
                            simp only [Go.Proofs.YtkbbegbpkndebaaGreat.ly]
                            refine tkI 8 115 ?v9 rfl rfl hS0 ?hy9 ?_
                            case hy9 => (intro W hW; clear hW; go_simp; try rfl)
                            simp only [Go.Proofs.YtkbbegbpkndebaaGreat.ly]
                            refine tkI 9 116 ?v10 rfl rfl hS0 ?hy10 ?_
                            case hy10 => (intro W hW; have e0 := bcell hW a4; have e1 := bcell hW b4; have e2 := bcell hW x0; have e3 := bcell hW y0; clear hW; go_simp; try rfl)
                            simp only [Go.Proofs.YtkbbegbpkndebaaGreat.ly]
                            refine wpAnyH_ready (rs := [10]) (by kernel_rfl) (by simp) ?_
                            refine AllReadyH.cons rfl (fun K hK => ?_) AllReadyH.nil
                            go_simp
                            refine (Same12_ref px nx cx lx py ny cy ly _ (HX1.out.below hS0) (HX2.out.below hS0)).mono ?_
                            rintro e wn ⟨rfl, hb⟩
                            rw [HD.out]
                            refine hK.out _ _ ?hs11 (fun hS1 => ?_)
                            case hs11 => exact bel_next hS0 hb
                            clear hK K hb
                            try simp only [Go.Proofs.YtkbbegbpkndebaaGreat.ly]
                            refine tkI 11 118 ?v12 rfl rfl hS1 ?hy12 ?_
                            case hy12 => (intro W hW; clear hW; go_simp; try rfl)
                            simp only [Go.Proofs.YtkbbegbpkndebaaGreat.ly]
                            refine wpAnyH_done (by kernel_rfl) ?_ _
                            go_wp2
                            go_roundw
                            case rel => exact ⟨k0 + 1, by omega, by go_num, HF2, (show Hid _ from bel_next HB.out hS1)⟩
                            case measure => simp [intOf]; omega
                          · have HD : Hid (decide (lx = ly) = false) := decide_eq_false he
                            have HNO : Hid (sameW r q = false) := by
                              unfold Hid
                              rw [sameW_no]
                              rintro rfl
                              rw [hx] at hy
                              cases hy
                              exact he rfl
                            clear hx hy hX hY he
                            go_upto_region 21 with fail
                            refine wp_region_held_drew (S := fun W => Below wr.heap.size wr W) (by kernel_rfl) ((Below.refl _ wr).drew) (fun hS0 => ?_)
                            refine tkI 0 107 ?v13 rfl rfl hS0 ?hy13 ?_
                            case hy13 => (intro W hW; clear hW; go_simp; try rfl)
                            simp only [Go.Proofs.YtkbbegbpkndebaaGreat.ly]
                            refine tkI 1 108 ?v14 rfl rfl hS0 ?hy14 ?_
                            case hy14 => (intro W hW; have e0 := bcell hW a4; have e1 := bcell hW b4; have e2 := bcell hW x0; have e3 := bcell hW y0; clear hW; go_simp; try rfl)
                            simp only [Go.Proofs.YtkbbegbpkndebaaGreat.ly]
                            refine tkI 2 109 ?v15 rfl rfl hS0 ?hy15 ?_
                            case hy15 => (intro W hW; clear hW; go_simp; try rfl)
                            simp only [Go.Proofs.YtkbbegbpkndebaaGreat.ly]
                            refine tkI 3 110 ?v16 rfl rfl hS0 ?hy16 ?_
                            case hy16 => (intro W hW; clear hW; go_simp; try rfl)
                            simp only [Go.Proofs.YtkbbegbpkndebaaGreat.ly]
                            refine tkI 4 111 ?v17 rfl rfl hS0 ?hy17 ?_
                            case hy17 => (intro W hW; have e0 := bcell hW a4; have e1 := bcell hW b4; have e2 := bcell hW x0; have e3 := bcell hW y0; clear hW; go_simp; try rfl)
                            simp only [Go.Proofs.YtkbbegbpkndebaaGreat.ly]
                            refine tkI 5 112 ?v18 rfl rfl hS0 ?hy18 ?_
                            case hy18 => (intro W hW; clear hW; go_simp; try rfl)
                            simp only [Go.Proofs.YtkbbegbpkndebaaGreat.ly]
                            refine tkI 6 113 ?v19 rfl rfl hS0 ?hy19 ?_
                            case hy19 => (intro W hW; have e0 := bcell hW a4; have e1 := bcell hW b4; have e2 := bcell hW x0; have e3 := bcell hW y0; clear hW; go_simp; try rfl)
                            simp only [Go.Proofs.YtkbbegbpkndebaaGreat.ly]
                            refine tkI 7 114 ?v20 rfl rfl hS0 ?hy20 ?_
                            case hy20 => (intro W hW; clear hW; go_simp; try rfl)
                            simp only [Go.Proofs.YtkbbegbpkndebaaGreat.ly]
                            refine tkI 8 115 ?v21 rfl rfl hS0 ?hy21 ?_
                            case hy21 => (intro W hW; clear hW; go_simp; try rfl)
                            simp only [Go.Proofs.YtkbbegbpkndebaaGreat.ly]
                            refine tkI 9 116 ?v22 rfl rfl hS0 ?hy22 ?_
                            case hy22 => (intro W hW; have e0 := bcell hW a4; have e1 := bcell hW b4; have e2 := bcell hW x0; have e3 := bcell hW y0; clear hW; go_simp; try rfl)
                            simp only [Go.Proofs.YtkbbegbpkndebaaGreat.ly]
                            refine wpAnyH_ready (rs := [10]) (by kernel_rfl) (by simp) ?_
                            refine AllReadyH.cons rfl (fun K hK => ?_) AllReadyH.nil
                            go_simp
                            refine (Same12_ref px nx cx lx py ny cy ly _ (HX1.out.below hS0) (HX2.out.below hS0)).mono ?_
                            rintro e wn ⟨rfl, hb⟩
                            rw [HD.out]
                            refine hK.out _ _ ?hs23 (fun hS1 => ?_)
                            case hs23 => exact bel_next hS0 hb
                            clear hK K hb
                            try simp only [Go.Proofs.YtkbbegbpkndebaaGreat.ly]
                            refine tkI 11 118 ?v24 rfl rfl hS1 ?hy24 ?_
                            case hy24 => (intro W hW; clear hW; go_simp; try rfl)
                            simp only [Go.Proofs.YtkbbegbpkndebaaGreat.ly]
                            refine wpAnyH_done (by kernel_rfl) ?_ _
                            go_wp2
                            go_ret
                            exact ⟨by rw [HNO.out]; rfl, bel_next HB0.out (bel_next HBW.out (bel_next HB.out hS1))⟩
                        · obtain rfl : k0 = n4 := by omega
                          have HE4 : Hid (r.2.2.2 = q.2.2.2) := by
                            have h := HF.out
                            rwa [List.take_of_length_le (by rw [HL4.out]; exact Nat.le_refl _), List.take_of_length_le (by rw [HM4.out]; exact Nat.le_refl _)] at h
                          clear HF
                          replace HBW := hide (bel_next HBW.out HB.out)
                          clear HB
                          generalize hww : wr = wC at *
                          clear hww
                          have HEQ : Hid (r = q) := Prod.ext HE1.out (Prod.ext HE2.out (Prod.ext HE3.out HE4.out))
                          go_wp2
                          go_ret
                          exact ⟨by rw [sameW_yes HEQ.out]; rfl, bel_next HB0.out HBW.out⟩
        · have HNO : Hid (sameW r q = false) := by
            unfold Hid
            rw [sameW_no]
            rintro rfl
            exact hn4 (HL4.out.symm.trans HM4.out)
          have hz4 : ¬ ((n4 : Int) = (m4 : Int)) := by omega
          have hy4 : ((n4 : Int) != (m4 : Int)) = true := by simpa using hz4
          go_enter Tryz.func20, Tryz.ntmps20
          go_wp2
          go_ret
          exact ⟨by rw [HNO.out]; rfl, HB0.out⟩
      · have HNO : Hid (sameW r q = false) := by
          unfold Hid
          rw [sameW_no]
          rintro rfl
          exact hn3 (HL3.out.symm.trans HM3.out)
        have hz3 : ¬ ((n3 : Int) = (m3 : Int)) := by omega
        have hy3 : ((n3 : Int) != (m3 : Int)) = true := by simpa using hz3
        go_enter Tryz.func20, Tryz.ntmps20
        go_wp2
        go_ret
        exact ⟨by rw [HNO.out]; rfl, HB0.out⟩
    · have HNO : Hid (sameW r q = false) := by
        unfold Hid
        rw [sameW_no]
        rintro rfl
        exact hn2 (HL2.out.symm.trans HM2.out)
      have hz2 : ¬ ((n2 : Int) = (m2 : Int)) := by omega
      have hy2 : ((n2 : Int) != (m2 : Int)) = true := by simpa using hz2
      go_enter Tryz.func20, Tryz.ntmps20
      go_wp2
      go_ret
      exact ⟨by rw [HNO.out]; rfl, HB0.out⟩
  · have HNO : Hid (sameW r q = false) := by
      unfold Hid
      rw [sameW_no]
      rintro rfl
      exact hn1 (HL1.out.symm.trans HM1.out)
    have hz1 : ¬ ((n1 : Int) = (m1 : Int)) := by omega
    have hy1 : ((n1 : Int) != (m1 : Int)) = true := by simpa using hz1
    go_enter Tryz.func20, Tryz.ntmps20
    go_wp2
    go_ret
    exact ⟨by rw [HNO.out]; rfl, HB0.out⟩
end Go.Proofs.YtkbbegbpkndebaaGreat

