/- Texts of this claim, joined: Z15, H13, HP4. -/
import Derived.Shelf.Spec.SlicesInsert
import Derived.Lib.AppendZerosOnto
import Derived.Laws.NewBlocks
import Derived.Laws.CopyRow
import Derived.Test.YtkbbegbpkndebaaGreatJ10
import Derived.Test.YtkbbegbpkndebaaGreatJ11
import Derived.Test.YtkbbegbpkndebaaGreatJ13
import Derived.Test.YtkbbegbpkndebaaGreatJ14
import Derived.Test.YtkbbegbpkndebaaGreatJ20
import Derived.Test.YtkbbegbpkndebaaGreatJ28
import Derived.Test.YtkbbegbpkndebaaGreatJ29
import Derived.Test.YtkbbegbpkndebaaGreatJ30
import Derived.Test.YtkbbegbpkndebaaGreatJ8
/- What the program adds, drops, cleans, tells (layer 9). -/
namespace Go.Proofs.YtkbbegbpkndebaaGreat
open Go.RowKit Go.Lib
set_option linter.unusedVariables false
/-- A set without drops, or nothing. -/
def pl9 (s : List En) : List En := if mayS9 s = true then mapP plainF s else []
set_option maxHeartbeats 2000000 in
set_option maxRecDepth 2000 in
theorem Plain9_any (a : Option Addr) (n cap : Nat) (s : List En) (w : World) (hA : NSS w a n s) (hd : ∀ x ∈ s, x.2.1.length ≤ 900000 ∧ x.2.2.length ≤ 900000) : Calls Tryz.prog 76 #[.slice a n cap] w fun e w' => ∃ p cp, e = .returned (.slice p (pl9 s).length cp) ∧ NSS w' p (pl9 s).length (pl9 s) ∧ CP p (pl9 s).length cp ∧ Below w.heap.size w w' := by
  have HV := hide hA
  have HLEN := hide hA.len
  have HDD := hide hd
  clear hA hd
  have BB : Hid (Below w.heap.size w w) := Below.refl _ _
  rcases hx : mayS9 s with _ | _
  · have HC1 := hide (chk9_no hx)
    have HE : Hid (pl9 s = []) := by unfold Hid pl9; rw [hx]; rfl
    clear hx
    rw [HE.out]
    go_enter Tryz.func76, Tryz.ntmps76
    go_wp2_with (go_at_call 125; refine (chk9_any a n cap s _ (HV.out.below BB.out)).mono ?_; rintro e w1 ⟨rfl, hb⟩; rw [HC1.out]; replace BB := hide (bel_next BB.out hb); clear hb)
    go_ret
    exact ⟨none, 0, rfl, NSS.nil _ _, ⟨Nat.le_refl _, by decide, fun _ => rfl⟩, BB.out⟩
  · have HC1 := hide (chk9_yes hx)
    have HE : Hid (pl9 s = mapP plainF s) := by unfold Hid pl9; rw [if_pos hx]
    have hn4 : n ≤ 4000 := by rw [← HLEN.out]; exact (mayS9_iff.1 hx).2.2
    clear hx
    rw [HE.out]
    go_enter Tryz.func76, Tryz.ntmps76
    go_wp2_with (first | (go_at_call 125; refine (chk9_any a n cap s _ (HV.out.below BB.out)).mono ?_; rintro e w1 ⟨rfl, hb⟩; rw [HC1.out]; replace BB := hide (bel_next BB.out hb); clear hb) | (go_at_call 138; refine (eachP9_any a n cap s _ (HV.out.below BB.out) hn4 HDD.out).mono ?_; rintro e w3 ⟨v3, rfl, ho3, hb⟩; obtain ⟨p3, c3, rfl, hn3, hc3⟩ := ho3.open; have HN3 := hide hn3; have HC3 := hide hc3; replace BB := hide (bel_next BB.out hb); clear hb ho3 hn3 hc3))
    go_ret
    exact ⟨p3, c3, rfl, HN3.out, HC3.out, BB.out⟩
end Go.Proofs.YtkbbegbpkndebaaGreat

/- The document's Plain and Clean of layer 13. -/
namespace Go.Proofs.YtkbbegbpkndebaaGreat
open Go.RowKit Go.Lib
set_option linter.unusedVariables false
/-- Raw of which the first k sets in which a drop holds are turned. -/
def fmW (f : List En → List En) (kd : Kd) (r : Rw) (k : Nat) : Rw := (r.1.mapIdx (fun i s => if decide (i < k) && rK kd i then f s else s), r.2)
theorem fmW_zero (f : List En → List En) (kd : Kd) (r : Rw) : fmW f kd r 0 = r := by
  unfold fmW
  rw [mapIdx_id (fun i x _ => by simp)]
theorem fmW_skip {f : List En → List En} {kd : Kd} {r : Rw} {k : Nat} (h : rK kd k = false) : fmW f kd r (k + 1) = fmW f kd r k := by
  unfold fmW
  congr 2
  funext i s
  by_cases e : i = k
  · subst e; rw [h]; simp
  · have : (i < k + 1) = (i < k) := by apply propext; omega
    simp only [this]
theorem fmW_at {f : List En → List En} {kd : Kd} {r : Rw} {k : Nat} {l : List En} (h : (fmW f kd r k).1[k]? = some l) : r.1[k]? = some l := by
  unfold fmW at h
  simp only [List.getElem?_mapIdx] at h
  rcases hx : r.1[k]? with _ | x
  · rw [hx] at h; cases h
  · rw [hx] at h; simpa using h
theorem fmW_next {f : List En → List En} {kd : Kd} {r : Rw} {k : Nat} {l : List En} (h : rK kd k = true) (hl : r.1[k]? = some l) : fmW f kd r (k + 1) = ((fmW f kd r k).1.set k (f l), (fmW f kd r k).2.1, (fmW f kd r k).2.2.1, (fmW f kd r k).2.2.2) := by
  have : (fmW f kd r (k + 1)).1 = (fmW f kd r k).1.set k (f l) := by
    unfold fmW
    apply List.ext_getElem?
    intro i
    simp only [List.getElem?_mapIdx, List.getElem?_set, List.length_mapIdx]
    by_cases e : k = i
    · subst e
      have := (List.getElem?_eq_some_iff.1 hl).1
      rw [if_pos rfl, if_pos this, hl]
      simp only [Option.map_some, Option.some.injEq]
      rw [decide_eq_true (by omega), Bool.true_and, if_pos h]
    · rw [if_neg e]
      have : (i < k + 1) = (i < k) := by apply propext; omega
      simp only [this]
  exact Prod.ext this rfl
theorem fmW_end {f : List En → List En} {kd : Kd} {r : Rw} {k : Nat} (h : r.1.length = k) : fmW f kd r k = (r.1.mapIdx (fun i s => if rK kd i = true then f s else s), r.2) := by
  unfold fmW
  congr 1
  apply List.ext_getElem?
  intro i
  simp only [List.getElem?_mapIdx]
  rcases hx : r.1[i]? with _ | x
  · rfl
  · have := (List.getElem?_eq_some_iff.1 hx).1
    simp only [Option.map_some]
    rw [decide_eq_true (by omega), Bool.true_and]
theorem OO.block1 {N : Nat} {w : World} {g : Nat} {n1 c1 : Nat} {p2 : Option Addr} {n2 c2 : Nat} {p3 : Option Addr} {n3 c3 : Nat} {p4 : Option Addr} {n4 c4 : Nat} {r : Rw} (h : OO N w (some ⟨g, 0, none⟩) n1 c1 p2 n2 c2 p3 n3 c3 p4 n4 c4 r) : ∃ C, BX w g C 74 ∧ SlC C := by
  obtain ⟨hs1, hs2, hs3, hs4, k1, k2⟩ := h
  exact k1.o1.2 g (by simp [Value.ownBlock])
theorem SlC.four (p1 : Option Addr) (n1 c1 : Nat) (p2 : Option Addr) (n2 c2 : Nat) (p3 : Option Addr) (n3 c3 : Nat) (p4 : Option Addr) (n4 c4 : Nat) : SlC #[.slice p1 n1 c1, .slice p2 n2 c2, .slice p3 n3 c3, .slice p4 n4 c4] := by
  intro i x hx
  rcases i with _ | _ | _ | _ | i
  · simp at hx; exact ⟨_, _, _, hx.symm⟩
  · simp at hx; exact ⟨_, _, _, hx.symm⟩
  · simp at hx; exact ⟨_, _, _, hx.symm⟩
  · simp at hx; exact ⟨_, _, _, hx.symm⟩
  · simp at hx
theorem BX.ty {w : World} {g : Nat} {C C' : Array Value} {t t' : TypeId} (h : BX w g C t) (h' : BX w g C' t') : t = t' := by
  unfold BX at h h'
  rw [h] at h'
  simp at h'
  exact h'.2
theorem BX.slb {w : World} {g : Nat} {C : Array Value} {t : TypeId} (h : BX w g C t) (hC : SlC C) : SlB g w := by
  intro q x hx hq
  by_cases hc : ∃ i : Nat, C[i]? = some x
  · obtain ⟨i, hi⟩ := hc
    exact hC i x hi
  · exact absurd hq (h.ne hx (fun i e => hc ⟨i, e⟩))
/-- Raw of the call's own, where a cell of raw is written whole. -/
theorem OO.put4 {N : Nat} {w : World} {p1 : Option Addr} {n1 c1 : Nat} {p2 : Option Addr} {n2 c2 : Nat} {p3 : Option Addr} {n3 c3 : Nat} {p4 : Option Addr} {n4 c4 : Nat} {r : Rw} (h : OO N w p1 n1 c1 p2 n2 c2 p3 n3 c3 p4 n4 c4 r) {g : Nat} {a1 : Option Addr} {b1 e1 : Nat} {a2 : Option Addr} {b2 e2 : Nat} {a3 : Option Addr} {b3 e3 : Nat} {a4 : Option Addr} {b4 e4 : Nat} {t : TypeId} (hx : BX w g #[.slice a1 b1 e1, .slice a2 b2 e2, .slice a3 b3 e3, .slice a4 b4 e4] t) (h1 : 74 ≠ t) (h2 : 76 ≠ t) (h3 : 78 ≠ t) (h4 : 80 ≠ t) (u1 : Option Addr) (v1 m1 : Nat) (u2 : Option Addr) (v2 m2 : Nat) (u3 : Option Addr) (v3 m3 : Nat) (u4 : Option Addr) (v4 m4 : Nat) : OO N ((((w.setCell ⟨g, 0, none⟩ (.slice u1 v1 m1)).setCell ⟨g, 1, none⟩ (.slice u2 v2 m2)).setCell ⟨g, 2, none⟩ (.slice u3 v3 m3)).setCell ⟨g, 3, none⟩ (.slice u4 v4 m4)) p1 n1 c1 p2 n2 c2 p3 n3 c3 p4 n4 c4 r := by
  have x1 : BX _ g #[.slice u1 v1 m1, .slice a2 b2 e2, .slice a3 b3 e3, .slice a4 b4 e4] t := hx.set 0 (.slice u1 v1 m1)
  have x2 : BX _ g #[.slice u1 v1 m1, .slice u2 v2 m2, .slice a3 b3 e3, .slice a4 b4 e4] t := x1.set 1 (.slice u2 v2 m2)
  have x3 : BX _ g #[.slice u1 v1 m1, .slice u2 v2 m2, .slice u3 v3 m3, .slice a4 b4 e4] t := x2.set 2 (.slice u3 v3 m3)
  exact (((h.put hx h1 h2 h3 h4 (hx.slb (SlC.four _ _ _ _ _ _ _ _ _ _ _ _)) 0 _).put x1 h1 h2 h3 h4 (x1.slb (SlC.four _ _ _ _ _ _ _ _ _ _ _ _)) 1 _).put x2 h1 h2 h3 h4 (x2.slb (SlC.four _ _ _ _ _ _ _ _ _ _ _ _)) 2 _).put x3 h1 h2 h3 h4 (x3.slb (SlC.four _ _ _ _ _ _ _ _ _ _ _ _)) 3 _
end Go.Proofs.YtkbbegbpkndebaaGreat

/- copyRaw of layer 13 (the program). -/
namespace Go.Proofs.YtkbbegbpkndebaaGreat
open Go.RowKit Go.Lib
set_option linter.unusedVariables false
/-- Raw that is not too great to be copied. -/
structure SzW (r : Rw) : Prop where
  s : ∀ l ∈ r.1, l.length ≤ 100000 ∧ ∀ x ∈ l, x.2.1.length ≤ 1000000 ∧ x.2.2.length ≤ 1000000
  t : ∀ l ∈ r.2.1, l.length ≤ 100000
  a : ∀ l ∈ r.2.2.1, l.length ≤ 100000
  g : ∀ l ∈ r.2.2.2, l.length ≤ 100000
/-- What is held: the box of raw, and the cell of the result, which has slices. -/
def SD (w : World) (gB gR : Nat) (C : Array Value) (T T' : TypeId) (W : World) : Prop := Below w.heap.size w W ∧ BX W gB C T ∧ ∃ p1 n1 c1 p2 n2 c2 p3 n3 c3 p4 n4 c4, BX W gR #[.slice p1 n1 c1, .slice p2 n2 c2, .slice p3 n3 c3, .slice p4 n4 c4] T'
theorem SD.next {w : World} {gB gR : Nat} {C : Array Value} {T T' : TypeId} {W W' : World} (h : SD w gB gR C T T' W) (hb : Below W.heap.size W W') : SD w gB gR C T T' W' := by
  obtain ⟨h1, h2, p1, n1, c1, p2, n2, c2, p3, n3, c3, p4, n4, c4, h3⟩ := h
  exact ⟨bel_next h1 hb, h2.below hb, p1, n1, c1, p2, n2, c2, p3, n3, c3, p4, n4, c4, h3.below hb⟩
theorem SD.put {w : World} {gB gR : Nat} {C : Array Value} {T T' : TypeId} {W : World} (h : SD w gB gR C T T' W) (hne : gR ≠ gB) (hge : w.heap.size ≤ gR) (p1 : Option Addr) (n1 c1 : Nat) (p2 : Option Addr) (n2 c2 : Nat) (p3 : Option Addr) (n3 c3 : Nat) (p4 : Option Addr) (n4 c4 : Nat) : SD w gB gR C T T' ((((W.setCell ⟨gR, 0, none⟩ (.slice p1 n1 c1)).setCell ⟨gR, 1, none⟩ (.slice p2 n2 c2)).setCell ⟨gR, 2, none⟩ (.slice p3 n3 c3)).setCell ⟨gR, 3, none⟩ (.slice p4 n4 c4)) := by
  obtain ⟨h1, h2, _, _, _, _, _, _, _, _, _, _, _, _, h3⟩ := h
  refine ⟨(((h1.setCell (p := ⟨gR, 0, none⟩) hge _).setCell (p := ⟨gR, 1, none⟩) hge _).setCell (p := ⟨gR, 2, none⟩) hge _).setCell (p := ⟨gR, 3, none⟩) hge _, (((h2.other hne 0 _).other hne 1 _).other hne 2 _).other hne 3 _, p1, n1, c1, p2, n2, c2, p3, n3, c3, p4, n4, c4, h3.put4 _ _ _ _⟩
set_option maxRecDepth 2000 in
set_option maxHeartbeats 8000000 in
theorem copyRaw13 (p1 : Option Addr) (n1 c1 : Nat) (p2 : Option Addr) (n2 c2 : Nat) (p3 : Option Addr) (n3 c3 : Nat) (p4 : Option Addr) (n4 c4 : Nat) (r : Rw) (w : World) (hR : RM w p1 n1 c1 p2 n2 c2 p3 n3 c3 p4 n4 c4 r) (hn : n1 ≤ 1000 ∧ n2 ≤ 1000 ∧ n3 ≤ 1000 ∧ n4 ≤ 1000) (hz : SzW r) : Calls Tryz.prog 50 #[.agg #[.slice p1 n1 c1, .slice p2 n2 c2, .slice p3 n3 c3, .slice p4 n4 c4]] w fun e w' => ∃ q1 d1 q2 d2 q3 d3 q4 d4, e = .returned (.agg #[.slice q1 n1 d1, .slice q2 n2 d2, .slice q3 n3 d3, .slice q4 n4 d4]) ∧ OO w.heap.size w' q1 n1 d1 q2 n2 d2 q3 n3 d3 q4 n4 d4 r ∧ Below w.heap.size w w' := by
  have HR := hide hR
  have HZ := hide hz
  have HS0 : Hid (SD w w.heap.size (w.heap.size + 1) #[.slice p1 n1 c1, .slice p2 n2 c2, .slice p3 n3 c3, .slice p4 n4 c4] 31 31 ((w.alloc (.cells #[.slice p1 n1 c1, .slice p2 n2 c2, .slice p3 n3 c3, .slice p4 n4 c4] 31)).alloc (.cells #[.slice none 0 0, .slice none 0 0, .slice none 0 0, .slice none 0 0] 31))) := ⟨bel2 _ _ _, (BX.new w _ rfl _ _).alloc _, none, 0, 0, none, 0, 0, none, 0, 0, none, 0, 0, BX.new (w.alloc (.cells #[.slice p1 n1 c1, .slice p2 n2 c2, .slice p3 n3 c3, .slice p4 n4 c4] 31)) _ (by simp) _ _⟩
  have hne : w.heap.size + 1 ≠ w.heap.size := by omega
  have hge : w.heap.size ≤ w.heap.size + 1 := by omega
  clear hR hz
  go_enter Tryz.func50, Tryz.ntmps50
  go_wp2
  generalize (w.alloc (.cells #[.slice p1 n1 c1, .slice p2 n2 c2, .slice p3 n3 c3, .slice p4 n4 c4] 31)).alloc (.cells #[.slice none 0 0, .slice none 0 0, .slice none 0 0, .slice none 0 0] 31) = u at *
  refine wp_region_held_drew (S := SD w w.heap.size (w.heap.size + 1) #[.slice p1 n1 c1, .slice p2 n2 c2, .slice p3 n3 c3, .slice p4 n4 c4] 31 31) (by kernel_rfl) (SD.next HS0.out (Below.refl _ _).drew) (fun hS0 => ?_)
  refine tkI 0 3 ?v1 rfl rfl hS0 ?hy1 ?_
  case hy1 => (intro W hW; clear hW; go_simp; try rfl)
  simp only [ly]
  refine tkI 1 4 ?v2 rfl rfl hS0 ?hy2 ?_
  case hy2 => (intro W hW; have e0 := hW.2.1.cell 0 _ rfl; have e1 := hW.2.1.cell 1 _ rfl; have e2 := hW.2.1.cell 2 _ rfl; have e3 := hW.2.1.cell 3 _ rfl; clear hW; go_simp; try rfl)
  simp only [ly]
  refine tkI 3 6 ?v3 rfl rfl hS0 ?hy3 ?_
  case hy3 => (intro W hW; clear hW; go_simp; try rfl)
  simp only [ly]
  refine tkI 4 7 ?v4 rfl rfl hS0 ?hy4 ?_
  case hy4 => (intro W hW; have e0 := hW.2.1.cell 0 _ rfl; have e1 := hW.2.1.cell 1 _ rfl; have e2 := hW.2.1.cell 2 _ rfl; have e3 := hW.2.1.cell 3 _ rfl; clear hW; go_simp; try rfl)
  simp only [ly]
  refine tkI 6 9 ?v5 rfl rfl hS0 ?hy5 ?_
  case hy5 => (intro W hW; clear hW; go_simp; try rfl)
  simp only [ly]
  refine tkI 7 10 ?v6 rfl rfl hS0 ?hy6 ?_
  case hy6 => (intro W hW; have e0 := hW.2.1.cell 0 _ rfl; have e1 := hW.2.1.cell 1 _ rfl; have e2 := hW.2.1.cell 2 _ rfl; have e3 := hW.2.1.cell 3 _ rfl; clear hW; go_simp; try rfl)
  simp only [ly]
  refine tkI 9 12 ?v7 rfl rfl hS0 ?hy7 ?_
  case hy7 => (intro W hW; clear hW; go_simp; try rfl)
  simp only [ly]
  refine tkI 10 13 ?v8 rfl rfl hS0 ?hy8 ?_
  case hy8 => (intro W hW; have e0 := hW.2.1.cell 0 _ rfl; have e1 := hW.2.1.cell 1 _ rfl; have e2 := hW.2.1.cell 2 _ rfl; have e3 := hW.2.1.cell 3 _ rfl; clear hW; go_simp; try rfl)
  simp only [ly]
  refine wpAnyH_ready (rs := [2]) (by kernel_rfl) (by simp) ?_
  refine AllReadyH.cons rfl (fun K hK => ?_) AllReadyH.nil
  go_simp
  refine (copySets13 p1 n1 c1 r.1 _ (HR.out.s.below kept_ent hS0.1) hn.1 HZ.out.s).mono ?_
  rintro e w1 ⟨q1, d1, hs1, rfl, ho, hr, hb⟩
  have O1 := hide (OH.mono ho hS0.1.size)
  have E1 := hide hr
  clear ho hr
  refine hK.out _ _ ?hs9 (fun hS1 => ?_)
  case hs9 => exact SD.next hS0 hb
  clear hK K
  try simp only [ly]
  refine wpAnyH_ready (rs := [5]) (by kernel_rfl) (by simp) ?_
  refine AllReadyH.cons rfl (fun K hK => ?_) AllReadyH.nil
  go_simp
  refine (copyLC p2 n2 c2 r.2.1 _ (HR.out.t.below kept_cel hS1.1) hn.2.1 HZ.out.t).mono ?_
  rintro e w2 ⟨q2, d2, hs2, rfl, ho, hr, _, hb⟩
  have O2 := hide (OH.mono ho hS1.1.size)
  have E2 := hide hr
  clear ho hr
  replace O1 := hide (O1.out.below hb)
  replace E1 := hide (E1.out.below kept_ent hb)
  refine hK.out _ _ ?hs10 (fun hS2 => ?_)
  case hs10 => exact SD.next hS1 hb
  clear hK K
  try simp only [ly]
  refine wpAnyH_ready (rs := [8]) (by kernel_rfl) (by simp) ?_
  refine AllReadyH.cons rfl (fun K hK => ?_) AllReadyH.nil
  go_simp
  refine (copyLA p3 n3 c3 r.2.2.1 _ (HR.out.a.below kept_acc hS2.1) hn.2.2.1 HZ.out.a).mono ?_
  rintro e w3 ⟨q3, d3, hs3, rfl, ho, hr, _, hb⟩
  have O3 := hide (OH.mono ho hS2.1.size)
  have E3 := hide hr
  clear ho hr
  replace O1 := hide (O1.out.below hb)
  replace E1 := hide (E1.out.below kept_ent hb)
  replace O2 := hide (O2.out.below hb)
  replace E2 := hide (E2.out.below kept_cel hb)
  refine hK.out _ _ ?hs11 (fun hS3 => ?_)
  case hs11 => exact SD.next hS2 hb
  clear hK K
  try simp only [ly]
  refine wpAnyH_ready (rs := [11]) (by kernel_rfl) (by simp) ?_
  refine AllReadyH.cons rfl (fun K hK => ?_) AllReadyH.nil
  go_simp
  refine (copyLN p4 n4 c4 r.2.2.2 _ (HR.out.g.below kept_not hS3.1) hn.2.2.2 HZ.out.g).mono ?_
  rintro e w4 ⟨q4, d4, hs4, rfl, ho, hr, _, hb⟩
  have O4 := hide (OH.mono ho hS3.1.size)
  have E4 := hide hr
  clear ho hr
  replace O1 := hide (O1.out.below hb)
  replace E1 := hide (E1.out.below kept_ent hb)
  replace O2 := hide (O2.out.below hb)
  replace E2 := hide (E2.out.below kept_cel hb)
  replace O3 := hide (O3.out.below hb)
  replace E3 := hide (E3.out.below kept_acc hb)
  refine hK.out _ _ ?hs12 (fun hS4 => ?_)
  case hs12 => exact SD.next hS3 hb
  clear hK K
  try simp only [ly]
  refine tkI 12 15 ?v13 rfl rfl hS4 ?hy13 ?_
  case hy13 => (intro W hW; clear hW; go_simp; try rfl)
  simp only [ly]
  refine wpAnyH_ready (rs := [13]) (by kernel_rfl) (by simp) ?_
  refine AllReadyH.cons rfl (fun K hK => ?_) AllReadyH.nil
  obtain ⟨a1, b1, e1, a2, b2, e2, a3, b3, e3, a4, b4, e4, hXR⟩ := hS4.2.2
  have f0 := hXR.cell 0 _ rfl
  have f1 := hXR.cell 1 _ rfl
  have f2 := hXR.cell 2 _ rfl
  have f3 := hXR.cell 3 _ rfl
  have z0 := hXR.free 0
  have z1 := hXR.free 1
  have z2 := hXR.free 2
  have z3 := hXR.free 3
  go_simp
  refine hK.out _ _ ?hs14 (fun hS5 => ?_)
  case hs14 => exact SD.put hS4 hne hge q1 n1 d1 q2 n2 d2 q3 n3 d3 q4 n4 d4
  clear hK K
  try simp only [ly]
  refine wpAnyH_done (by kernel_rfl) ?_ _
  have hY := hXR.put4 (.slice q1 n1 d1) (.slice q2 n2 d2) (.slice q3 n3 d3) (.slice q4 n4 d4)
  have HOO : Hid (OO w.heap.size w4 q1 n1 d1 q2 n2 d2 q3 n3 d3 q4 n4 d4 r) := ⟨hs1, hs2, hs3, hs4, ⟨O1.out, O2.out, O3.out, O4.out⟩, ⟨E1.out, E2.out, E3.out, E4.out⟩⟩
  have HOP := hide (OO.put4 HOO.out hXR (by decide) (by decide) (by decide) (by decide) q1 n1 d1 q2 n2 d2 q3 n3 d3 q4 n4 d4)
  go_wp2
  refine bodyPost_ret (results_cell_row rfl _ _ _ _ _ _ _ rfl hY Tryz.underlying31 rfl (by kernel_rfl)) rfl ?_
  exact ⟨q1, d1, q2, d2, q3, d3, q4, d4, rfl, HOP.out, hS5.1⟩
end Go.Proofs.YtkbbegbpkndebaaGreat

