/- Texts of this claim, joined: A5. -/
import Derived.Test.YtkbbegbpkndebaaGreatJ7
/- The dots that a clock has not (layer 8). -/
namespace Go.Proofs.YtkbbegbpkndebaaGreat
open Go.RowKit Go.Lib
set_option linter.unusedVariables false
def CK (w : World) (h : Nat) (c : List Int) : Prop := ∃ pa na ca, BX w h #[.slice pa na ca] 35 ∧ NS w pa na c
theorem CK.below {w w' : World} {h : Nat} {c : List Int} (k : CK w h c) (hb : Below w.heap.size w w') : CK w' h c := by
 obtain ⟨pa, na, ca, k1, k2⟩ := k
 exact ⟨pa, na, ca, k1.below hb, k2.below hb⟩
def knw (c : List Int) (d : Dot) : Bool := decide (d.2 ≤ getZ c d.1)
def IdxP (c : List Int) (l : List Dot) (n : Nat) (z : Int) : Prop := (z = -1 ∧ ∀ d ∈ l, knw c d = false) ∨ ∃ (k : Nat) (d : Dot), z = k ∧ k < n ∧ l[k]? = some d ∧ knw c d = true ∧ ∀ x ∈ l.take k, knw c x = false
theorem leftD_is (l : List Dot) (c : List Int) : leftD l c = l.filter (fun d => !knw c d) := by
 unfold leftD
 congr 1
 funext d
 rw [Bool.eq_iff_iff]
 simp [knw]
set_option maxHeartbeats 1000000 in
theorem unknown1_any (r s : Int) (h : Nat) (c : List Int) (w : World) (hc : CK w h c) : Calls Tryz.prog 219 #[.agg #[.int .i64 r, .int .i64 s], .pointer (some ⟨h, 0, none⟩)] w fun e w' => e = .returned (.bool (knw c (r, s))) ∧ Below w.heap.size w w' := by
 obtain ⟨pa, na, ca, hbx, hN⟩ := hc
 go_enter Tryz.func219, Tryz.ntmps219
 go_upto_region 1 with fail
 have HB := hide (bel1 w (.cells #[.int .i64 r, .int .i64 s] 33))
 have d0 := cell_new w #[.int .i64 r, .int .i64 s] 33 _ rfl 0 _ rfl
 have d1 := cell_new w #[.int .i64 r, .int .i64 s] 33 _ rfl 1 _ rfl
 have p0 := bcell HB.out (hbx.cell 0 _ rfl)
 have HN := hide (hN.below HB.out)
 clear hbx hN
 generalize hgb : w.heap.size = gb at d0 d1 ⊢
 generalize w.alloc (.cells #[.int .i64 r, .int .i64 s] 33) = u at *
 rw [← hgb]
 rw [← hgb] at d0 d1
 clear hgb
 refine wp_region_held_drew (S := fun W => Below u.heap.size u W) (by kernel_rfl) ((Below.refl _ u).drew) (fun hS0 => ?_)
 refine tkJ 0 4 hS0 ?_; simp only [ly]
 refine tkL 1 5 hS0 ?h ?_; case h => (intro W hW; have e0 := bcell hW d0; have e1 := bcell hW d1; have e2 := bcell hW p0; clear hW; go_simp; try rfl); simp only [ly]
 refine tkL 2 6 hS0 ?h ?_; case h => (intro W hW; have e0 := bcell hW d0; have e1 := bcell hW d1; have e2 := bcell hW p0; clear hW; go_simp; try rfl); simp only [ly]
 refine tkJ 3 7 hS0 ?_; simp only [ly]
 refine tkL 4 8 hS0 ?h ?_; case h => (intro W hW; have e0 := bcell hW d0; have e1 := bcell hW d1; have e2 := bcell hW p0; clear hW; go_simp; try rfl); simp only [ly]
 refine wpAnyH_ready (rs := [5]) (by kernel_rfl) (by simp) ?_
 refine AllReadyH.cons rfl (fun K hK => ?_) AllReadyH.nil
 go_simp
 refine (Get_any pa na ca c r _ (HN.out.below hS0)).mono ?_
 rintro e w' ⟨rfl, hb⟩
 refine hK.out _ _ ?hs6 (fun hS1 => ?_)
 case hs6 => exact bel_next hS0 hb
 clear hK K hb
 try simp only [ly]
 refine tkJ 6 10 hS1 ?_; simp only [ly]
 refine tkJ 7 3 hS1 ?_; simp only [ly]
 refine wpAnyH_done (by kernel_rfl) ?_ _
 go_wp2
 go_ret
 exact ⟨rfl, bel_next HB.out hS1⟩

set_option maxHeartbeats 1000000 in
theorem indexF_any (a : Option Addr) (n cap : Nat) (l : List Dot) (h : Nat) (c : List Int) (w : World) (hA : DS w a n l) (hc : CK w h c) : Calls Tryz.prog 236 #[.slice a n cap, .func (.func 219) #[] #[.pointer (some ⟨h, 0, none⟩)]] w fun e w' => (∃ z : Int, e = .returned (.int .i64 z) ∧ IdxP c l n z) ∧ Below w.heap.size w w' := by
 have HV := hide hA
 have HC := hide hc
 have HLEN := hide hA.1
 have hmx := hA.2.1
 unfold maxLen at hmx
 clear hA hc
 go_enter Tryz.func236, Tryz.ntmps236
 go_wp2
 go_loopw [8] (fun i wr => ∃ k : Nat, k ≤ n ∧ i = .int .i64 k ∧ Hid (∀ x ∈ l.take k, knw c x = false) ∧ Hid (Below w.heap.size w wr)) (fun i _ => n - (intOf i).toNat)
 case atStart => exact ⟨0, by omega, rfl, (fun x hx => by simp at hx), Below.refl _ _⟩
 case round =>
  obtain ⟨k, hk, rfl, HF, HB⟩ := hrel
  by_cases hlt : k < n
  ·obtain ⟨b, off, rfl⟩ := HV.out.addr (by omega)
   obtain ⟨r, s, hx, c0, c1⟩ := (HV.out.below HB.out).one k hlt
   have HX := hide hx
   have hk0 : (0 : Int) ≤ (k : Int) := by omega
   have hk1 : (k : Int) < (n : Int) := by omega
   have HK := hide (unknown1_any r s h c wr (HC.out.below HB.out))
   clear hx
   rcases hb : knw c (r, s) with _ | _
   ·rw [hb] at HK
    have HF2 : Hid (∀ x ∈ l.take (k + 1), knw c x = false) := by
     intro x hx
     rw [take_snocL HX.out] at hx
     rcases List.mem_append.1 hx with q | q
     ·exact HF.out x q
     ·simp at q; subst q; exact hb
    clear hb
    go_wp2_with (go_at_call 219; refine HK.out.mono ?_; rintro e w' ⟨rfl, hb⟩)
    go_roundw
    case rel => exact ⟨k + 1, by omega, by go_num, HF2, (show Hid _ from bel_next HB.out hb)⟩
    case measure => simp [intOf]; omega
   ·rw [hb] at HK
    have HF2 := hide hb
    clear hb
    go_wp2_with (go_at_call 219; refine HK.out.mono ?_; rintro e w' ⟨rfl, hb⟩)
    go_ret
    exact ⟨⟨_, rfl, .inr ⟨k, (r, s), rfl, hlt, HX.out, HF2.out, HF.out⟩⟩, bel_next HB.out hb⟩
  ·obtain rfl : k = n := by omega
   have HF2 : Hid (∀ d ∈ l, knw c d = false) := by have := HF.out; rwa [← HLEN.out, List.take_length] at this
   clear HF
   go_wp2
   go_ret
   exact ⟨⟨_, rfl, .inl ⟨rfl, HF2.out⟩⟩, HB.out⟩
/-! Rows of dots written in place -/
theorem OwnD.bx {N : Nat} {w : World} {g n cap : Nat} {l : List Dot} (h : OwnD N w (.slice (some ⟨g, 0, none⟩) n cap) l) : ∃ C, l.length = n ∧ N ≤ g ∧ BX w g C 33 ∧ n ≤ cap ∧ cap ≤ maxLen ∧ C.size = cap * 2 ∧ C.toList.take (n * 2) = flatD l := by
 obtain ⟨h1, h2⟩ := h
 rcases h2 with ⟨h2, _⟩ | ⟨g', cap', cur, h2, k1, k2, k3, k4, k5, k6⟩
 ·cases h2
 ·simp only [Value.slice.injEq, Option.some.injEq, Addr.mk.injEq, and_true] at h2
  obtain ⟨rfl, hn, rfl⟩ := h2
  exact ⟨cur, hn.symm, k1, k2, by omega, k4, k5, by rw [hn]; exact k6⟩
theorem OwnD.of {N : Nat} {w : World} {g n cap : Nat} {l : List Dot} {C : Array Value} (h0 : l.length = n) (h1 : N ≤ g) (h2 : BX w g C 33) (h3 : n ≤ cap) (h4 : cap ≤ maxLen) (h5 : C.size = cap * 2) (h6 : C.toList.take (n * 2) = flatD l) : OwnD N w (.slice (some ⟨g, 0, none⟩) n cap) l := by
 subst h0
 exact ⟨flatD_len l, .inr ⟨g, cap, C, rfl, h1, h2, h3, h4, h5, h6⟩⟩
theorem flatD_set (l : List Dot) (k : Nat) (r s : Int) (hk : k < l.length) : flatD (l.set k (r, s)) = ((flatD l).set (k * 2) (.int .i64 r)).set (k * 2 + 1) (.int .i64 s) := by
 apply List.ext_getElem?
 intro j
 by_cases hj : j < l.length * 2
 ·obtain ⟨i, hi, hjj⟩ : ∃ i, i < l.length ∧ (j = i * 2 ∨ j = i * 2 + 1) := ⟨j / 2, by omega, by omega⟩
  have q := flatD_get l i hi
  have q2 := flatD_get (l.set k (r, s)) i (by simpa using hi)
  by_cases e : i = k
  ·subst e
   have e2 : (l.set i (r, s)).getD i (0, 0) = (r, s) := by simp [List.getD_eq_getElem?_getD, hi]
   rw [e2] at q2
   rcases hjj with rfl | rfl
   ·rw [q2.1, List.getElem?_set_ne (by omega), List.getElem?_set_self (by rw [flatD_len]; omega)]
   ·rw [q2.2, List.getElem?_set_self (by rw [List.length_set, flatD_len]; omega)]
  ·have e2 : (l.set k (r, s)).getD i (0, 0) = l.getD i (0, 0) := by simp [List.getD_eq_getElem?_getD, Ne.symm e]
   rw [e2] at q2
   rcases hjj with rfl | rfl
   ·rw [q2.1, List.getElem?_set_ne (by omega), List.getElem?_set_ne (by omega), q.1]
   ·rw [q2.2, List.getElem?_set_ne (by omega), List.getElem?_set_ne (by omega), q.2]
 ·rw [List.getElem?_eq_none (by rw [flatD_len, List.length_set]; omega), List.getElem?_eq_none (by simp only [List.length_set, flatD_len]; omega)]
theorem flatD_take (l : List Dot) (k : Nat) (hk : k ≤ l.length) : flatD (l.take k) = (flatD l).take (k * 2) := by
 have e : flatD l = flatD (l.take k) ++ flatD (l.drop k) := by rw [← flatD_app, List.take_append_drop]
 have e2 : (flatD (l.take k)).length = k * 2 := by rw [flatD_len, List.length_take]; omega
 rw [e, ← e2, List.take_left]
theorem OwnD.setD {N : Nat} {w : World} {g n cap : Nat} {l : List Dot} (h : OwnD N w (.slice (some ⟨g, 0, none⟩) n cap) l) (k : Nat) (hk : k < n) (r s : Int) : OwnD N ((w.setCell ⟨g, k * 2, none⟩ (.int .i64 r)).setCell ⟨g, k * 2 + 1, none⟩ (.int .i64 s)) (.slice (some ⟨g, 0, none⟩) n cap) (l.set k (r, s)) := by
 obtain ⟨C, h0, h1, h2, h3, h4, h5, h6⟩ := h.bx
 refine OwnD.of (by rw [List.length_set, h0]) h1 ((h2.set (k * 2) (.int .i64 r)).set (k * 2 + 1) (.int .i64 s)) h3 h4 (by rw [Array.size_setIfInBounds, Array.size_setIfInBounds, h5]) ?_
 rw [flatD_set l k r s (by rw [h0]; exact hk), ← h6]
 simp only [Array.toList_setIfInBounds, List.take_set]
theorem BX.clear {g : Nat} {t : TypeId} : ∀ (vs : List Value) (o : Nat) (w : World) (C : Array Value), BX w g C t → ∃ C', BX (w.setCells g o vs) g C' t ∧ C'.size = C.size ∧ ∀ i, i < o → C'[i]? = C[i]?
 | [], _, _, C, h => ⟨C, h, rfl, fun _ _ => rfl⟩
 | v :: r, o, w, C, h => by
  obtain ⟨C', h1, h2, h3⟩ := BX.clear r (o + 1) _ _ (h.set o v)
  refine ⟨C', h1, by rw [h2, Array.size_setIfInBounds], fun i hi => ?_⟩
  rw [h3 i (by omega), Array.getElem?_setIfInBounds_ne (by omega)]
theorem OwnD.clear {N : Nat} {w : World} {g n cap : Nat} {l : List Dot} (h : OwnD N w (.slice (some ⟨g, 0, none⟩) n cap) l) (k : Nat) (hk : k ≤ n) (vs : List Value) : OwnD N (w.setCells g (k * 2) vs) (.slice (some ⟨g, 0, none⟩) k cap) (l.take k) := by
 obtain ⟨C, h0, h1, h2, h3, h4, h5, h6⟩ := h.bx
 obtain ⟨C', q1, q2, q3⟩ := BX.clear vs (k * 2) w C h2
 refine OwnD.of (by rw [List.length_take]; omega) h1 q1 (by omega) h4 (by rw [q2, h5]) ?_
 rw [flatD_take l k (by omega), ← h6, List.take_take, Nat.min_eq_left (by omega)]
 apply List.ext_getElem?
 intro i
 rw [List.getElem?_take, List.getElem?_take]
 split
 ·rename_i hi
  have := q3 i hi
  simpa using this
 ·rfl
theorem OwnD.hd {N : Nat} {w : World} {g n cap : Nat} {l : List Dot} (h : OwnD N w (.slice (some ⟨g, 0, none⟩) n cap) l) : HD w g l.toArray := by
 rcases h.row with ⟨_, h2⟩ | ⟨g', cap', h2, _, _, _, _, h3⟩
 ·cases h2
 ·simp only [Value.slice.injEq, Option.some.injEq, Addr.mk.injEq, and_true] at h2
  obtain ⟨rfl, _⟩ := h2
  exact h3
structure DelI (f : Dot → Bool) (l : List Dot) (j i : Nat) (d : List Dot) : Prop where
 len : d.length = l.length
 lt : i < j
 le : j ≤ l.length
 low : d.take i = (l.take j).filter f
 high : d.drop j = l.drop j
theorem DelI.get {f : Dot → Bool} {l : List Dot} {j i : Nat} {d : List Dot} (h : DelI f l j i d) : d[j]? = l[j]? := by
 have := congrArg (fun x => x[0]?) h.high
 simpa using this
theorem DelI.skip {f : Dot → Bool} {l : List Dot} {j i : Nat} {d : List Dot} (h : DelI f l j i d) {x : Dot} (hx : l[j]? = some x) (hf : f x = false) : DelI f l (j + 1) i d := by
 have hj := (List.getElem?_eq_some_iff.1 hx).1
 refine ⟨h.len, by have := h.lt; omega, by omega, ?_, ?_⟩
 ·rw [take_snocL hx, List.filter_append, h.low]; simp [hf]
 ·rw [← List.drop_drop, ← List.drop_drop, h.high]
theorem DelI.keep {f : Dot → Bool} {l : List Dot} {j i : Nat} {d : List Dot} (h : DelI f l j i d) {x : Dot} (hx : l[j]? = some x) (hf : f x = true) : DelI f l (j + 1) (i + 1) (d.set i x) := by
 have hj := (List.getElem?_eq_some_iff.1 hx).1
 have hl := h.lt
 have hn := h.len
 refine ⟨by rw [List.length_set, h.len], by omega, by omega, ?_, ?_⟩
 ·rw [take_snocL hx, List.filter_append, ← h.low]
  have : (d.set i x)[i]? = some x := List.getElem?_set_self (by omega)
  rw [take_snocL this, List.take_set_of_le (Nat.le_refl _)]
  simp [hf]
 ·rw [List.drop_set_of_lt (by omega), ← List.drop_drop, ← List.drop_drop, h.high]
theorem DelI.start {f : Dot → Bool} {l : List Dot} {k : Nat} {x : Dot} (hx : l[k]? = some x) (hf : f x = false) (ha : ∀ y ∈ l.take k, f y = true) : DelI f l (k + 1) k l := by
 have hk := (List.getElem?_eq_some_iff.1 hx).1
 refine ⟨rfl, by omega, by omega, ?_, rfl⟩
 rw [take_snocL hx, List.filter_append, List.filter_eq_self.2 ha]
 simp [hf]
set_option maxHeartbeats 2000000 in
set_option maxRecDepth 100000 in
theorem deleteF_any (N g n cap : Nat) (l : List Dot) (h : Nat) (c : List Int) (w0 w : World) (hA : OwnD N w (.slice (some ⟨g, 0, none⟩) n cap) l) (hc : CK w0 h c) (h0 : w0.heap.size ≤ N) (hb0 : Below w0.heap.size w0 w) (hn : n ≤ 1000000) : Calls Tryz.prog 220 #[.slice (some ⟨g, 0, none⟩) n cap, .func (.func 219) #[] #[.pointer (some ⟨h, 0, none⟩)]] w fun e w' => ∃ v, e = .returned v ∧ OwnD N w' v (leftD l c) ∧ Below N w w' := by
 obtain ⟨C, hln, hNg, hbx, hnc, hcm, _⟩ := hA.bx
 unfold maxLen at hcm
 have HV := hide hA
 have HC : Hid (∀ W, Below N w W → CK W h c) := fun W hW => hc.below (hb0.trans (hW.mono h0))
 have HNW : Hid (N ≤ w.heap.size) := by have := hbx.size; unfold Hid; omega
 have HNg := hide hNg
 have HLEN := hide hln
 have HIX := hide (indexF_any (some ⟨g, 0, none⟩) n cap l h c w hA.ds.1 (hc.below hb0))
 have HLL : Hid (leftD l c = l.filter (fun d => !knw c d)) := leftD_is l c
 clear hA hc hNg hln h0 hb0 hbx
 go_enter Tryz.func220, Tryz.ntmps220
 go_upto_region 2 with (go_at_call 236; refine HIX.out.mono ?_; rintro e w1 ⟨⟨z, rfl, hw⟩, hb1⟩)
 have HB1 : Hid (Below N w w1) := hb1.mono HNW.out
 have HV1 := hide (HV.out.below hb1)
 clear hb1 HIX HV
 rcases hw with ⟨rfl, hall⟩ | ⟨k, d, rfl, hkn, hkd, hkk, hkf⟩
 ·have HL : Hid (leftD l c = l) := by rw [HLL.out]; exact List.filter_eq_self.2 (fun x hx => by rw [hall x hx]; rfl)
  clear hall
  go_wp2
  go_ret
  exact ⟨_, rfl, by rw [HL.out]; exact HV1.out, HB1.out⟩
 ·have HI := hide (DelI.start (f := fun d => !knw c d) hkd (by simp [hkk]) (fun y hy => by simp [hkf y hy]))
  have hz : ((k : Int) == -1) = false := by
   rw [beq_eq_false_iff_ne]; omega
  clear hkd hkk hkf
  go_wp2
  go_loopw [5, 6] (fun vi vj wr => ∃ (i j : Nat) (d : List Dot), vi = .int .i64 i ∧ vj = .int .i64 j ∧ i < j ∧ j ≤ n ∧ Hid (OwnD N wr (.slice (some ⟨g, 0, none⟩) n cap) d) ∧ Hid (DelI (fun d => !knw c d) l j i d) ∧ Hid (Below N w wr)) (fun _ vj _ => n - (intOf vj).toNat)
  case atStart => exact ⟨k, k + 1, l, rfl, by go_num, by omega, by omega, HV1, HI, HB1⟩
  case round =>
   clear HV1 HI HB1
   obtain ⟨i, j, d, rfl, rfl, hij, hjn, HV, HI, HB⟩ := hrel
   by_cases hlt : j < n
   ·obtain ⟨r, s, hx, c0, c1⟩ := HV.out.ds.1.one j hlt
    simp only [Nat.zero_add] at c0 c1
    rw [HI.out.get] at hx
    have HX := hide hx
    have hj0 : (0 : Int) ≤ (j : Int) := by omega
    have hj1 : (j : Int) < (n : Int) := by omega
    have hi0 : (0 : Int) ≤ (i : Int) := by omega
    have hi1 : (i : Int) < (n : Int) := by omega
    have HBA : Hid (Below N w (wr.alloc (.cells #[.int .i64 r, .int .i64 s] 33))) := HB.out.alloc (Nat.le_trans HNW.out (HB.out.mono (Nat.zero_le _)).size) _
    have HVA := hide (HV.out.alloc (.cells #[.int .i64 r, .int .i64 s] 33))
    have HK := hide (unknown1_any r s h c _ (HC.out _ HBA.out))
    clear hx
    rcases hb : knw c (r, s) with _ | _
    ·rw [hb] at HK
     have HI2 := hide (HI.out.keep HX.out (by simp [hb]))
     clear hb HI
     have d0 := cell_new wr #[.int .i64 r, .int .i64 s] 33 _ rfl 0 _ rfl
     have d1 := cell_new wr #[.int .i64 r, .int .i64 s] 33 _ rfl 1 _ rfl
     go_upto_region 9 with (go_at_call 219; refine HK.out.mono ?_; rintro e w2 ⟨rfl, hb2⟩)
     replace d0 := bcell hb2 d0
     replace d1 := bcell hb2 d1
     have HV2 := hide (HVA.out.below hb2)
     have HB2 : Hid (Below N w w2) := HBA.out.trans (hb2.mono (Nat.le_trans HNW.out (HBA.out.mono (Nat.zero_le _)).size))
     clear hb2 HK HVA HBA HV HB c0 c1
     generalize wr.heap.size = gq at *
     have hq := HV2.out.hd i (by rw [List.size_toArray, HI2.out.len.symm.trans (List.length_set ..) |>.symm, HLEN.out]; omega)
     obtain ⟨q1, q2, q3, q4⟩ := hq
     have HV3 := hide (HV2.out.setD i (by omega) r s)
     have HB3 : Hid (Below N w ((w2.setCell ⟨g, i * 2, none⟩ (.int .i64 r)).setCell ⟨g, i * 2 + 1, none⟩ (.int .i64 s))) := (HB2.out.setCell (p := ⟨g, i * 2, none⟩) HNg.out _).setCell (p := ⟨g, i * 2 + 1, none⟩) HNg.out _
     clear HV2 HB2
     go_wp2
     go_roundw
     case rel => exact ⟨i + 1, j + 1, d.set i (r, s), by go_num, by go_num, by omega, by omega, HV3, HI2, HB3⟩
     case measure => simp [intOf]; omega
    ·rw [hb] at HK
     have HI2 := hide (HI.out.skip HX.out (by simp [hb]))
     clear hb HI
     go_wp2_with (go_at_call 219; refine HK.out.mono ?_; rintro e w2 ⟨rfl, hb2⟩)
     go_roundw
     case rel => exact ⟨i, j + 1, d, rfl, by go_num, by omega, by omega, (show Hid _ from HVA.out.below hb2), HI2, (show Hid _ from HBA.out.trans (hb2.mono (Nat.le_trans HNW.out (HBA.out.mono (Nat.zero_le _)).size)))⟩
     case measure => simp [intOf]; omega
   ·obtain rfl : j = n := by omega
    have hcl := fun ty => clear_dots wr g i j (cap - i) d.toArray (by rw [List.size_toArray, HI.out.len, HLEN.out]) HV.out.hd hij ty
    have HE : Hid (d.take i = leftD l c) := by
     have q := HI.out.low
     rw [← HLEN.out, List.take_length] at q
     exact q.trans HLL.out.symm
    have HVE := hide (HV.out.clear i (by omega) (List.replicate ((j - i) * 2) (.int .i64 0)))
    have HBE := hide (bel_setCells HNg.out (List.replicate ((j - i) * 2) (.int .i64 0)) (i * 2) wr HB.out)
    have hc1 : ¬ (cap = i) := by omega
    have hc2 : ¬ ((cap : Int) = (i : Int)) := by omega
    have hc3 : ((i : Int)) ≤ (j : Int) := by omega
    have hc4 : ((i : Int)) ≤ (cap : Int) := by omega
    clear HI HV HB
    go_wp2
    go_ret
    exact ⟨_, rfl, by rw [← HE.out]; exact HVE.out, HBE.out⟩
set_option maxHeartbeats 400000 in
set_option maxRecDepth 100000 in
theorem deleteF_none (h : Nat) (c : List Int) (w : World) (hc : CK w h c) : Calls Tryz.prog 220 #[.slice none 0 0, .func (.func 219) #[] #[.pointer (some ⟨h, 0, none⟩)]] w fun e w' => e = .returned (.slice none 0 0) ∧ Below w.heap.size w w' := by
 have HIX := hide (indexF_any none 0 0 [] h c w (DS.nil _ _) hc)
 go_enter Tryz.func220, Tryz.ntmps220
 go_upto_region 2 with (go_at_call 236; refine HIX.out.mono ?_; rintro e w1 ⟨⟨z, rfl, hw⟩, hb1⟩)
 obtain rfl : z = -1 := by
  rcases hw with ⟨h, _⟩ | ⟨k, d, _, hk, _⟩
  ·exact h
  ·omega
 clear hw
 go_wp2
 go_ret
 exact ⟨rfl, hb1⟩
set_option maxHeartbeats 1000000 in
set_option maxRecDepth 100000 in
theorem unknown_any (p : Option Addr) (n cap : Nat) (l : List Dot) (pa : Option Addr) (na ca : Nat) (c : List Int) (w : World) (hA : DS w p n l) (hN : NS w pa na c) (hn : n ≤ 1000000) : Calls Tryz.prog 195 #[.slice p n cap, .slice pa na ca] w fun e w' => ∃ v, e = .returned v ∧ OwnD w.heap.size w' v (leftD l c) ∧ Below w.heap.size w w' := by
 have HK : Hid (CK (w.alloc (.cells #[.slice pa na ca] 35)) w.heap.size c) := ⟨pa, na, ca, BX.new w _ rfl _ _, hN.alloc _⟩
 have HC := hide (cloneD_any p n cap l _ (hA.alloc (.cells #[.slice pa na ca] 35)) hn)
 have HBW := hide (bel1 w (.cells #[.slice pa na ca] 35))
 obtain rfl : l.length = n := hA.1
 clear hA hN
 go_enter Tryz.func195, Tryz.ntmps195
 go_wp2_with (first | (go_at_call 165; refine HC.out.mono ?_; rintro e w1 ⟨v, rfl, ho, hb1⟩; refine Stop.at ?_) | fail)
 unfold Stop
 have HO := hide ho
 have HB1 := hide hb1
 clear ho hb1 HC
 rcases HO.out.row with ⟨rfl, rfl⟩ | ⟨g, cp, rfl, hg1, hg2, hcp, hcm, _⟩
 ·have HD := hide (deleteF_none w.heap.size c w1 (HK.out.below HB1.out))
  go_wp2_with (go_at_call 220; refine HD.out.mono ?_; rintro e w2 ⟨rfl, hb2⟩)
  go_ret
  exact ⟨_, rfl, OwnD.nil _ _, bel_next HBW.out (bel_next HB1.out hb2)⟩
 ·have HD := hide (deleteF_any _ g l.length cp l w.heap.size c _ w1 HO.out HK.out (Nat.le_refl _) HB1.out (by omega))
  go_wp2_with (go_at_call 220; refine HD.out.mono ?_; rintro e w2 ⟨v2, rfl, ho2, hb2⟩)
  go_ret
  refine ⟨_, rfl, ho2.mono HBW.out.size, ?_⟩
  exact bel_next HBW.out (HB1.out.trans hb2)
end Go.Proofs.YtkbbegbpkndebaaGreat

