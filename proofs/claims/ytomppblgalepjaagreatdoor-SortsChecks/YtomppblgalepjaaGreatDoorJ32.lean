/- Texts of this claim, joined: OI, GWh. -/
import Derived.Test.YtomppblgalepjaaGreatDoorJ2
import Derived.Test.YtomppblgalepjaaGreatDoorJ26
import Derived.Test.YtomppblgalepjaaGreatDoorJ31
import Derived.Test.YtomppblgalepjaaGreatDoorJ5
/- An operation is seen (the program's, layer 16). -/
namespace Go.Proofs.YtomppblgalepjaaGreatDoor
open Go.RowKit Go.Lib
set_option linter.unusedVariables false
def lasI (v : Int) (f : Int → Int → Int) (l : List Dg) : Int → Int → Int := l.foldl (fun g d => setL16 g (srI d.1) d.2.1 v) f
theorem lasI_snoc (v : Int) (f : Int → Int → Int) (l : List Dg) (d : Dg) : lasI v f (l ++ [d]) = setL16 (lasI v f l) (srI d.1) d.2.1 v := by unfold lasI; rw [List.foldl_append]; rfl
theorem lasI_is (v : Int) (a b : Int) : ∀ (l : List Dg) (f : Int → Int → Int), (lasI v f l a b = v ∧ ∃ d ∈ l, srI d.1 = a ∧ d.2.1 = b) ∨ (lasI v f l a b = f a b ∧ ∀ d ∈ l, ¬ (srI d.1 = a ∧ d.2.1 = b))
 | [], f => .inr ⟨rfl, fun d h => by cases h⟩
 | x :: l, f => by
  have e : lasI v f (x :: l) = lasI v (setL16 f (srI x.1) x.2.1 v) l := rfl
  rw [e]
  rcases lasI_is v a b l (setL16 f (srI x.1) x.2.1 v) with ⟨h1, d, hd, h2⟩ | ⟨h1, h2⟩
  ·exact .inl ⟨h1, d, List.mem_cons_of_mem _ hd, h2⟩
  ·by_cases hx : srI x.1 = a ∧ x.2.1 = b
   ·refine .inl ⟨?_, x, List.mem_cons_self, hx⟩
    rw [h1]
    unfold setL16
    rw [if_pos ⟨hx.1.symm, hx.2.symm⟩]
   ·refine .inr ⟨?_, fun d hd => ?_⟩
    ·rw [h1]
     unfold setL16
     rw [if_neg (fun q => hx ⟨q.1.symm, q.2.symm⟩)]
    ·rcases List.mem_cons.1 hd with rfl | q
     ·exact hx
     ·exact h2 d q
theorem dgB_is (h : Int × Int × Int) (d : Dg) : (!decide (srI d.1 = 0) && hasB h (srI d.1) d.2.1 && amtB (srI d.1) d.2.2) = dgB h.1 h.2.1 h.2.2 d := by
 unfold dgB srI
 have hs : srt d.1 = 0 ∨ srt d.1 = 1 ∨ srt d.1 = 2 ∨ srt d.1 = 3 := by
  unfold srt
  split
  ·right; left; rfl
  ·split
   ·right; right; left; rfl
   ·split
    ·right; right; right; rfl
    ·left; rfl
 rcases hs with e | e | e | e <;> rw [e]
 ·have : inR d.2.1 0 = false := by unfold inR; exact decide_eq_false (by omega)
  simp [manyR, this]
 ·simp [manyR, hasB, amtB]
 ·simp [manyR, hasB, amtB]
 ·simp [manyR, hasB, amtB]
def okD (h : Int × Int × Int) (v : Int) (f : Int → Int → Int) (ds : List Dg) (i : Nat) : Bool := match ds[i]? with
 | some d => doS h v (lasI v f (ds.take i)) d
 | none => true
theorem okD_is {h : Int × Int × Int} {v : Int} {f : Int → Int → Int} {ds : List Dg} (hf : ∀ a b, f a b < v) (i : Nat) : okD h v f ds i = doB h.1 h.2.1 h.2.2 ds i := by
 unfold okD doB
 rcases hd : ds[i]? with _ | d
 ·rfl
 ·simp only
  unfold doS
  rw [dgB_is]
  congr 1
  rw [Bool.eq_iff_iff, Bool.not_eq_true', decide_eq_false_iff_not, allN_iff]
  have hi := (List.getElem?_eq_some_iff.1 hd).1
  constructor
  ·intro q j hj
   unfold twoB
   rw [List.getElem?_eq_getElem (by omega)]
   simp only [Bool.not_eq_true', Bool.and_eq_false_iff, decide_eq_false_iff_not]
   rcases lasI_is v (srI d.1) d.2.1 (ds.take i) f with ⟨h1, _⟩ | ⟨_, h2⟩
   ·exact absurd h1 q
   ·have h3 := h2 ds[j] (by rw [List.mem_take_iff_getElem]; exact ⟨j, by omega, rfl⟩)
    by_cases e : srt ds[j].1 = srt d.1
    ·right; exact fun e2 => h3 ⟨by unfold srI; rw [e], e2⟩
    ·left; exact e
  ·intro q e
   rcases lasI_is v (srI d.1) d.2.1 (ds.take i) f with ⟨_, x, hx, h1, h2⟩ | ⟨h1, _⟩
   ·rw [List.mem_take_iff_getElem] at hx
    obtain ⟨j, hj, rfl⟩ := hx
    have q2 := q j (by omega)
    unfold twoB at q2
    rw [List.getElem?_eq_getElem (by omega)] at q2
    simp only [Bool.not_eq_true', Bool.and_eq_false_iff, decide_eq_false_iff_not] at q2
    unfold srI at h1
    rcases q2 with q2 | q2
    ·exact q2 (by omega)
    ·exact q2 h2
   ·rw [h1] at e
    have := hf (srI d.1) d.2.1
    omega
theorem lasI_le {v : Int} {f : Int → Int → Int} (hf : ∀ a b, f a b ≤ v) (l : List Dg) : ∀ a b, lasI v f l a b ≤ v := fun a b => by
 rcases lasI_is v a b l f with ⟨h, _⟩ | ⟨h, _⟩
 ·omega
 ·rw [h]; exact hf a b
theorem allN_congr {n : Nat} {f g : Nat → Bool} (h : ∀ i, f i = g i) : allN n f = allN n g := by rw [funext h]
def opS (h : Int × Int × Int) (op : Int) (S : List ByteArray) (o : Op) : Bool := decide (op + 1 ≤ 16) && (nmS S o.1 && opB h.1 h.2.1 h.2.2 o.2)
set_option maxHeartbeats 4000000 in
theorem oper16 (D k : Nat) (h : Int × Int × Int) (t1 t2 t3 cl op : Int) (S : List ByteArray) (G : List Int) (f : Int → Int → Int) (s : ByteArray) (a : Option Addr) (m c : Nat) (ds : List Dg) (w : World) (hS : SN w D h k ((t1, t2, t3, cl, op), S, G, f)) (hk : k ≤ 9000) (hs : s.size ≤ maxLen) (ho : 0 ≤ op ∧ op ≤ 900) (hh : h.1 ≤ 1000000 ∧ h.2.1 ≤ 1000000 ∧ h.2.2 ≤ 1000000) (hf : ∀ a b, f a b ≤ op) (hl : RS encDg 3 w a m ds) (hO : OffD D a m) :
  Calls Tryz.prog 50 #[.pointer (some ⟨D + 3, 0, none⟩), .agg #[.string s, .slice a m c]] w (ST D (fun W => ∃ f', SN W D h (k + 20) ((t1, t2, t3, cl, op + 1), S ++ [s], G, f') ∧ ∀ a b, f' a b ≤ op + 1) (opS h op S (s, ds)) w) := by
 have HSN := hide hS
 have hmax := hl.2.1
 unfold maxLen at hmax
 have HL := hide hl
 have HO := hide hO
 have HF := hide hf
 have HLN := hide hl.1
 have c9 : w.cell? ⟨D + 3, 9, none⟩ = some (.int .i64 op) := hS.1.cell 9 _ rfl
 have f9 : w.frozen? ⟨D + 3, 9, none⟩ = false := hS.1.free 9
 have hsz := hS.size
 have HGS : Hid (w.heap.size ≤ w.heap.size) := Nat.le_refl _
 obtain ⟨ho0, ho1⟩ := ho
 have hwr : IntKind.i64.wrap (op + 1) = op + 1 := by unfold IntKind.wrap IntKind.bits; simp [IntKind.signed]; omega
 have c9a := cell_old (.cells #[.string s, .slice a m c] 56) c9
 have f9a : (w.alloc (.cells #[.string s, .slice a m c] 56)).frozen? ⟨D + 3, 9, none⟩ = false := (hS.below (bel1 w (.cells #[.string s, .slice a m c] 56))).1.free 9
 clear hS hl hO hf
 by_cases h1 : 16 < op + 1
 ·have h11 : op + 1 > 16 := h1
  have HR : Hid (opS h op S (s, ds) = false) := by unfold Hid opS; rw [decide_eq_false (by omega)]; rfl
  go_enter Tryz.func50, Tryz.ntmps50
  go_upto_region 2 with fail
  generalize hu : (w.setCell ⟨D + 3, 9, none⟩ (.int .i64 (op + 1))).alloc (.cells #[.string s, .slice a m c] 56) = u at *
  have HG : Hid (GQ 4 D w u) := by unfold Hid; rw [← hu]; exact ((GQ.refl 4 D w).set (by omega) (by omega) _ _).next (bel1 _ _)
  have HXU : Hid (SN u D h k ((t1, t2, t3, cl, op + 1), S, G, f)) := by
   unfold Hid
   rw [← hu]
   have e : ∀ j, j < D + 3 → (w.setCell ⟨D + 3, 9, none⟩ (.int .i64 (op + 1))).heap[j]? = w.heap[j]? := fun j hj => by
    have e2 : D + 3 ≠ j := by omega
    simp [World.setCell, Array.getElem?_modify, e2]
   refine SN.below ?_ (bel1 _ _)
   exact ⟨HSN.out.1.set 9 _, HSN.out.2.1.keep (e _ (by omega)), HSN.out.2.2.1.keep (e _ (by omega)), HSN.out.2.2.2.keep (e _ (by omega))⟩
  have HX : Hid (BX u w.heap.size #[.string s, .slice a m c] 56) := by unfold Hid; rw [← hu]; exact BX.new _ _ (by simp [World.setCell]) _ _
  have b9 : u.cell? ⟨D + 3, 9, none⟩ = some (.int .i64 (op + 1)) := HXU.out.1.cell 9 _ rfl
  have g0 := HX.out.cell 0 _ rfl
  have g1 := HX.out.cell 1 _ rfl
  have HGW : Hid (D + 4 ≤ w.heap.size) := by unfold Hid; omega
  clear hu c9 f9 c9a f9a hsz hwr
  go_wp2
  go_ret
  exact ⟨by rw [HR.out]; rfl, HG.out, fun hh => by rw [HR.out] at hh; cases hh⟩
 have h11 : ¬ op + 1 > 16 := h1
 have HOP : Hid (decide (op + 1 ≤ 16) = true) := decide_eq_true (by omega)
 by_cases h2 : m = 0
 ·have b2 : ((m : Int) == 0) = true := by simpa using h2
  have HR : Hid (opS h op S (s, ds) = false) := by unfold Hid opS opB; rw [HLN.out, h2, decide_eq_false (show ¬ 1 ≤ 0 by omega)]; simp
  clear h2
  go_enter Tryz.func50, Tryz.ntmps50
  go_upto_region 2 with fail
  generalize hu : (w.setCell ⟨D + 3, 9, none⟩ (.int .i64 (op + 1))).alloc (.cells #[.string s, .slice a m c] 56) = u at *
  have HG : Hid (GQ 4 D w u) := by unfold Hid; rw [← hu]; exact ((GQ.refl 4 D w).set (by omega) (by omega) _ _).next (bel1 _ _)
  have HXU : Hid (SN u D h k ((t1, t2, t3, cl, op + 1), S, G, f)) := by
   unfold Hid
   rw [← hu]
   have e : ∀ j, j < D + 3 → (w.setCell ⟨D + 3, 9, none⟩ (.int .i64 (op + 1))).heap[j]? = w.heap[j]? := fun j hj => by
    have e2 : D + 3 ≠ j := by omega
    simp [World.setCell, Array.getElem?_modify, e2]
   refine SN.below ?_ (bel1 _ _)
   exact ⟨HSN.out.1.set 9 _, HSN.out.2.1.keep (e _ (by omega)), HSN.out.2.2.1.keep (e _ (by omega)), HSN.out.2.2.2.keep (e _ (by omega))⟩
  have HX : Hid (BX u w.heap.size #[.string s, .slice a m c] 56) := by unfold Hid; rw [← hu]; exact BX.new _ _ (by simp [World.setCell]) _ _
  have b9 : u.cell? ⟨D + 3, 9, none⟩ = some (.int .i64 (op + 1)) := HXU.out.1.cell 9 _ rfl
  have g0 := HX.out.cell 0 _ rfl
  have g1 := HX.out.cell 1 _ rfl
  have HGW : Hid (D + 4 ≤ w.heap.size) := by unfold Hid; omega
  clear hu c9 f9 c9a f9a hsz hwr
  go_wp2
  go_ret
  exact ⟨by rw [HR.out]; rfl, HG.out, fun hh => by rw [HR.out] at hh; cases hh⟩
 have b2 : ((m : Int) == 0) = false := by simpa using h2
 by_cases h3 : 16 < m
 ·have h31 : (m : Int) > 16 := by omega
  have HR : Hid (opS h op S (s, ds) = false) := by unfold Hid opS opB; rw [HLN.out, decide_eq_false (show ¬ m ≤ 16 by omega)]; simp
  clear h2
  go_enter Tryz.func50, Tryz.ntmps50
  go_upto_region 2 with fail
  generalize hu : (w.setCell ⟨D + 3, 9, none⟩ (.int .i64 (op + 1))).alloc (.cells #[.string s, .slice a m c] 56) = u at *
  have HG : Hid (GQ 4 D w u) := by unfold Hid; rw [← hu]; exact ((GQ.refl 4 D w).set (by omega) (by omega) _ _).next (bel1 _ _)
  have HXU : Hid (SN u D h k ((t1, t2, t3, cl, op + 1), S, G, f)) := by
   unfold Hid
   rw [← hu]
   have e : ∀ j, j < D + 3 → (w.setCell ⟨D + 3, 9, none⟩ (.int .i64 (op + 1))).heap[j]? = w.heap[j]? := fun j hj => by
    have e2 : D + 3 ≠ j := by omega
    simp [World.setCell, Array.getElem?_modify, e2]
   refine SN.below ?_ (bel1 _ _)
   exact ⟨HSN.out.1.set 9 _, HSN.out.2.1.keep (e _ (by omega)), HSN.out.2.2.1.keep (e _ (by omega)), HSN.out.2.2.2.keep (e _ (by omega))⟩
  have HX : Hid (BX u w.heap.size #[.string s, .slice a m c] 56) := by unfold Hid; rw [← hu]; exact BX.new _ _ (by simp [World.setCell]) _ _
  have b9 : u.cell? ⟨D + 3, 9, none⟩ = some (.int .i64 (op + 1)) := HXU.out.1.cell 9 _ rfl
  have g0 := HX.out.cell 0 _ rfl
  have g1 := HX.out.cell 1 _ rfl
  have HGW : Hid (D + 4 ≤ w.heap.size) := by unfold Hid; omega
  clear hu c9 f9 c9a f9a hsz hwr
  go_wp2
  go_ret
  exact ⟨by rw [HR.out]; rfl, HG.out, fun hh => by rw [HR.out] at hh; cases hh⟩
 have h31 : ¬ (m : Int) > 16 := by omega
 have HM2 : Hid (1 ≤ m ∧ m ≤ 16) := by unfold Hid; omega
 have HDO : Hid (∀ (i : Nat) (x : Dg) (W : World), ds[i]? = some x → SN W D h (k + 1 + i) ((t1, t2, t3, cl, op + 1), S ++ [s], G, lasI (op + 1) f (ds.take i)) → Calls Tryz.prog 70 #[.pointer (some ⟨D + 3, 0, none⟩), .agg #[.int .i64 x.1, .int .i64 x.2.1, .int .i64 x.2.2]] W (ST D (fun W => SN W D h (k + 1 + (i + 1)) ((t1, t2, t3, cl, op + 1), S ++ [s], G, lasI (op + 1) f (ds.take (i + 1)))) (okD h (op + 1) f ds i) W)) := fun i x W hx hi => by
  have e : okD h (op + 1) f ds i = doS h (op + 1) (lasI (op + 1) f (ds.take i)) x := by unfold okD; rw [hx]
  have hi2 : lasI (op + 1) f (ds.take (i + 1)) = setL16 (lasI (op + 1) f (ds.take i)) (srI x.1) x.2.1 (op + 1) := by rw [List.take_add_one, hx, Option.toList_some, lasI_snoc]
  have him : i < ds.length := (List.getElem?_eq_some_iff.1 hx).1
  have hml := HLN.out
  have hm2 := HM2.out
  rw [e, hi2]
  refine (doing16 D (k + 1 + i) h t1 t2 t3 cl (op + 1) (S ++ [s]) G _ x.1 x.2.1 x.2.2 W hi (by omega) (by omega) hh).mono ?_
  rintro e W' ⟨rfl, hq, hp⟩
  exact ⟨rfl, hq.more (by omega), hp⟩
 clear h2
 rcases hnm : nmS S s with _ | _
 ·have HNM := hide hnm
  have HR : Hid (opS h op S (s, ds) = false) := by unfold Hid opS; rw [hnm]; simp
  clear hnm
  go_enter Tryz.func50, Tryz.ntmps50
  go_upto_region 2 with fail
  generalize hu : (w.setCell ⟨D + 3, 9, none⟩ (.int .i64 (op + 1))).alloc (.cells #[.string s, .slice a m c] 56) = u at *
  have HG : Hid (GQ 4 D w u) := by unfold Hid; rw [← hu]; exact ((GQ.refl 4 D w).set (by omega) (by omega) _ _).next (bel1 _ _)
  have HXU : Hid (SN u D h k ((t1, t2, t3, cl, op + 1), S, G, f)) := by
   unfold Hid
   rw [← hu]
   have e : ∀ j, j < D + 3 → (w.setCell ⟨D + 3, 9, none⟩ (.int .i64 (op + 1))).heap[j]? = w.heap[j]? := fun j hj => by
    have e2 : D + 3 ≠ j := by omega
    simp [World.setCell, Array.getElem?_modify, e2]
   refine SN.below ?_ (bel1 _ _)
   exact ⟨HSN.out.1.set 9 _, HSN.out.2.1.keep (e _ (by omega)), HSN.out.2.2.1.keep (e _ (by omega)), HSN.out.2.2.2.keep (e _ (by omega))⟩
  have HX : Hid (BX u w.heap.size #[.string s, .slice a m c] 56) := by unfold Hid; rw [← hu]; exact BX.new _ _ (by simp [World.setCell]) _ _
  have b9 : u.cell? ⟨D + 3, 9, none⟩ = some (.int .i64 (op + 1)) := HXU.out.1.cell 9 _ rfl
  have g0 := HX.out.cell 0 _ rfl
  have g1 := HX.out.cell 1 _ rfl
  have HGW : Hid (D + 4 ≤ w.heap.size) := by unfold Hid; omega
  clear hu c9 f9 c9a f9a hsz hwr
  go_wp2_with (go_at_call 62; refine (name16 D k h _ s _ HXU.out (by omega) hs).mono ?_; rintro e w1 ⟨rfl, hq, hp⟩; rw [HNM.out]; have HQ := hide hq; clear hq hp)
  go_ret
  exact ⟨by rw [HR.out]; rfl, HG.out.trans (HQ.out.more (by omega)), fun hh => by rw [HR.out] at hh; cases hh⟩
 have HNM := hide hnm
 clear hnm
 rcases han : allN m (okD h (op + 1) f ds) with _ | _
 ·have HAN := hide han
  have HR : Hid (opS h op S (s, ds) = false) := by unfold Hid opS opB; rw [HLN.out, ← allN_congr (okD_is (h := h) (v := op + 1) (f := f) (ds := ds) (fun a b => by have := HF.out a b; omega)), HAN.out]; simp
  clear han
  go_enter Tryz.func50, Tryz.ntmps50
  go_upto_region 2 with fail
  generalize hu : (w.setCell ⟨D + 3, 9, none⟩ (.int .i64 (op + 1))).alloc (.cells #[.string s, .slice a m c] 56) = u at *
  have HG : Hid (GQ 4 D w u) := by unfold Hid; rw [← hu]; exact ((GQ.refl 4 D w).set (by omega) (by omega) _ _).next (bel1 _ _)
  have HXU : Hid (SN u D h k ((t1, t2, t3, cl, op + 1), S, G, f)) := by
   unfold Hid
   rw [← hu]
   have e : ∀ j, j < D + 3 → (w.setCell ⟨D + 3, 9, none⟩ (.int .i64 (op + 1))).heap[j]? = w.heap[j]? := fun j hj => by
    have e2 : D + 3 ≠ j := by omega
    simp [World.setCell, Array.getElem?_modify, e2]
   refine SN.below ?_ (bel1 _ _)
   exact ⟨HSN.out.1.set 9 _, HSN.out.2.1.keep (e _ (by omega)), HSN.out.2.2.1.keep (e _ (by omega)), HSN.out.2.2.2.keep (e _ (by omega))⟩
  have HX : Hid (BX u w.heap.size #[.string s, .slice a m c] 56) := by unfold Hid; rw [← hu]; exact BX.new _ _ (by simp [World.setCell]) _ _
  have b9 : u.cell? ⟨D + 3, 9, none⟩ = some (.int .i64 (op + 1)) := HXU.out.1.cell 9 _ rfl
  have g0 := HX.out.cell 0 _ rfl
  have g1 := HX.out.cell 1 _ rfl
  have HGW : Hid (D + 4 ≤ w.heap.size) := by unfold Hid; omega
  clear hu c9 f9 c9a f9a hsz hwr
  go_wp2_with (first | (go_at_call 62; refine (name16 D k h _ s _ HXU.out (by omega) hs).mono ?_; rintro e w1 ⟨rfl, hq, hp⟩; rw [HNM.out]; have HQ := hide hq; have HS1 := hide (hp HNM.out); replace g1 := gqcell hq g1 (.inr (by have q := HGW.out; simp only; omega)); have HLW := hide ((HL.out.gq HO.out HG.out).gq HO.out (hq.more (by omega))); clear hq hp) | (go_at_call 69; refine (all16Dg D ds (okD h (op + 1) f ds) (fun i W => SN W D h (k + 1 + i) ((t1, t2, t3, cl, op + 1), S ++ [s], G, lasI (op + 1) f (ds.take i))) (fun i W W' hi hb => SN.below hi hb) HDO.out a m c _ HLW.out HO.out HS1.out (Nat.le_trans HGW.out (Nat.le_trans (Nat.le_trans HGS.out HG.out.1) HQ.out.1))).mono ?_; rintro e w2 ⟨rfl, hq, hp⟩; rw [HAN.out]; have HQ2 := hide hq; clear hq hp))
  go_ret
  exact ⟨by rw [HR.out]; rfl, (HG.out.trans (HQ.out.more (by omega))).trans HQ2.out, fun hh => by rw [HR.out] at hh; cases hh⟩
 ·have HAN := hide han
  have HR : Hid (opS h op S (s, ds) = true) := by unfold Hid opS opB; rw [HLN.out, ← allN_congr (okD_is (h := h) (v := op + 1) (f := f) (ds := ds) (fun a b => by have := HF.out a b; omega)), HAN.out, HNM.out, HOP.out, decide_eq_true HM2.out.1, decide_eq_true HM2.out.2]; rfl
  clear han
  go_enter Tryz.func50, Tryz.ntmps50
  go_upto_region 2 with fail
  generalize hu : (w.setCell ⟨D + 3, 9, none⟩ (.int .i64 (op + 1))).alloc (.cells #[.string s, .slice a m c] 56) = u at *
  have HG : Hid (GQ 4 D w u) := by unfold Hid; rw [← hu]; exact ((GQ.refl 4 D w).set (by omega) (by omega) _ _).next (bel1 _ _)
  have HXU : Hid (SN u D h k ((t1, t2, t3, cl, op + 1), S, G, f)) := by
   unfold Hid
   rw [← hu]
   have e : ∀ j, j < D + 3 → (w.setCell ⟨D + 3, 9, none⟩ (.int .i64 (op + 1))).heap[j]? = w.heap[j]? := fun j hj => by
    have e2 : D + 3 ≠ j := by omega
    simp [World.setCell, Array.getElem?_modify, e2]
   refine SN.below ?_ (bel1 _ _)
   exact ⟨HSN.out.1.set 9 _, HSN.out.2.1.keep (e _ (by omega)), HSN.out.2.2.1.keep (e _ (by omega)), HSN.out.2.2.2.keep (e _ (by omega))⟩
  have HX : Hid (BX u w.heap.size #[.string s, .slice a m c] 56) := by unfold Hid; rw [← hu]; exact BX.new _ _ (by simp [World.setCell]) _ _
  have b9 : u.cell? ⟨D + 3, 9, none⟩ = some (.int .i64 (op + 1)) := HXU.out.1.cell 9 _ rfl
  have g0 := HX.out.cell 0 _ rfl
  have g1 := HX.out.cell 1 _ rfl
  have HGW : Hid (D + 4 ≤ w.heap.size) := by unfold Hid; omega
  clear hu c9 f9 c9a f9a hsz hwr
  go_wp2_with (first | (go_at_call 62; refine (name16 D k h _ s _ HXU.out (by omega) hs).mono ?_; rintro e w1 ⟨rfl, hq, hp⟩; rw [HNM.out]; have HQ := hide hq; have HS1 := hide (hp HNM.out); replace g1 := gqcell hq g1 (.inr (by have q := HGW.out; simp only; omega)); have HLW := hide ((HL.out.gq HO.out HG.out).gq HO.out (hq.more (by omega))); clear hq hp) | (go_at_call 69; refine (all16Dg D ds (okD h (op + 1) f ds) (fun i W => SN W D h (k + 1 + i) ((t1, t2, t3, cl, op + 1), S ++ [s], G, lasI (op + 1) f (ds.take i))) (fun i W W' hi hb => SN.below hi hb) HDO.out a m c _ HLW.out HO.out HS1.out (Nat.le_trans HGW.out (Nat.le_trans (Nat.le_trans HGS.out HG.out.1) HQ.out.1))).mono ?_; rintro e w2 ⟨rfl, hq, hp⟩; rw [HAN.out]; have HQ2 := hide hq; have HP := hide (hp HAN.out); clear hq hp))
  go_ret
  refine ⟨by rw [HR.out]; rfl, (HG.out.trans (HQ.out.more (by omega))).trans HQ2.out, fun _ => ⟨lasI (op + 1) f (ds.take m), HP.out.mono (by omega), lasI_le (fun a b => by have := HF.out a b; omega) _⟩⟩
end Go.Proofs.YtomppblgalepjaaGreatDoor

/- 'append' of rows, and where they lie then: in the block that they lay in, or in a new one. So own rows of one type stay beside each other. -/
namespace Go.Proofs.YtomppblgalepjaaGreatDoor
open Go.RowKit Go.Lib
set_option linter.unusedVariables false
section
variable {α : Type} {enc : α → List Value} {k : Nat} {T : TypeId}
def Apt (v v' : Value) : Prop := ∀ g, v.ownBlock = some g → v'.ownBlock ≠ some g
theorem Apt.symm {v v' : Value} (h : Apt v v') : Apt v' v := fun g h1 h2 => h g h2 h1
theorem Apt.nil (v' : Value) : Apt (.slice none 0 0) v' := fun g h => by simp [Value.ownBlock] at h
theorem OwnR.apt {N : Nat} {w w' : World} {r : Value} {v : Value} {l : List α} (h : OwnR enc k T N w v l) (hg : w.grownBy w' r.ownBlock) (ha : Apt r v) : OwnR enc k T N w' v l := h.grown hg (fun g hv hr => ha g hr hv)
theorem Apt.move {N : Nat} {w : World} {v v' r : Value} {l : List α} (ha : Apt v r) (hr : OwnR enc k T N w r l) (hw : v'.ownBlock = v.ownBlock ∨ v'.ownBlock = some w.heap.size) : Apt v' r := fun g h1 h2 => by
 rcases hw with e | e
 ·rw [e] at h1
  exact ha g h1 h2
 ·rw [e] at h1
  cases h1
  exact hr.old (Nat.le_refl _) h2
theorem run_where {w : World} (N : Nat) (t ty : TypeId) (i : TypeInfo) (z : Value) (by_ : Nat) (ht : Tryz.prog.underlying t = some (.slice T)) (hi : Tryz.prog.info? T = some i) (hz : i.zero = some z) (hs : i.size = k) (hb : i.bytes = by_) (hby : by_ ≤ 1000)
  (v : Value) (l : List α) (hown : OwnR enc k T N w v l) (a : Addr) (m c : Nat) (news : List Value) (hl : news.length = m * k) (hnews : ∀ j u, news[j]? = some u → w.cell? (a.add j) = some u) (h1 : ∀ u ∈ news, u.oneCell' = true) (hm : 0 < m) (hbig : l.length + m ≤ 1000000) {v' : Value} {w' : World}
  (hr : (Builtin.append_ #[t, t] ty #[v, .slice (some a) m c]).run Tryz.prog w = .ok v' w') : v'.ownBlock = v.ownBlock ∨ v'.ownBlock = some w.heap.size := by
 subst hs hb
 have hbytes : (l.length + m) * i.bytes ≤ 1000000 * 1000 := Nat.mul_le_mul hbig hby
 have hown' : w.ownsRow N T i.size v l.length (l.flatMap enc) := hown
 rcases hown.2 with ⟨rfl, h0⟩ | ⟨g, cap, cur, rfl, hbg, hg, hnc, hcm, hcs, htake⟩
 ·rw [h0, Nat.zero_add] at hbytes
  have q := run_append_nil (P := Tryz.prog) w t ty T i z ht hi hz a m c news hl hnews hm (by omega) (by omega)
  rw [q] at hr
  cases hr
  exact .inr rfl
 ·by_cases hroom : l.length + m ≤ cap
  ·have q := run_append_room (P := Tryz.prog) w t ty T i ht hi g l.length cap cur hg a m c news hl hnews h1 hroom (by rw [hl, hcs, ← Nat.add_mul]; exact Nat.mul_le_mul_right _ hroom)
   rw [q] at hr
   cases hr
   exact .inl rfl
  ·have q := run_append_grow (P := Tryz.prog) w t ty T i z ht hi hz ⟨g, 0, none⟩ l.length cap (l.flatMap enc) hown'.1 (hown'.cells (g := g) rfl) a m c news hl hnews (by omega) (by omega) (growslice_fits (by omega) (by omega))
   rw [q] at hr
   cases hr
   exact .inr rfl
theorem append_wh {w : World} {o : Oper} {a : Act} {K : Act → World → Prop} {Q : Exit → Act → World → Prop} (s x : Operand) (t : TypeId)
  (ho : o.op = .call { callee := .builtin .append, args := #[s, x], argTypes := #[t, t] })
  (ht : Tryz.prog.underlying t = some (.slice T)) {z : Value} {by_ : Nat} (hi : (Tryz.prog.info? T).map (fun i => (i.zero, i.size, i.bytes)) = some (some z, k, by_)) (hz : z.cells.size = k) (hk0 : 0 < k) (hby : by_ ≤ 1000)
  (hk : ∀ x, (enc x).length = k) (h1 : ∀ x, ∀ v ∈ enc x, v.oneCell' = true)
  (N : Nat) (v : Value) (l m : List α) (hs : a.eval s = v) (hown : OwnR enc k T N w v l) (ad : Addr) (len cap : Nat) (hx : a.eval x = .slice (some ad) len cap) (h0 : 0 < len) (hB : RS enc k w (some ad) len m)
  (hbig : l.length + m.length ≤ 1000000) (hN : N ≤ w.heap.size)
  (h : ∀ v' w', OwnR enc k T N w' v' (l ++ m) → w.grownBy w' v.ownBlock → (∀ w0, Below N w0 w → Below N w0 w') → (v'.ownBlock = v.ownBlock ∨ v'.ownBlock = some w.heap.size) → K (a.put o.dst v') w') : Oper.wp Tryz.prog o a w K Q := by
 obtain ⟨i0, hi, hz0, hz1, hz2⟩ := info_parts hi
 have g1 := hB.1
 have hmul : (l.length + len) * by_ ≤ 1000000 * 1000 := Nat.mul_le_mul (by omega) hby
 have hcel : ∀ (j : Nat) u, (m.flatMap enc)[j]? = some u → w.cell? (ad.add j) = some u := by
  intro j u hj
  have hjl : j < m.length * k := by rw [← flatR_len enc k hk m]; exact (List.getElem?_eq_some_iff.1 hj).1
  rcases hB.2.2 with h0 | ⟨b, off, hh, hc⟩
  ·rw [g1, h0] at hjl; omega
  ·cases hh
   rw [addr_add]
   exact hB.cells j u hj hk hk0
 obtain ⟨v', w', hr, q1, q2, _⟩ := run_append_own (P := Tryz.prog) w N t o.type T i0 z k by_ ht hi hz0 hz1 hz2 hz hk0 v _ _ hown ad len cap (m.flatMap enc) (by rw [flatR_len enc k hk, g1]) hcel (flatR_one enc h1 m) (by rw [← g1]; unfold maxLen; omega) (by omega) hN
 have hwh := run_where N t o.type i0 z by_ ht hi hz0 hz1 hz2 hby v l hown ad len cap (m.flatMap enc) (by rw [flatR_len enc k hk, g1]) hcel (flatR_one enc h1 m) h0 (by omega) hr
 have e : l.length + len = (l ++ m).length := by rw [List.length_append, g1]
 rw [e, ← List.flatMap_append] at q1
 have hk := h v' w' q1 q2 (fun w0 hb => hb.grown q2 hN (fun j hj => (World.ownsRow.lt hown j hj).1)) hwh
 unfold Oper.wp execOp
 simp only [ho, resolve, invoke, builtin, Sem.run_bind, Sem.run_pure, Result.andThen_ok, List.map_toArray, List.map_cons, List.map_nil, hs, hx, hr]
 exact hk
end
end Go.Proofs.YtomppblgalepjaaGreatDoor

