/- Texts of this claim, joined: H22, H8. -/
import Derived.Test.YtkbbegbpkndebaaGreatJ22
import Derived.Test.YtkbbegbpkndebaaGreatJ3
import Derived.Test.YtkbbegbpkndebaaGreatJ42
import Derived.Test.YtkbbegbpkndebaaGreatJ46
import Derived.Test.YtkbbegbpkndebaaGreatJ52
import Derived.Test.YtkbbegbpkndebaaGreatJ60
/- Raw that may be and is light: plain, it is not too great for its bytes; the program's sizes (layer 13). -/
namespace Go.Proofs.YtkbbegbpkndebaaGreat
set_option linter.unusedVariables false
theorem mapP_few {f : Pr → Pr} {s : List En} : (mapP f s).length ≤ s.length := by
 unfold mapP
 refine Nat.le_trans (List.length_filter_le _ _) ?_
 rw [List.length_map]
 exact Nat.le_refl _
theorem key32 {k : ByteArray} (h : mayK k = true) : k.size ≤ 32 := by
 unfold mayK at h
 rw [decide_eq_true_iff] at h
 exact h.2
theorem sm13 {k : Kd} {r : Rw} (h : LtW k r) (hm : mayW k r = true) : SmW 30 30 (plainW k r) := by
 obtain ⟨_, hl, h1, h2, h3⟩ := mayW_iff.1 hm
 have hl := lensB_iff.1 hl
 refine ⟨fun s hs => ?_, fun s hs => ?_, fun s hs => ?_, fun s hs => ?_⟩
 ·obtain ⟨i, s0, hi, rfl⟩ := mem_mapIdx hs
  obtain ⟨b, hb⟩ : ∃ b, k.1[i]? = some b := ⟨_, List.getElem?_eq_getElem (by have := (List.getElem?_eq_some_iff.1 hi).1; omega)⟩
  have e : rK k i = b := by show k.1.getD i false = b; rw [List.getD_eq_getElem?_getD, hb]; rfl
  have q := h1 i b s0 hb hi
  have hq := h.s1 s0 (List.mem_of_getElem? hi)
  rw [e]
  unfold setB at q
  cases b
  ·rw [if_neg (by decide)] at q ⊢
   refine ⟨hq.1, fun x hx => ?_⟩
   have hn := (mayS_iff.1 q).1 x hx
   unfold mayN at hn
   simp only [Bool.and_eq_true, decide_eq_true_iff] at hn
   exact ⟨key32 hn.1.1.1, (rowsB_iff.1 hn.2).1, (hq.2 x hx).2.1, hn.1.2⟩
  ·rw [if_pos rfl] at q ⊢
   refine ⟨Nat.le_trans mapP_few hq.1, fun y hy => ?_⟩
   obtain ⟨x, hx, rfl, _⟩ := mem_map9.1 hy
   have hn := mayN9_iff.1 ((mayS9_iff.1 q).1 x hx)
   exact ⟨key32 hn.1, (rowsB_iff.1 hn.2.2.1).1, (hq.2 x hx).2.1, rfl⟩
 ·obtain ⟨i, hi⟩ := List.mem_iff_getElem?.1 hs
  have hlt := (List.getElem?_eq_some_iff.1 hi).1
  have hlt2 : i < r.2.1.length := hlt
  have q := h2 i _ s _ (List.getElem?_eq_getElem (by omega)) hi (List.getElem?_eq_getElem (by omega))
  unfold cntB at q
  simp only [Bool.and_eq_true] at q
  exact ⟨Nat.le_trans (h.s2 s hs) (by decide), (mayG_iff.1 q.1.1).1⟩
 ·obtain ⟨i, hi⟩ := List.mem_iff_getElem?.1 hs
  have hlt := (List.getElem?_eq_some_iff.1 hi).1
  have hlt2 : i < r.2.2.1.length := hlt
  have q := h2 i _ _ s (List.getElem?_eq_getElem (by omega)) (List.getElem?_eq_getElem (by omega)) hi
  unfold cntB at q
  simp only [Bool.and_eq_true] at q
  exact ⟨Nat.le_trans (h.s3 s hs) (by decide), (mayG_iff.1 q.1.2).1⟩
 ·exact ⟨Nat.le_trans (h.s4 s hs) (by decide), (mayG_iff.1 (h3 s hs)).1⟩
theorem sz13 {k : Kd} {r : Rw} (h : LtW k r) : SzW r :=
 ⟨fun s hs => ⟨Nat.le_trans (h.s1 s hs).1 (by decide), fun x hx => ⟨Nat.le_trans ((h.s1 s hs).2 x hx).2.1 (by decide), Nat.le_trans ((h.s1 s hs).2 x hx).2.2 (by decide)⟩⟩, fun s hs => Nat.le_trans (h.s2 s hs) (by decide), fun s hs => Nat.le_trans (h.s3 s hs) (by decide), fun s hs => Nat.le_trans (h.s4 s hs) (by decide)⟩
theorem okp13 {k : Kd} {r : Rw} (h : LtW k r) : OkP5 r := fun s hs x hx => ⟨Nat.le_trans ((h.s1 s hs).2 x hx).2.1 (by decide), Nat.le_trans ((h.s1 s hs).2 x hx).2.2 (by decide)⟩
end Go.Proofs.YtkbbegbpkndebaaGreat

/- The document's Fits of layer 13; is raw nothing? -/
namespace Go.Proofs.YtkbbegbpkndebaaGreat
open Go.RowKit Go.Lib
set_option linter.unusedVariables false
def noneW (r : Rw) : Bool := sameW r ([], [], [], [])
set_option maxHeartbeats 2000000 in
theorem none13 (p1 : Option Addr) (n1 c1 : Nat) (p2 : Option Addr) (n2 c2 : Nat) (p3 : Option Addr) (n3 c3 : Nat) (p4 : Option Addr) (n4 c4 : Nat) (r : Rw) (w : World) (hR : RM w p1 n1 c1 p2 n2 c2 p3 n3 c3 p4 n4 c4 r) : Calls Tryz.prog 18 #[.agg #[.slice p1 n1 c1, .slice p2 n2 c2, .slice p3 n3 c3, .slice p4 n4 c4]] w fun e w' => e = .returned (.bool (noneW r)) ∧ Below w.heap.size w w' := by
 have HB0 := hide (bel1 w (.cells #[.slice p1 n1 c1, .slice p2 n2 c2, .slice p3 n3 c3, .slice p4 n4 c4] 31))
 have HR := hide (hR.below HB0.out)
 clear hR
 have b0 := cell_new w #[.slice p1 n1 c1, .slice p2 n2 c2, .slice p3 n3 c3, .slice p4 n4 c4] 31 _ rfl 0 _ rfl
 have b1 := cell_new w #[.slice p1 n1 c1, .slice p2 n2 c2, .slice p3 n3 c3, .slice p4 n4 c4] 31 _ rfl 1 _ rfl
 have b2 := cell_new w #[.slice p1 n1 c1, .slice p2 n2 c2, .slice p3 n3 c3, .slice p4 n4 c4] 31 _ rfl 2 _ rfl
 have b3 := cell_new w #[.slice p1 n1 c1, .slice p2 n2 c2, .slice p3 n3 c3, .slice p4 n4 c4] 31 _ rfl 3 _ rfl
 go_enter Tryz.func18, Tryz.ntmps18
 go_wp2_with (go_at_call 20; refine (Same13_ref p1 n1 c1 p2 n2 c2 p3 n3 c3 p4 n4 c4 none 0 0 none 0 0 none 0 0 none 0 0 r ([], [], [], []) _ HR.out (RM.none _)).mono ?_; rintro e w1 ⟨rfl, hb⟩; replace HB0 := hide (bel_next HB0.out hb); clear hb)
 go_ret
 exact ⟨rfl, HB0.out⟩
end Go.Proofs.YtkbbegbpkndebaaGreat

