/- Texts of this claim, joined: H22. -/
import Derived.Test.YtkbbegbpkndebaaGreatJ32
import Derived.Test.YtkbbegbpkndebaaGreatJ34
import Derived.Test.YtkbbegbpkndebaaGreatJ40
import Derived.Test.YtkbbegbpkndebaaGreatJ47
/- Raw that may be and is light: plain, it is not too great for its bytes; the program's sizes (layer 13). -/
namespace Go.Proofs.YtkbbegbpkndebaaGreat
set_option linter.unusedVariables false
theorem mapP_few {f : Pr → Pr} {s : List En} : (mapP f s).length ≤ s.length := by
  unfold mapP
  refine Nat.le_trans (List.length_filter_le _ _) ?_
  rw [List.length_map]
  exact Nat.le_refl _
theorem key32 {k : ByteArray} (h : mayK k = true) : k.size ≤ 32 := by
  unfold mayK at h
  rw [decide_eq_true_iff] at h
  exact h.2
/-- Light raw that may be, plain. -/
theorem sm13 {k : Kd} {r : Rw} (h : LtW k r) (hm : mayW k r = true) : SmW 30 30 (plainW k r) := by
  obtain ⟨_, hl, h1, h2, h3⟩ := mayW_iff.1 hm
  have hl := lensB_iff.1 hl
  refine ⟨fun s hs => ?_, fun s hs => ?_, fun s hs => ?_, fun s hs => ?_⟩
  · obtain ⟨i, s0, hi, rfl⟩ := mem_mapIdx hs
    obtain ⟨b, hb⟩ : ∃ b, k.1[i]? = some b := ⟨_, List.getElem?_eq_getElem (by have := (List.getElem?_eq_some_iff.1 hi).1; omega)⟩
    have e : rK k i = b := by show k.1.getD i false = b; rw [List.getD_eq_getElem?_getD, hb]; rfl
    have q := h1 i b s0 hb hi
    have hq := h.s1 s0 (List.mem_of_getElem? hi)
    rw [e]
    unfold setB at q
    cases b
    · rw [if_neg (by decide)] at q ⊢
      refine ⟨hq.1, fun x hx => ?_⟩
      have hn := (mayS_iff.1 q).1 x hx
      unfold mayN at hn
      simp only [Bool.and_eq_true, decide_eq_true_iff] at hn
      exact ⟨key32 hn.1.1.1, (rowsB_iff.1 hn.2).1, (hq.2 x hx).2.1, hn.1.2⟩
    · rw [if_pos rfl] at q ⊢
      refine ⟨Nat.le_trans mapP_few hq.1, fun y hy => ?_⟩
      obtain ⟨x, hx, rfl, _⟩ := mem_map9.1 hy
      have hn := mayN9_iff.1 ((mayS9_iff.1 q).1 x hx)
      exact ⟨key32 hn.1, (rowsB_iff.1 hn.2.2.1).1, (hq.2 x hx).2.1, rfl⟩
  · obtain ⟨i, hi⟩ := List.mem_iff_getElem?.1 hs
    have hlt := (List.getElem?_eq_some_iff.1 hi).1
    have hlt2 : i < r.2.1.length := hlt
    have q := h2 i _ s _ (List.getElem?_eq_getElem (by omega)) hi (List.getElem?_eq_getElem (by omega))
    unfold cntB at q
    simp only [Bool.and_eq_true] at q
    exact ⟨Nat.le_trans (h.s2 s hs) (by decide), (mayG_iff.1 q.1.1).1⟩
  · obtain ⟨i, hi⟩ := List.mem_iff_getElem?.1 hs
    have hlt := (List.getElem?_eq_some_iff.1 hi).1
    have hlt2 : i < r.2.2.1.length := hlt
    have q := h2 i _ _ s (List.getElem?_eq_getElem (by omega)) (List.getElem?_eq_getElem (by omega)) hi
    unfold cntB at q
    simp only [Bool.and_eq_true] at q
    exact ⟨Nat.le_trans (h.s3 s hs) (by decide), (mayG_iff.1 q.1.2).1⟩
  · exact ⟨Nat.le_trans (h.s4 s hs) (by decide), (mayG_iff.1 (h3 s hs)).1⟩
theorem sz13 {k : Kd} {r : Rw} (h : LtW k r) : SzW r :=
  ⟨fun s hs => ⟨Nat.le_trans (h.s1 s hs).1 (by decide), fun x hx => ⟨Nat.le_trans ((h.s1 s hs).2 x hx).2.1 (by decide), Nat.le_trans ((h.s1 s hs).2 x hx).2.2 (by decide)⟩⟩, fun s hs => Nat.le_trans (h.s2 s hs) (by decide), fun s hs => Nat.le_trans (h.s3 s hs) (by decide), fun s hs => Nat.le_trans (h.s4 s hs) (by decide)⟩
theorem okp13 {k : Kd} {r : Rw} (h : LtW k r) : OkP5 r := fun s hs x hx => ⟨Nat.le_trans ((h.s1 s hs).2 x hx).2.1 (by decide), Nat.le_trans ((h.s1 s hs).2 x hx).2.2 (by decide)⟩
/-- Two raws of the same kinds have the same bytes just if they are the same, plain. -/
theorem one13 {k : Kd} {v r : Rw} (hv : LtW k v) (hr : LtW k r) (h1 : mayW k v = true) (h2 : mayW k r = true) : (bytRw (plainW k v) = bytRw (plainW k r)) ↔ plainW k v = plainW k r := by
  have a := lensB_iff.1 (mayW_iff.1 h1).2.1
  have b := lensB_iff.1 (mayW_iff.1 h2).2.1
  refine ⟨fun h => ?_, fun h => by rw [h]⟩
  have e1 : (plainW k v).1.length = v.1.length := by unfold plainW; rw [List.length_mapIdx]
  have e2 : (plainW k r).1.length = r.1.length := by unfold plainW; rw [List.length_mapIdx]
  have e3 : (plainW k v).2 = v.2 := rfl
  have e4 : (plainW k r).2 = r.2 := rfl
  refine bytRw_inj (N := 30) (L := 30) (by decide) (by decide) (by decide) (sm13 hv h1) (sm13 hr h2) (by rw [e1, e2]; omega) (by rw [e3, e4]; omega) (by rw [e3, e4]; omega) (by rw [e3, e4]; omega) ?_ h
  unfold allB
  simp only [List.length_append, List.length_map]
  rw [e1, e3]
  have := hv.l1
  have := hv.l2
  have := hv.l3
  have := hv.l4
  omega
end Go.Proofs.YtkbbegbpkndebaaGreat

