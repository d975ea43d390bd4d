/- Texts of this claim, joined: OL. -/
import Derived.Test.YtomppblgalepjaaGreatDoorJ40
import Derived.Test.YtomppblgalepjaaGreatDoorJ41
/- What is seen of rules is whether they may be (layer 16, plain). -/
namespace Go.Proofs.YtomppblgalepjaaGreatDoor
open Go.RowKit Go.Lib
set_option linter.unusedVariables false
theorem allN_zero (f : Nat → Bool) : allN 0 f = true := by unfold allN; rfl
def nmL (S : List ByteArray) : List ByteArray → Bool
 | [] => true
 | x :: t => nmS S x && nmL (S ++ [x]) t
theorem nmL_app (S : List ByteArray) : ∀ (a b : List ByteArray), nmL S (a ++ b) = (nmL S a && nmL (S ++ a) b) := fun a => by
 induction a generalizing S with
 | nil => intro b; simp [nmL]
 | cons x t ih => intro b; rw [List.cons_append, nmL, ih (S ++ [x]) b, nmL, Bool.and_assoc, List.append_assoc]; rfl
theorem unl_snoc (S : List ByteArray) (x : ByteArray) : unlB (S ++ [x]) = (unlB S && nmS S x) := by
 rw [Bool.eq_iff_iff, Bool.and_eq_true, unlB_iff, unlB_iff]
 unfold nmS
 rw [Bool.and_eq_true, decide_eq_true_iff, atL_neg, List.nodup_append]
 constructor
 ·rintro ⟨h1, h2, _, h3⟩
  exact ⟨⟨fun y hy => h1 y (List.mem_append_left _ hy), h2⟩, h1 x (by simp), fun hx => h3 x hx x (by simp) rfl⟩
 ·rintro ⟨⟨h1, h2⟩, h3, h4⟩
  refine ⟨fun y hy => ?_, h2, by simp, fun a ha b hb e => ?_⟩
  ·rcases List.mem_append.1 hy with q | q
   ·exact h1 y q
   ·rw [List.mem_singleton.1 q]; exact h3
  ·rw [List.mem_singleton.1 hb] at e
   exact h4 (e ▸ ha)
theorem nmL_unl (l : List ByteArray) : ∀ S, (unlB S && nmL S l) = unlB (S ++ l) := by
 induction l with
 | nil => intro S; simp [nmL]
 | cons x t ih => intro S; rw [nmL, ← Bool.and_assoc, ← unl_snoc, ih, List.append_assoc]; rfl
theorem nmL_nil (l : List ByteArray) : nmL [] l = unlB l := by
 have q := nmL_unl l []
 rw [List.nil_append] at q
 rw [← q]
 have e : unlB [] = true := by rw [unlB_iff]; exact ⟨by simp, by simp⟩
 rw [e, Bool.true_and]
theorem allN_shift {n : Nat} {f : Nat → Bool} : allN (n + 1) f = (f 0 && allN n (fun i => f (i + 1))) := by
 rw [Bool.eq_iff_iff, Bool.and_eq_true, allN_iff, allN_iff]
 constructor
 ·exact fun h => ⟨h 0 (by omega), fun i hi => h (i + 1) (by omega)⟩
 ·rintro ⟨h1, h2⟩ i hi
  rcases i with _ | i
  ·exact h1
  ·exact h2 i (by omega)
theorem nmL_all (l : List ByteArray) : ∀ S, nmL S l = allN l.length (fun i => match l[i]? with | some x => nmS (S ++ l.take i) x | none => true) := by
 induction l with
 | nil => intro S; rw [List.length_nil, allN_zero]; rfl
 | cons x t ih =>
  intro S
  rw [List.length_cons, allN_shift, nmL, ih (S ++ [x])]
  simp [List.append_assoc]
theorem okT1_is (S l : List ByteArray) : allN l.length (okT1 0 S l) = (decide (l.length ≤ 6) && nmL S l) := by
 rw [nmL_all, Bool.eq_iff_iff, Bool.and_eq_true, decide_eq_true_iff, allN_iff, allN_iff]
 have e : ∀ i, i < l.length → (okT1 0 S l i = true ↔ i + 1 ≤ 6 ∧ (match l[i]? with | some x => nmS (S ++ l.take i) x | none => true) = true) := fun i hi => by
  unfold okT1 thB1
  rw [List.getElem?_eq_getElem hi]
  simp only [Bool.and_eq_true, decide_eq_true_iff]
  have : (0 : Int) + i + 1 ≤ 6 ↔ i + 1 ≤ 6 := by omega
  rw [this]
 constructor
 ·intro h
  refine ⟨?_, fun i hi => ((e i hi).1 (h i hi)).2⟩
  rcases Nat.eq_zero_or_pos l.length with h0 | h0
  ·omega
  ·have q := ((e (l.length - 1) (by omega)).1 (h _ (by omega))).1
   omega
 ·rintro ⟨h1, h2⟩ i hi
  exact (e i hi).2 ⟨by omega, h2 i hi⟩
theorem okT2_is (S l : List ByteArray) : allN l.length (okT2 0 S l) = (decide (l.length ≤ 4) && nmL S l) := by
 rw [nmL_all, Bool.eq_iff_iff, Bool.and_eq_true, decide_eq_true_iff, allN_iff, allN_iff]
 have e : ∀ i, i < l.length → (okT2 0 S l i = true ↔ i + 1 ≤ 4 ∧ (match l[i]? with | some x => nmS (S ++ l.take i) x | none => true) = true) := fun i hi => by
  unfold okT2 thB2
  rw [List.getElem?_eq_getElem hi]
  simp only [Bool.and_eq_true, decide_eq_true_iff]
  have : (0 : Int) + i + 1 ≤ 4 ↔ i + 1 ≤ 4 := by omega
  rw [this]
 constructor
 ·intro h
  refine ⟨?_, fun i hi => ((e i hi).1 (h i hi)).2⟩
  rcases Nat.eq_zero_or_pos l.length with h0 | h0
  ·omega
  ·have q := ((e (l.length - 1) (by omega)).1 (h _ (by omega))).1
   omega
 ·rintro ⟨h1, h2⟩ i hi
  exact (e i hi).2 ⟨by omega, h2 i hi⟩
theorem okT3_is (S l : List ByteArray) : allN l.length (okT3 0 S l) = (decide (l.length ≤ 3) && nmL S l) := by
 rw [nmL_all, Bool.eq_iff_iff, Bool.and_eq_true, decide_eq_true_iff, allN_iff, allN_iff]
 have e : ∀ i, i < l.length → (okT3 0 S l i = true ↔ i + 1 ≤ 3 ∧ (match l[i]? with | some x => nmS (S ++ l.take i) x | none => true) = true) := fun i hi => by
  unfold okT3 thB3
  rw [List.getElem?_eq_getElem hi]
  simp only [Bool.and_eq_true, decide_eq_true_iff]
  have : (0 : Int) + i + 1 ≤ 3 ↔ i + 1 ≤ 3 := by omega
  rw [this]
 constructor
 ·intro h
  refine ⟨?_, fun i hi => ((e i hi).1 (h i hi)).2⟩
  rcases Nat.eq_zero_or_pos l.length with h0 | h0
  ·omega
  ·have q := ((e (l.length - 1) (by omega)).1 (h _ (by omega))).1
   omega
 ·rintro ⟨h1, h2⟩ i hi
  exact (e i hi).2 ⟨by omega, h2 i hi⟩
theorem mem_flo8 (k A x : Int) (G : List Int) : x ∈ flo8 k A G ↔ x ∈ G ∨ (k = 8 ∧ x = A) := by
 unfold flo8
 by_cases h : k = 8
 ·rw [if_pos h]; simp [h]
 ·rw [if_neg h]; simp [h]
theorem mem_flL (x : Int) : ∀ (l : List Cl) (G : List Int), x ∈ flL G l ↔ x ∈ G ∨ ∃ c ∈ l, c.1 = 8 ∧ c.2.2.1 = x
 | [], G => by simp [flL]
 | c :: l, G => by
  have e : flL G (c :: l) = flL (flo8 c.1 c.2.2.1 G) l := rfl
  rw [e, mem_flL x l, mem_flo8]
  simp only [List.mem_cons]
  constructor
  ·rintro ((h | ⟨h1, h2⟩) | ⟨d, hd, h⟩)
   ·exact .inl h
   ·exact .inr ⟨c, .inl rfl, h1, h2.symm⟩
   ·exact .inr ⟨d, .inr hd, h⟩
  ·rintro (h | ⟨d, hd | hd, h⟩)
   ·exact .inl (.inl h)
   ·subst hd; exact .inl (.inr ⟨h.1, h.2.symm⟩)
   ·exact .inr ⟨d, hd, h⟩
theorem fl1_is {l : List Cl} {i : Nat} {c : Cl} (hc : l[i]? = some c) : fl1 l i = (!decide (c.1 = 8) || flS (flL [] (l.take i)) c.2.2.1) := by
 have hi := (List.getElem?_eq_some_iff.1 hc).1
 unfold fl1 flS
 rw [hc, Bool.eq_iff_iff]
 simp only
 rw [allN_iff, Bool.or_eq_true, Bool.not_eq_true', decide_eq_false_iff_not, decide_eq_true_iff, mem_flL]
 constructor
 ·intro h
  by_cases h8 : c.1 = 8
  ·right
   rintro (q | ⟨d, hd, h1, h2⟩)
   ·cases q
   ·rw [List.mem_take_iff_getElem] at hd
    obtain ⟨j, hj, rfl⟩ := hd
    have q := h j (by omega)
    unfold fl2 at q
    rw [List.getElem?_eq_getElem (by omega)] at q
    simp [h8, h1, h2] at q
  ·exact .inl h8
 ·intro h j hj
  unfold fl2
  rw [List.getElem?_eq_getElem (by omega)]
  simp only [Bool.not_eq_true', Bool.and_eq_false_iff, decide_eq_false_iff_not]
  rcases h with h | h
  ·exact .inl (.inl h)
  ·by_cases h1 : l[j].1 = 8
   ·right
    exact fun e => h (.inr ⟨l[j], by rw [List.mem_take_iff_getElem]; exact ⟨j, by omega, rfl⟩, h1, e.symm⟩)
   ·exact .inl (.inr h1)
theorem okC_is (h : Int × Int × Int) (l : List Cl) : allN l.length (okC h l) = (decide (l.length ≤ 12) && l.all (clB h.1 h.2.1) && flB l) := by
 rw [Bool.eq_iff_iff, Bool.and_eq_true, Bool.and_eq_true, decide_eq_true_iff, List.all_eq_true]
 unfold flB
 rw [allN_iff, allN_iff]
 have e : ∀ i (hi : i < l.length), (okC h l i = true ↔ i + 1 ≤ 12 ∧ clB h.1 h.2.1 l[i] = true ∧ fl1 l i = true) := fun i hi => by
  rw [fl1_is (List.getElem?_eq_getElem hi)]
  unfold okC clsS
  rw [List.getElem?_eq_getElem hi]
  simp only
  rw [Bool.and_eq_true, Bool.and_eq_true, decide_eq_true_iff, and_assoc]
  have : (i : Int) + 1 ≤ 12 ↔ i + 1 ≤ 12 := by omega
  rw [this]
 constructor
 ·intro q
  refine ⟨⟨?_, fun c hc => ?_⟩, fun i hi => ((e i hi).1 (q i hi)).2.2⟩
  ·rcases Nat.eq_zero_or_pos l.length with h0 | h0
   ·omega
   ·have q := ((e (l.length - 1) (by omega)).1 (q _ (by omega))).1
    omega
  ·obtain ⟨i, hi, rfl⟩ := List.getElem_of_mem hc
   exact ((e i hi).1 (q i hi)).2.1
 ·rintro ⟨⟨h1, h2⟩, h3⟩ i hi
  exact (e i hi).2 ⟨by omega, h2 _ (List.getElem_mem hi), h3 i hi⟩
theorem okO_is (h : Int × Int × Int) (S : List ByteArray) (l : List Op) : allN l.length (okO h S l) = (decide (l.length ≤ 16) && nmL S (l.map (·.1)) && l.all (fun o => opB h.1 h.2.1 h.2.2 o.2)) := by
 rw [nmL_all, Bool.eq_iff_iff, Bool.and_eq_true, Bool.and_eq_true, decide_eq_true_iff, List.all_eq_true, List.length_map, allN_iff, allN_iff]
 have e : ∀ i (hi : i < l.length), (okO h S l i = true ↔ i + 1 ≤ 16 ∧ (match (l.map (·.1))[i]? with | some x => nmS (S ++ (l.map (·.1)).take i) x | none => true) = true ∧ opB h.1 h.2.1 h.2.2 l[i].2 = true) := fun i hi => by
  unfold okO opS
  rw [List.getElem?_map, List.getElem?_eq_getElem hi]
  simp only [Option.map_some]
  rw [Bool.and_eq_true, Bool.and_eq_true, decide_eq_true_iff, List.map_take]
  have : (i : Int) + 1 ≤ 16 ↔ i + 1 ≤ 16 := by omega
  rw [this]
 constructor
 ·intro q
  refine ⟨⟨?_, fun i hi => ((e i hi).1 (q i hi)).2.1⟩, fun o ho => ?_⟩
  ·rcases Nat.eq_zero_or_pos l.length with h0 | h0
   ·omega
   ·have q := ((e (l.length - 1) (by omega)).1 (q _ (by omega))).1
    omega
  ·obtain ⟨i, hi, rfl⟩ := List.getElem_of_mem ho
   exact ((e i hi).1 (q i hi)).2.2
 ·rintro ⟨⟨h1, h2⟩, h3⟩ i hi
  exact (e i hi).2 ⟨by omega, h2 i hi, h3 _ (List.getElem_mem hi)⟩
theorem rulS_is (r : Ru) : rulS ((r.1.length : Int), (r.2.1.length : Int), (r.2.2.1.length : Int)) r = mayR r := by
 unfold rulS mayR fitR clsB opsB allR
 rw [okT1_is, okT2_is, okT3_is, okC_is, okO_is]
 rw [← nmL_nil, nmL_app, nmL_app, nmL_app]
 rw [Bool.eq_iff_iff]
 simp only [Bool.and_eq_true, List.nil_append]
 constructor
 ·rintro ⟨⟨a1, b1⟩, ⟨a2, b2⟩, ⟨a3, b3⟩, ⟨⟨a4, b4⟩, c4⟩, ⟨a5, b5⟩, c5⟩
  exact ⟨⟨⟨⟨⟨⟨⟨⟨a1, a2⟩, a3⟩, a5⟩, a4⟩, ⟨⟨b1, b2⟩, b3⟩, b5⟩, c4⟩, b4⟩, c5⟩
 ·rintro ⟨⟨⟨⟨⟨⟨⟨⟨a1, a2⟩, a3⟩, a5⟩, a4⟩, ⟨⟨b1, b2⟩, b3⟩, b5⟩, c4⟩, b4⟩, c5⟩
  exact ⟨⟨a1, b1⟩, ⟨a2, b2⟩, ⟨a3, b3⟩, ⟨⟨a4, b4⟩, c4⟩, ⟨a5, b5⟩, c5⟩
end Go.Proofs.YtomppblgalepjaaGreatDoor

