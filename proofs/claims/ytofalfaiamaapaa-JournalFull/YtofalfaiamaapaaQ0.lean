/- What the program's reading of a slot is, in plain mathematics: it is the document's; and what stands in a slot that was renewed (layer 7). -/
import Derived.Test.YtofalfaiamaapaaJ3
namespace Go.Proofs.Ytofalfaiamaapaa
open Go.RowKit
set_option linter.unusedVariables false
theorem nb_hi (x : Int) (h : x < 18446744073709551616) : x < 256 ^ nb x := by
  unfold nb
  repeat' split
  all_goals omega
theorem val_be (k : Nat) (x : Int) : val (be k x) = x % 256 ^ k := by
  induction k with
  | zero => simp [be, val, Int.emod_one]
  | succ k ih =>
    show val (_ :: _) = _
    rw [val_cons, ih, be_len, pow_s]
    have hp := pow_pos' k
    have h1 := Int.mul_ediv_add_emod x (256 ^ k)
    have h2 : x % (256 ^ k * 256) = x - (256 ^ k * 256) * (x / (256 ^ k * 256)) := by have := Int.mul_ediv_add_emod x (256 ^ k * 256); omega
    rw [h2, ← Int.ediv_ediv_of_nonneg (by omega)]
    have h3 : x / 256 ^ k % 256 = x / 256 ^ k - 256 * (x / 256 ^ k / 256) := by omega
    rw [h3, Int.sub_mul, Int.mul_comm (x / 256 ^ k), Int.mul_comm (256 * _) (256 ^ k), ← Int.mul_assoc]
    omega
theorem getNum_num (x : Int) (h0 : 0 ≤ x) (h1 : x < 18446744073709551616) (m : List Int) : getNum (num x ++ m) = some (x, (num x).length) := by
  have h8 := nb_le x
  have hl := be_len (nb x) x
  have ht : (be (nb x) x ++ m).take (nb x) = be (nb x) x := by rw [List.take_append_of_le_length (by omega), List.take_of_length_le (by omega)]
  have hv : val (be (nb x) x) = x := by rw [val_be]; exact Int.emod_eq_of_lt h0 (nb_hi x h1)
  have hz : nz (be (nb x) x) := nz_of_nb _ (be_by _ _) (by rw [hv, hl])
  show (if 8 < (nb x : Int) ∨ (be (nb x) x ++ m).length < (nb x : Int).toNat ∨ ¬ nz ((be (nb x) x ++ m).take (nb x : Int).toNat) then none else some (val ((be (nb x) x ++ m).take (nb x : Int).toNat), (nb x : Int).toNat + 1)) = _
  rw [Int.toNat_natCast, ht, if_neg, hv, num_len]
  rintro (h | h | h)
  · omega
  · rw [List.length_append] at h; omega
  · exact h hz
theorem record_len (k : Int) (t : List Int) : (record k t).length = 1 + (num t.length).length + t.length + 4 := by
  unfold record rhead text
  rw [List.length_append, be_len, List.length_cons, List.length_append]
  omega
theorem record_cons (k : Int) (t : List Int) : record k t = k :: (num t.length ++ (t ++ be 4 (of [rhead k t]))) := by
  unfold record rhead text
  rw [List.cons_append, List.append_assoc]

theorem rec_got (k : Int) (t more : List Int) (h1 : 1 ≤ k) (h2 : k ≤ 200) (ht : t.length ≤ 65536) (hb : By t) (hm : By more) : getRecord (record k t ++ more) = (k, t, (record k t).length, 0) := by
  obtain ⟨S, hS⟩ : ∃ S, be 4 (of [rhead k t]) = S := ⟨_, rfl⟩
  have hSl : S.length = 4 := by rw [← hS, be_len]
  have hSb : By S := by rw [← hS]; exact be_by _ _
  have e : record k t ++ more = k :: (num t.length ++ (t ++ (S ++ more))) := by
    rw [record_cons, hS, List.cons_append, List.append_assoc, List.append_assoc]
  have hby : By (num t.length ++ (t ++ (S ++ more))) := (num_by _).append (hb.append (hSb.append hm))
  have hgs := getSize_num hby (getNum_num (t.length : Int) (by omega) (by omega) _) (by omega)
  have hl := record_len k t
  obtain ⟨N, hN⟩ : ∃ N, num (t.length : Int) = N := ⟨_, rfl⟩
  rw [hN] at hgs e hl
  have hT : (k :: (N ++ (t ++ (S ++ more)))) = (rhead k t) ++ (S ++ more) := by
    unfold rhead text
    rw [hN, List.cons_append, List.append_assoc]
  have hrl : (rhead k t).length = 1 + N.length + t.length := by
    unfold rhead text
    rw [hN, List.length_cons, List.length_append]; omega
  rw [e]
  show (if k < 1 ∨ 200 < k then _ else _) = _
  rw [if_neg (by omega), hgs]
  simp only [ne_eq, not_true_eq_false, if_false, Int.toNat_natCast]
  have hd : (rhead k t ++ (S ++ more)).drop (1 + N.length) = t ++ (S ++ more) := by
    have e2 : rhead k t ++ (S ++ more) = (k :: N) ++ (t ++ (S ++ more)) := by unfold rhead text; rw [hN, List.cons_append, List.append_assoc, List.cons_append]
    rw [e2]
    exact List.drop_left' (by rw [List.length_cons]; omega)
  rw [if_neg (by simp; omega), hT, hd, List.take_left, ← hrl, List.drop_left, List.take_left, List.take_left' hSl, hS, if_pos rfl, hl, hrl]


/-- The records of Kinds from 10 on that bytes begin with, and how many bytes they have. -/
def takeR : Nat → List Int → List Rc × Nat
  | 0, _ => ([], 0)
  | f + 1, l => if (getRecord l).2.2.2 = 0 ∧ 10 ≤ (getRecord l).1 then (⟨(getRecord l).1, (getRecord l).2.1⟩ :: (takeR f (l.drop (getRecord l).2.2.1)).1, (getRecord l).2.2.1 + (takeR f (l.drop (getRecord l).2.2.1)).2) else ([], 0)
theorem takeR_go {f : Nat} {l : List Int} (h : (getRecord l).2.2.2 = 0 ∧ 10 ≤ (getRecord l).1) : takeR (f + 1) l = (⟨(getRecord l).1, (getRecord l).2.1⟩ :: (takeR f (l.drop (getRecord l).2.2.1)).1, (getRecord l).2.2.1 + (takeR f (l.drop (getRecord l).2.2.1)).2) := by rw [takeR, if_pos h]
theorem takeR_no {f : Nat} {l : List Int} (h : ¬ ((getRecord l).2.2.2 = 0 ∧ 10 ≤ (getRecord l).1)) : takeR f l = ([], 0) := by
  rcases f with _ | f
  · rfl
  · rw [takeR, if_neg h]
theorem drop_lt {l : List Int} (hb : By l) (h : (getRecord l).2.2.2 = 0) : (l.drop (getRecord l).2.2.1).length + 1 ≤ l.length := by
  have := getRecord_ok hb h
  rw [List.length_drop]
  omega
theorem takeR_fuel : ∀ (f g : Nat) (l : List Int), By l → l.length < f → l.length < g → takeR f l = takeR g l := by
  intro f
  induction f with
  | zero => intro g l _ h; omega
  | succ f ih =>
    intro g l hb h1 h2
    rcases g with _ | g
    · omega
    · by_cases h : (getRecord l).2.2.2 = 0 ∧ 10 ≤ (getRecord l).1
      · have := drop_lt hb h.1
        rw [takeR_go h, takeR_go h, ih g _ (hb.drop _) (by omega) (by omega)]
      · rw [takeR_no h, takeR_no h]
theorem takeR_le : ∀ (f : Nat) (l : List Int), By l → (takeR f l).2 ≤ l.length := by
  intro f
  induction f with
  | zero => intro l _; exact Nat.zero_le _
  | succ f ih =>
    intro l hb
    by_cases h : (getRecord l).2.2.2 = 0 ∧ 10 ≤ (getRecord l).1
    · have q := ih _ (hb.drop (getRecord l).2.2.1)
      have := getRecord_ok hb h.1
      rw [takeR_go h]
      rw [List.length_drop] at q
      simp only []
      omega
    · rw [takeR_no h]; exact Nat.zero_le _
theorem takeR_len : ∀ (f : Nat) (l : List Int), By l → (takeR f l).1.length ≤ l.length := by
  intro f
  induction f with
  | zero => intro l _; exact Nat.zero_le _
  | succ f ih =>
    intro l hb
    by_cases h : (getRecord l).2.2.2 = 0 ∧ 10 ≤ (getRecord l).1
    · have q := ih _ (hb.drop (getRecord l).2.2.1)
      have := getRecord_ok hb h.1
      rw [takeR_go h]
      rw [List.length_drop] at q
      simp only [List.length_cons]
      omega
    · rw [takeR_no h]; exact Nat.zero_le _
/-- All that bytes have of such records. -/
def tk (l : List Int) : List Rc × Nat := takeR (l.length + 1) l
theorem goF_true : ∀ (f : Nat) (l : List Int) (p : Nat) (r : List Rc), By l → l.length < f → goF (recsE f p l) true r p = (true, r ++ (tk l).1, p + (tk l).2) := by
  intro f
  induction f with
  | zero => intro l p r _ h; omega
  | succ f ih =>
    intro l p r hb h1
    unfold tk
    by_cases h0 : (getRecord l).2.2.2 = 0
    · have hd := drop_lt hb h0
      rw [recsE, if_pos h0]
      by_cases h10 : 10 ≤ (getRecord l).1
      · rw [goF_B (by simp) (by exact h10), ih _ _ _ (hb.drop _) (by omega), takeR_go ⟨h0, h10⟩, takeR_fuel l.length _ _ (hb.drop _) (by omega) (Nat.lt_succ_self _)]
        simp [tk, Nat.add_assoc]
      · rw [goF_C (by simp) (by exact h10), takeR_no (fun h => h10 h.2)]
        simp
    · rw [recsE_stop _ _ _ h0, takeR_no (fun h => h0 h.1)]
      simp [goF]
/-- The record behind the ones that a slot was renewed with. -/
abbrev endsAt (l : List Int) : Prop := (getRecord l).2.2.2 = 0 ∧ (getRecord l).1 = 2 ∧ (getRecord l).2.1.length = 0
theorem goF_false : ∀ (f : Nat) (l : List Int) (p : Nat) (r : List Rc) (e : Nat), By l → l.length < f →
    (endsAt (l.drop (tk l).2) → goF (recsE f p l) false r e = (true, r ++ (tk l).1 ++ (tk (l.drop ((tk l).2 + (getRecord (l.drop (tk l).2)).2.2.1))).1, p + ((tk l).2 + (getRecord (l.drop (tk l).2)).2.2.1) + (tk (l.drop ((tk l).2 + (getRecord (l.drop (tk l).2)).2.2.1))).2)) ∧
    (¬ endsAt (l.drop (tk l).2) → (goF (recsE f p l) false r e).1 = false) := by
  intro f
  induction f with
  | zero => intro l p r e _ h; omega
  | succ f ih =>
    intro l p r e hb h1
    by_cases h0 : (getRecord l).2.2.2 = 0
    · have hd := drop_lt hb h0
      by_cases h10 : 10 ≤ (getRecord l).1
      · have ht : tk l = (⟨(getRecord l).1, (getRecord l).2.1⟩ :: (tk (l.drop (getRecord l).2.2.1)).1, (getRecord l).2.2.1 + (tk (l.drop (getRecord l).2.2.1)).2) := by
          unfold tk
          rw [takeR_go ⟨h0, h10⟩, takeR_fuel l.length _ _ (hb.drop _) (by omega) (Nat.lt_succ_self _)]
        have q := ih (l.drop (getRecord l).2.2.1) (p + (getRecord l).2.2.1) (r ++ [⟨(getRecord l).1, (getRecord l).2.1⟩]) (p + (getRecord l).2.2.1) (hb.drop _) (by omega)
        rw [recsE, if_pos h0, goF_B (by simp only []; omega) (by exact h10), ht]
        simp only [List.drop_drop] at q ⊢
        refine ⟨fun h => ?_, q.2⟩
        rw [q.1 h]
        simp [Nat.add_assoc]
      · have ht : tk l = ([], 0) := takeR_no (fun h => h10 h.2)
        rw [ht]
        simp only [List.drop_zero, Nat.zero_add, List.append_nil]
        rw [recsE, if_pos h0]
        refine ⟨fun h => ?_, fun h => ?_⟩
        · rw [goF_A h.2.1 h.2.2, goF_true _ _ _ _ (hb.drop _) (by omega)]
        · rw [goF_C (fun q => h ⟨h0, q.1, q.2.1⟩) (by exact h10)]
    · have ht : tk l = ([], 0) := takeR_no (fun h => h0 h.1)
      rw [ht]
      simp only [List.drop_zero]
      rw [recsE_stop _ _ _ h0]
      exact ⟨fun h => absurd h.1 h0, fun _ => rfl⟩
/-- The turn that bytes begin with, and how many bytes its record has. -/
def headP (l : List Int) : Int × Nat := if (getRecord l).2.2.2 = 0 ∧ (getRecord l).1 = 1 then
    match getNum (getRecord l).2.1 with
    | none => (0, 0)
    | some (u, m) => if m < (getRecord l).2.1.length ∨ 1099511627776 < u then (0, 0) else (u, (getRecord l).2.2.1)
  else (0, 0)
theorem headP_off {l : List Int} (h : ¬ ((getRecord l).2.2.2 = 0 ∧ (getRecord l).1 = 1)) : headP l = (0, 0) := by rw [headP, if_neg h]
theorem headP_none {l : List Int} (h : getNum (getRecord l).2.1 = none) : headP l = (0, 0) := by
  rw [headP, h]; split <;> rfl
theorem headP_num {l : List Int} (h : (getRecord l).2.2.2 = 0 ∧ (getRecord l).1 = 1) {u : Int} {m : Nat} (hn : getNum (getRecord l).2.1 = some (u, m)) : headP l = if m < (getRecord l).2.1.length ∨ 1099511627776 < u then (0, 0) else (u, (getRecord l).2.2.1) := by
  rw [headP, if_pos h, hn]
theorem headP_le {l : List Int} (hb : By l) : 0 ≤ (headP l).1 ∧ (headP l).1 ≤ 1099511627776 ∧ (headP l).2 ≤ l.length := by
  by_cases h : (getRecord l).2.2.2 = 0 ∧ (getRecord l).1 = 1
  · have q := getRecord_ok hb h.1
    rcases hn : getNum (getRecord l).2.1 with _ | ⟨u, m⟩
    · rw [headP_none hn]; exact ⟨by decide, by decide, Nat.zero_le _⟩
    · have g := getNum_some q.2.2.2.2.2 hn
      rw [headP_num h hn]
      split
      · exact ⟨by decide, by decide, Nat.zero_le _⟩
      · rename_i hh
        exact ⟨g.1, by simp only []; omega, q.2.1⟩
  · rw [headP_off h]; exact ⟨by decide, by decide, Nat.zero_le _⟩
/-- What the program reads in a slot. -/
def wholeP (l : List Int) : Int × List Rc × Nat :=
  if (headP l).1 = 0 then (0, [], 0) else
  if endsAt ((l.drop (headP l).2).drop (tk (l.drop (headP l).2)).2) then
    ((headP l).1, (tk (l.drop (headP l).2)).1 ++ (tk ((l.drop (headP l).2).drop ((tk (l.drop (headP l).2)).2 + (getRecord ((l.drop (headP l).2).drop (tk (l.drop (headP l).2)).2)).2.2.1))).1,
      (headP l).2 + ((tk (l.drop (headP l).2)).2 + (getRecord ((l.drop (headP l).2).drop (tk (l.drop (headP l).2)).2)).2.2.1) + (tk ((l.drop (headP l).2).drop ((tk (l.drop (headP l).2)).2 + (getRecord ((l.drop (headP l).2).drop (tk (l.drop (headP l).2)).2)).2.2.1))).2)
  else (0, [], 0)
theorem wholeP_zero {l : List Int} (h : (headP l).1 = 0) : wholeP l = (0, [], 0) := by rw [wholeP, if_pos h]
set_option maxHeartbeats 1000000 in
theorem scan_whole (l : List Int) (hb : By l) : scanRs l = wholeP l := by
  unfold scanRs
  by_cases h0 : (getRecord l).2.2.2 = 0
  · have hd := drop_lt hb h0
    have q := getRecord_ok hb h0
    rw [recsE, if_pos h0]
    simp only [scanOf]
    by_cases hk : (getRecord l).1 = 1
    · rw [if_neg (by simpa using hk)]
      rcases hn : getNum (getRecord l).2.1 with _ | ⟨u, m⟩
      · rw [wholeP_zero (by rw [headP_none hn])]
      · have g := getNum_some q.2.2.2.2.2 hn
        have hh := headP_num ⟨h0, hk⟩ hn
        simp only []
        by_cases hc : m < (getRecord l).2.1.length ∨ 1099511627776 < u
        · rw [if_pos (by omega), wholeP_zero (by rw [hh, if_pos hc])]
        · rw [if_neg hc] at hh
          by_cases hu : u < 1
          · rw [if_pos (by omega), wholeP_zero (by rw [hh]; simp only []; omega)]
          · have r := goF_false l.length (l.drop (getRecord l).2.2.1) (0 + (getRecord l).2.2.1) [] 0 (hb.drop _) (by omega)
            have hw : (headP l).1 ≠ 0 := by rw [hh]; simp only []; omega
            rw [if_neg (by omega)]
            unfold wholeP
            rw [if_neg hw, hh]
            simp only []
            by_cases he : endsAt ((l.drop (getRecord l).2.2.1).drop (tk (l.drop (getRecord l).2.2.1)).2)
            · rw [if_pos he, r.1 he]
              simp
            · rw [if_neg he, r.2 he]
              rfl
    · rw [if_pos (by simpa using hk), wholeP_zero (by rw [headP_off (fun h => hk h.2)])]
  · rw [recsE_stop _ _ _ h0, wholeP_zero (by rw [headP_off (fun h => h0 h.1)])]
    rfl
theorem tk_bytes : ∀ (l : List Rc) (more : List Int), (∀ x ∈ l, mayRc x = true) → (∀ x ∈ l, By x.b) → By more → tk (bytesRs l ++ more) = (l ++ (tk more).1, (bytesRs l).length + (tk more).2) := by
  intro l
  induction l with
  | nil => intro more _ _ _; simp [bytesRs]
  | cons x l ih =>
    intro more hM hB hm
    have q := (mayRc_iff x).1 (hM x (List.mem_cons_self ..))
    have hby : By (bytesRs l ++ more) := (bytesRs_by (fun y hy => hM y (List.mem_cons_of_mem _ hy)) (fun y hy => hB y (List.mem_cons_of_mem _ hy))).append hm
    have e : bytesRs (x :: l) ++ more = record x.k x.b ++ (bytesRs l ++ more) := by simp [bytesRs]
    have g := rec_got x.k x.b (bytesRs l ++ more) (by omega) q.2.1 q.2.2 (hB x (List.mem_cons_self ..)) hby
    have r := ih more (fun y hy => hM y (List.mem_cons_of_mem _ hy)) (fun y hy => hB y (List.mem_cons_of_mem _ hy)) hm
    rw [e]
    unfold tk at r ⊢
    have hl := record_len x.k x.b
    rw [takeR_go (by rw [g]; exact ⟨rfl, q.1⟩), g]
    simp only [List.drop_left]
    rw [takeR_fuel _ ((bytesRs l ++ more).length + 1) _ hby (by simp only [List.length_append] at hl ⊢; omega) (by omega), r]
    simp [bytesRs, Nat.add_assoc]
theorem tk_end (more : List Int) (hm : By more) : tk (record 2 [] ++ more) = ([], 0) := by
  have g := rec_got 2 [] more (by decide) (by decide) (by decide) By.nil hm
  unfold tk
  exact takeR_no (by rw [g]; simp)
theorem tk_nil : tk [] = ([], 0) := by
  unfold tk
  exact takeR_no (by simp [getRecord])
set_option maxHeartbeats 1000000 in
/-- What was renewed, and put behind, is read. -/
theorem scan_written (t : Int) (h1 : 1 ≤ t) (h2 : t ≤ 1099511627776) (l m : List Rc) (hM : ∀ x ∈ l, mayRc x = true) (hB : ∀ x ∈ l, By x.b) (hM2 : ∀ x ∈ m, mayRc x = true) (hB2 : ∀ x ∈ m, By x.b) : scanRs (wholeRs t l ++ bytesRs m) = (t, l ++ m, (wholeRs t l ++ bytesRs m).length) := by
  have b1 := bytesRs_by hM hB
  have b2 := bytesRs_by hM2 hB2
  have b3 : By (record 2 []) := record_by (by decide) (by decide) By.nil
  have b4 : By (record 1 (num t)) := record_by (by decide) (by decide) (num_by t)
  have hnl : (num t).length ≤ 65536 := by rw [num_len]; have := nb_le t; omega
  have e : wholeRs t l ++ bytesRs m = record 1 (num t) ++ (bytesRs l ++ (record 2 [] ++ bytesRs m)) := by simp [wholeRs]
  have g := rec_got 1 (num t) (bytesRs l ++ (record 2 [] ++ bytesRs m)) (by decide) (by decide) hnl (num_by t) (b1.append (b3.append b2))
  have gn := getNum_num t (by omega) (by omega) []
  rw [List.append_nil] at gn
  have hh : headP (record 1 (num t) ++ (bytesRs l ++ (record 2 [] ++ bytesRs m))) = (t, (record 1 (num t)).length) := by
    rw [headP_num (by rw [g]; exact ⟨rfl, rfl⟩) (by rw [g]; exact gn), g]
    rw [if_neg (by simp only []; omega)]
  have k1 := tk_bytes l (record 2 [] ++ bytesRs m) hM hB (b3.append b2)
  rw [tk_end _ b2] at k1
  simp only [List.append_nil, Nat.add_zero] at k1
  have k2 := tk_bytes m [] hM2 hB2 By.nil
  rw [tk_nil] at k2
  simp only [List.append_nil, Nat.add_zero] at k2
  have g2 := rec_got 2 [] (bytesRs m) (by decide) (by decide) (by decide) By.nil b2
  rw [e, scan_whole _ (b4.append (b1.append (b3.append b2))), wholeP, hh]
  simp only [List.drop_left, k1]
  rw [if_neg (by omega), if_pos (by unfold endsAt; rw [g2]; exact ⟨rfl, rfl, rfl⟩), g2]
  simp only []
  rw [← List.drop_drop, List.drop_left, List.drop_left, k2]
  simp [Nat.add_assoc]
theorem whole_len (t : Int) (h1 : 1 ≤ t) (h2 : t < 256) (l : List Rc) : (wholeRs t l).length = (wholeRs 9 l).length := by
  have e : ∀ x : Int, 1 ≤ x → x < 256 → nb x = 1 := by
    intro x h1 h2
    unfold nb
    rw [if_neg (by omega), if_pos (by omega)]
  simp only [wholeRs, List.length_append, record_len, num_len, e t h1 h2, e 9 (by decide) (by decide)]
end Go.Proofs.Ytofalfaiamaapaa
