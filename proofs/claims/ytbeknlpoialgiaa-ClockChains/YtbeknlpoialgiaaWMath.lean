/- Numbers, texts and packs as bytes, as plain functions on lists of integers; what is put is got, and what is got, put again, is the same bytes. Nothing is asked but what each theorem names. -/
import Derived.Test.YtbeknlpoialgiaaMath
namespace Go.Proofs.Ytbeknlpoialgiaa

def By (l : List Int) : Prop := ∀ n ∈ l, 0 ≤ n ∧ n < 256
theorem By.nil : By [] := fun _ h => by cases h
theorem By.cons {a : Int} {l : List Int} (h0 : 0 ≤ a) (h1 : a < 256) (h : By l) : By (a :: l) := fun n hn => by
  rcases List.mem_cons.1 hn with rfl | hn
  · exact ⟨h0, h1⟩
  · exact h n hn
theorem By.append {l m : List Int} (h : By l) (k : By m) : By (l ++ m) := fun n hn => by
  rcases List.mem_append.1 hn with hn | hn
  · exact h n hn
  · exact k n hn
theorem By.take {l : List Int} (h : By l) (k : Nat) : By (l.take k) := fun n hn => h n (List.mem_of_mem_take hn)
theorem By.drop {l : List Int} (h : By l) (k : Nat) : By (l.drop k) := fun n hn => h n (List.mem_of_mem_drop hn)
theorem By.tail {a : Int} {l : List Int} (h : By (a :: l)) : By l := fun n hn => h n (List.mem_cons_of_mem _ hn)
theorem By.head {a : Int} {l : List Int} (h : By (a :: l)) : 0 ≤ a ∧ a < 256 := h a (List.mem_cons_self ..)
theorem By.flat {ps : List (List Int)} {f : List Int → List Int} (h : ∀ p ∈ ps, By (f p)) : By (ps.flatMap f) := fun n hn => by
  obtain ⟨p, hp, hn⟩ := List.mem_flatMap.1 hn
  exact h p hp n hn

/-- 'k' bytes of 'x', the highest first. -/
def be : Nat → Int → List Int
  | 0, _ => []
  | k + 1, x => (x / 256 ^ k % 256) :: be k x
def val (l : List Int) : Int := l.foldl (fun x o => x * 256 + o) 0
/-- How many bytes 'x' has. -/
def nb (x : Int) : Nat :=
  if x < 1 then 0 else if x < 256 then 1 else if x < 65536 then 2 else if x < 16777216 then 3 else if x < 4294967296 then 4
  else if x < 1099511627776 then 5 else if x < 281474976710656 then 6 else if x < 72057594037927936 then 7 else 8
def num (x : Int) : List Int := (nb x : Int) :: be (nb x) x

theorem pow_pos' (k : Nat) : (0 : Int) < 256 ^ k := Int.pow_pos (by decide)
theorem pow_s (k : Nat) : (256 : Int) ^ (k + 1) = 256 ^ k * 256 := Int.pow_succ ..
theorem be_len (k : Nat) (x : Int) : (be k x).length = k := by
  induction k with
  | zero => rfl
  | succ k ih => simp [be, ih]
theorem be_by (k : Nat) (x : Int) : By (be k x) := by
  induction k with
  | zero => exact By.nil
  | succ k ih => exact By.cons (by omega) (by omega) ih
theorem nb_le (x : Int) : nb x ≤ 8 := by unfold nb; repeat' split
                                         all_goals omega
theorem num_by (x : Int) : By (num x) := By.cons (by omega) (by have := nb_le x; omega) (be_by _ _)
theorem num_len (x : Int) : (num x).length = nb x + 1 := by simp [num, be_len]
theorem nb_hi (x : Int) (h : x < 18446744073709551616) : x < 256 ^ nb x := by
  unfold nb
  repeat' split
  all_goals omega
theorem nb_lo (x : Int) : nb x = 0 ∨ (256 : Int) ^ (nb x - 1) ≤ x := by
  unfold nb
  repeat' split
  all_goals first | (left; rfl) | (right; simp; omega)
theorem nb_is (x : Int) (k : Nat) (h0 : 0 ≤ x) (hk : k ≤ 8) (hi : x < 256 ^ k) (lo : k = 0 ∨ (256 : Int) ^ (k - 1) ≤ x) : nb x = k := by
  have h8 : k = 0 ∨ k = 1 ∨ k = 2 ∨ k = 3 ∨ k = 4 ∨ k = 5 ∨ k = 6 ∨ k = 7 ∨ k = 8 := by omega
  rcases h8 with rfl | rfl | rfl | rfl | rfl | rfl | rfl | rfl | rfl
  all_goals
    simp at hi lo
    unfold nb
    repeat' split
    all_goals omega

theorem foldl_val (l : List Int) : ∀ a : Int, l.foldl (fun x o => x * 256 + o) a = a * 256 ^ l.length + val l := by
  unfold val
  induction l with
  | nil => intro a; simp
  | cons d r ih =>
    intro a
    rw [List.foldl_cons, List.foldl_cons, ih, ih (0 * 256 + d), List.length_cons, pow_s, Int.zero_mul, Int.zero_add, Int.add_mul, Int.mul_assoc, Int.mul_comm 256 (256 ^ r.length), Int.add_assoc]
theorem val_cons (d : Int) (r : List Int) : val (d :: r) = d * 256 ^ r.length + val r := by
  show r.foldl (fun x o => x * 256 + o) (0 * 256 + d) = _
  rw [foldl_val, Int.zero_mul, Int.zero_add]
theorem val_append (l m : List Int) : val (l ++ m) = val l * 256 ^ m.length + val m := by
  show (l ++ m).foldl (fun x o => x * 256 + o) 0 = _
  rw [List.foldl_append, foldl_val]; rfl
theorem val_snoc (l : List Int) (d : Int) : val (l ++ [d]) = val l * 256 + d := by rw [val_append]; simp [val]
theorem val_bd (l : List Int) (h : By l) : 0 ≤ val l ∧ val l < 256 ^ l.length := by
  induction l with
  | nil => exact ⟨by decide, by decide⟩
  | cons d r ih =>
    have i := ih h.tail
    have hd := h.head
    rw [val_cons, List.length_cons, pow_s]
    have hp := pow_pos' r.length
    have h1 : 0 ≤ d * 256 ^ r.length := Int.mul_nonneg hd.1 (by omega)
    have h2 : d * 256 ^ r.length ≤ 255 * 256 ^ r.length := Int.mul_le_mul_of_nonneg_right (by omega) (by omega)
    omega
theorem be_mod (k : Nat) : ∀ (x c : Int), be k (c * 256 ^ k + x) = be k x := by
  induction k with
  | zero => intro x c; rfl
  | succ k ih =>
    intro x c
    show (_ :: _) = (_ :: _)
    have e : c * 256 ^ (k + 1) + x = c * 256 * 256 ^ k + x := by rw [pow_s, Int.mul_assoc, Int.mul_comm (256 ^ k) 256]
    rw [e, ih x (c * 256), Int.mul_comm (c * 256), Int.add_comm, Int.add_mul_ediv_left _ _ (by have := pow_pos' k; omega)]
    congr 1
    omega
theorem be_val (l : List Int) (h : By l) : be l.length (val l) = l := by
  induction l with
  | nil => rfl
  | cons d r ih =>
    have hd := h.head
    have b := val_bd r h.tail
    rw [val_cons, List.length_cons]
    show (_ :: _) = _
    rw [be_mod, ih h.tail, Int.add_comm, Int.mul_comm d, Int.add_mul_ediv_left _ _ (by have := pow_pos' r.length; omega), Int.ediv_eq_zero_of_lt b.1 b.2]
    congr 1
    omega
theorem val_be (k : Nat) (x : Int) : val (be k x) = x % 256 ^ k := by
  induction k with
  | zero => simp [be, val, Int.emod_one]
  | succ k ih =>
    show val (_ :: _) = _
    rw [val_cons, ih, be_len, pow_s]
    have hp := pow_pos' k
    have h1 := Int.mul_ediv_add_emod x (256 ^ k)
    have h2 : x % (256 ^ k * 256) = x - (256 ^ k * 256) * (x / (256 ^ k * 256)) := by have := Int.mul_ediv_add_emod x (256 ^ k * 256); omega
    rw [h2, ← Int.ediv_ediv_of_nonneg (by omega)]
    have h3 : x / 256 ^ k % 256 = x / 256 ^ k - 256 * (x / 256 ^ k / 256) := by omega
    rw [h3, Int.sub_mul, Int.mul_comm (x / 256 ^ k), Int.mul_comm (256 * _) (256 ^ k), ← Int.mul_assoc]
    omega

/-- No nought ahead. -/
abbrev nz (d : List Int) : Prop := d.headD 1 ≠ 0

theorem nb_val (d : List Int) (h : By d) (h8 : d.length ≤ 8) (hz : nz d) : nb (val d) = d.length := by
  have b := val_bd d h
  refine nb_is _ _ b.1 h8 b.2 ?_
  match d, h, hz with
  | [], _, _ => exact .inl rfl
  | a :: r, h, hz =>
    right
    have ha : 1 ≤ a := by
      have := h.head
      have : a ≠ 0 := hz
      omega
    have hr := (val_bd r h.tail).1
    have hp := pow_pos' r.length
    rw [val_cons, List.length_cons]
    have : 1 * 256 ^ r.length ≤ a * 256 ^ r.length := Int.mul_le_mul_of_nonneg_right ha (by omega)
    simp only [Nat.add_sub_cancel]
    omega
theorem nz_of_nb (d : List Int) (h : By d) (hn : nb (val d) = d.length) : nz d := by
  match d, h, hn with
  | [], _, _ => exact (by decide : (1 : Int) ≠ 0)
  | a :: r, h, hn =>
    intro ha
    have ha : a = 0 := ha
    subst ha
    have b := val_bd r h.tail
    rw [val_cons, Int.zero_mul, Int.zero_add, List.length_cons] at hn
    rcases nb_lo (val r) with h0 | h1
    · omega
    · rw [hn, Nat.add_sub_cancel] at h1
      omega
theorem num_val (d : List Int) (h : By d) (h8 : d.length ≤ 8) (hz : nz d) : num (val d) = (d.length : Int) :: d := by
  unfold num
  rw [nb_val d h h8 hz, be_val d h]
theorem num_val_iff (d : List Int) (h : By d) (h8 : d.length ≤ 8) : num (val d) = (d.length : Int) :: d ↔ nz d := by
  refine ⟨fun e => nz_of_nb d h ?_, num_val d h h8⟩
  have := congrArg List.length e
  rw [num_len] at this
  simpa using this

/-- The number that bytes begin with, and how many these are. -/
def getNum : List Int → Option (Int × Nat)
  | [] => none
  | c :: r => if 8 < c ∨ r.length < c.toNat ∨ ¬ nz (r.take c.toNat) then none else some (val (r.take c.toNat), c.toNat + 1)

theorem getNum_cons (c : Int) (r : List Int) : getNum (c :: r) = if 8 < c ∨ r.length < c.toNat ∨ ¬ nz (r.take c.toNat) then none else some (val (r.take c.toNat), c.toNat + 1) := rfl
theorem pow8 (k : Nat) (h : k ≤ 8) : (256 : Int) ^ k ≤ 18446744073709551616 := by
  have h8 : k = 0 ∨ k = 1 ∨ k = 2 ∨ k = 3 ∨ k = 4 ∨ k = 5 ∨ k = 6 ∨ k = 7 ∨ k = 8 := by omega
  rcases h8 with rfl | rfl | rfl | rfl | rfl | rfl | rfl | rfl | rfl <;> decide
theorem getNum_some {b : List Int} (hb : By b) {x : Int} {n : Nat} (h : getNum b = some (x, n)) :
    0 ≤ x ∧ x < 18446744073709551616 ∧ 1 ≤ n ∧ n ≤ 9 ∧ n ≤ b.length ∧ num x = b.take n ∧ nb x + 1 = n := by
  match b, hb, h with
  | c :: r, hb, h =>
    rw [getNum_cons] at h
    split at h
    · cases h
    · rename_i hc
      simp only [Option.some.injEq, Prod.mk.injEq] at h
      obtain ⟨rfl, rfl⟩ := h
      have hc0 := hb.head
      have hd : By (r.take c.toNat) := hb.tail.take _
      have hl : (r.take c.toNat).length = c.toNat := by rw [List.length_take]; omega
      have bd := val_bd _ hd
      have hp := pow8 c.toNat (by omega)
      rw [hl] at bd
      have hnz : nz (r.take c.toNat) := by
        rcases Decidable.em (nz (r.take c.toNat)) with h' | h'
        · exact h'
        · exact absurd (.inr (.inr h')) hc
      refine ⟨bd.1, by omega, by omega, by omega, by simp; omega, ?_, ?_⟩
      · rw [num_val _ hd (by omega) hnz, hl, List.take_succ_cons]
        congr 1
        omega
      · rw [nb_val _ hd (by omega) hnz, hl]
theorem getNum_num (x : Int) (h0 : 0 ≤ x) (h1 : x < 18446744073709551616) (m : List Int) : getNum (num x ++ m) = some (x, (num x).length) := by
  have h8 := nb_le x
  have hl := be_len (nb x) x
  have ht : (be (nb x) x ++ m).take (nb x) = be (nb x) x := by rw [List.take_append_of_le_length (by omega), List.take_of_length_le (by omega)]
  have hv : val (be (nb x) x) = x := by rw [val_be]; exact Int.emod_eq_of_lt h0 (nb_hi x h1)
  have hz : nz (be (nb x) x) := nz_of_nb _ (be_by _ _) (by rw [hv, hl])
  show (if 8 < (nb x : Int) ∨ (be (nb x) x ++ m).length < (nb x : Int).toNat ∨ ¬ nz ((be (nb x) x ++ m).take (nb x : Int).toNat) then none else some (val ((be (nb x) x ++ m).take (nb x : Int).toNat), (nb x : Int).toNat + 1)) = _
  rw [Int.toNat_natCast, ht, if_neg, hv, num_len]
  rintro (h | h | h)
  · omega
  · rw [List.length_append] at h; omega
  · exact h hz

def text (t : List Int) : List Int := num t.length ++ t
def getText (b : List Int) : Option (List Int × Nat) :=
  match getNum b with
  | none => none
  | some (u, n) => if 65536 < u ∨ b.length < n + u.toNat then none else some ((b.drop n).take u.toNat, n + u.toNat)
theorem text_by {t : List Int} (h : By t) : By (text t) := (num_by _).append h
theorem getText_some {b : List Int} (hb : By b) {t : List Int} {n : Nat} (h : getText b = some (t, n)) :
    1 ≤ n ∧ n ≤ b.length ∧ text t = b.take n ∧ t.length ≤ 65536 ∧ By t := by
  unfold getText at h
  split at h
  · cases h
  · rename_i u k hk
    split at h
    · cases h
    · rename_i hu
      simp only [Option.some.injEq, Prod.mk.injEq] at h
      obtain ⟨rfl, rfl⟩ := h
      obtain ⟨g0, g1, g2, g3, g4, g5, g6⟩ := getNum_some hb hk
      have hl : ((b.drop k).take u.toNat).length = u.toNat := by rw [List.length_take, List.length_drop]; omega
      refine ⟨by omega, by omega, ?_, by omega, (hb.drop _).take _⟩
      unfold text
      rw [hl, Int.toNat_of_nonneg g0, g5, List.take_add]
theorem getText_text (t : List Int) (ht : t.length ≤ 65536) (m : List Int) : getText (text t ++ m) = some (t, (text t).length) := by
  unfold getText text
  rw [List.append_assoc, getNum_num _ (by omega) (by omega)]
  simp only []
  rw [if_neg, List.drop_left, Int.toNat_natCast, List.take_left, List.length_append]
  rw [List.length_append, List.length_append]
  omega

def pack (l : List (List Int)) : List Int := num l.length ++ l.flatMap text
/-- So many texts. -/
def gets : Nat → List Int → Option (List (List Int) × Nat)
  | 0, _ => some ([], 0)
  | k + 1, b => match getText b with
    | none => none
    | some (t, n) => match gets k (b.drop n) with
      | none => none
      | some (l, m) => some (t :: l, n + m)
def unpack (b : List Int) (most : Int) : Option (List (List Int) × Nat) :=
  match getNum b with
  | none => none
  | some (u, n) => if most < u then none else match gets u.toNat (b.drop n) with
    | none => none
    | some (l, m) => some (l, n + m)
theorem gets_some (k : Nat) : ∀ {b : List Int} (_ : By b) {l : List (List Int)} {n : Nat} (_ : gets k b = some (l, n)),
    n ≤ b.length ∧ l.length = k ∧ l.flatMap text = b.take n ∧ ∀ t ∈ l, t.length ≤ 65536 ∧ By t := by
  induction k with
  | zero =>
    intro b _ l n h
    simp only [gets, Option.some.injEq, Prod.mk.injEq] at h
    obtain ⟨rfl, rfl⟩ := h
    exact ⟨Nat.zero_le _, rfl, rfl, fun t ht => by cases ht⟩
  | succ k ih =>
    intro b hb l n h
    unfold gets at h
    split at h
    · cases h
    · rename_i t m hm
      split at h
      · cases h
      · rename_i l' m' hm'
        simp only [Option.some.injEq, Prod.mk.injEq] at h
        obtain ⟨rfl, rfl⟩ := h
        obtain ⟨g1, g2, g3, g4, g5⟩ := getText_some hb hm
        obtain ⟨i1, i2, i3, i4⟩ := ih (hb.drop m) hm'
        rw [List.length_drop] at i1
        refine ⟨by omega, by simp [i2], ?_, fun x hx => ?_⟩
        · rw [List.flatMap_cons, i3, g3, List.take_add]
        · rcases List.mem_cons.1 hx with rfl | hx
          · exact ⟨g4, g5⟩
          · exact i4 x hx
theorem gets_texts (l : List (List Int)) (hl : ∀ t ∈ l, t.length ≤ 65536) (m : List Int) : gets l.length (l.flatMap text ++ m) = some (l, (l.flatMap text).length) := by
  induction l with
  | nil => rfl
  | cons t l ih =>
    rw [List.length_cons, List.flatMap_cons, List.append_assoc]
    unfold gets
    rw [getText_text t (hl t (List.mem_cons_self ..))]
    simp only []
    rw [List.drop_left, ih (fun x hx => hl x (List.mem_cons_of_mem _ hx))]
    simp
theorem unpack_some {b : List Int} (hb : By b) {most : Int} {l : List (List Int)} {n : Nat} (h : unpack b most = some (l, n)) :
    1 ≤ n ∧ n ≤ b.length ∧ pack l = b.take n ∧ ∀ t ∈ l, t.length ≤ 65536 ∧ By t := by
  unfold unpack at h
  split at h
  · cases h
  · rename_i u k hk
    obtain ⟨g0, g1, g2, g3, g4, g5, g6⟩ := getNum_some hb hk
    split at h
    · cases h
    · split at h
      · cases h
      · rename_i l' m' hm'
        simp only [Option.some.injEq, Prod.mk.injEq] at h
        obtain ⟨rfl, rfl⟩ := h
        obtain ⟨i1, i2, i3, i4⟩ := gets_some _ (hb.drop k) hm'
        rw [List.length_drop] at i1
        refine ⟨by omega, by omega, ?_, i4⟩
        unfold pack
        rw [i2, Int.toNat_of_nonneg g0, g5, i3, List.take_add]
theorem unpack_pack (l : List (List Int)) (hn : l.length < 9223372036854775808) (hl : ∀ t ∈ l, t.length ≤ 65536) (m : List Int) (most : Int) (hm : (l.length : Int) ≤ most) :
    unpack (pack l ++ m) most = some (l, (pack l).length) := by
  unfold unpack pack
  rw [List.append_assoc, getNum_num _ (by omega) (by omega)]
  simp only []
  rw [if_neg (by omega), List.drop_left, Int.toNat_natCast, gets_texts l hl]
  simp
end Go.Proofs.Ytbeknlpoialgiaa
