/- Texts of this claim, joined: Math, WMath, CMath, RMath, DMath, Base, Of, Ref, Run, Row, Cut, WOwn, CNum, CCheck, CArr, CPlain, CJoin, CWithin, CFun, CSet, EMath, COrd, CJoinAll, CRef, CRef2. -/
import Derived.Laws.Bits64
import Derived.Test.YtohhlidlgibieaaRows
import Derived.WalkKit
import Derived.WalkSpells
import Derived.WalkLawsBesides
import Derived.Handy
import Derived.Lib.SlBytesConst
import Derived.Laws.AppendOwnNone
import Derived.Laws.BytesArg
import Derived.Deep.RegionHeld3
import Derived.Laws.CopyOwn
import Derived.Laws.Rows
import Derived.Deep.WholeRow
import Derived.ChangeKeysEq
import Derived.Laws.StructEq
/- The sum of bytes as plain functions on integers, step by step as the Go text reckons it; bounds of each; how parts join. Nothing is asked but what each theorem names. -/
namespace Go.Proofs.Ytohhlidlgibieaa

def stp (r b : Int) : Int := if (r / 2147483648 != b) = true then bits .xor .u32 (r * 2 % 4294967296) 79764919 else r * 2 % 4294967296
def fd : Nat → Int → Int → Int
  | 0, r, _ => r
  | k + 1, r, o => fd k (stp r (o / 128)) (o * 2 % 256)
def feed (r o : Int) : Int := fd 8 r o
def cpl (r : Int) : Int := bits .xor .u32 IntKind.u32.max r
def on (s : Int) (l : List Int) : Int := cpl (l.foldl feed (cpl s))
def of (ps : List (List Int)) : Int := ps.foldl on 0

theorem u32_wrap (n : Int) : IntKind.u32.wrap n = n % 4294967296 := by simp [IntKind.wrap, IntKind.bits, IntKind.signed]

theorem xor32_bd (a b : Int) : 0 ≤ bits .xor .u32 a b ∧ bits .xor .u32 a b < 4294967296 := by
  show 0 ≤ IntKind.u32.wrap _ ∧ IntKind.u32.wrap _ < 4294967296
  rw [u32_wrap]; omega

theorem xor32_nat (a b : Nat) (ha : a < 4294967296) (hb : b < 4294967296) :
    bits .xor .u32 (a : Int) (b : Int) = ((a ^^^ b : Nat) : Int) := by
  have hx : a ^^^ b < 2 ^ 32 := Nat.xor_lt_two_pow (by omega) (by omega)
  have h1 : (BitVec.ofInt 32 (a : Int)).toNat = a := by
    rw [BitVec.ofInt_natCast, BitVec.toNat_ofNat]; exact Nat.mod_eq_of_lt (by omega)
  have h2 : (BitVec.ofInt 32 (b : Int)).toNat = b := by
    rw [BitVec.ofInt_natCast, BitVec.toNat_ofNat]; exact Nat.mod_eq_of_lt (by omega)
  show IntKind.u32.wrap ((BitVec.ofInt 32 (a : Int) ^^^ BitVec.ofInt 32 (b : Int)).toNat : Int) = _
  rw [BitVec.toNat_xor, h1, h2, u32_wrap]
  omega

theorem stp_bd (r b : Int) : 0 ≤ stp r b ∧ stp r b < 4294967296 := by
  unfold stp; split
  · exact xor32_bd _ _
  · omega
theorem fd_bd (k : Nat) : ∀ (r o : Int), 0 ≤ r → r < 4294967296 → 0 ≤ fd k r o ∧ fd k r o < 4294967296 := by
  induction k with
  | zero => intro r o h1 h2; exact ⟨h1, h2⟩
  | succ k ih => intro r o _ _; exact ih _ _ (stp_bd _ _).1 (stp_bd _ _).2
theorem feed_bd (r o : Int) (h1 : 0 ≤ r) (h2 : r < 4294967296) : 0 ≤ feed r o ∧ feed r o < 4294967296 := fd_bd 8 r o h1 h2
theorem cpl_bd (r : Int) : 0 ≤ cpl r ∧ cpl r < 4294967296 := xor32_bd _ _
theorem foldl_bd (l : List Int) : ∀ (r : Int), 0 ≤ r → r < 4294967296 → 0 ≤ l.foldl feed r ∧ l.foldl feed r < 4294967296 := by
  induction l with
  | nil => intro r h1 h2; exact ⟨h1, h2⟩
  | cons a l ih => intro r h1 h2; exact ih _ (feed_bd _ _ h1 h2).1 (feed_bd _ _ h1 h2).2
theorem on_bd (s : Int) (l : List Int) : 0 ≤ on s l ∧ on s l < 4294967296 := cpl_bd _
theorem of_bd_from (ps : List (List Int)) : ∀ s, 0 ≤ s → s < 4294967296 → 0 ≤ ps.foldl on s ∧ ps.foldl on s < 4294967296 := by
  induction ps with
  | nil => intro r h1 h2; exact ⟨h1, h2⟩
  | cons a l ih => intro r _ _; exact ih _ (on_bd _ _).1 (on_bd _ _).2
theorem of_bd (ps : List (List Int)) : 0 ≤ of ps ∧ of ps < 4294967296 := of_bd_from ps 0 (by omega) (by omega)

theorem cpl_cpl (r : Int) (h1 : 0 ≤ r) (h2 : r < 4294967296) : cpl (cpl r) = r := by
  obtain ⟨n, rfl⟩ := Int.eq_ofNat_of_zero_le h1
  unfold cpl
  rw [show IntKind.u32.max = ((4294967295 : Nat) : Int) from by decide]
  have hn : n < 4294967296 := by omega
  rw [xor32_nat _ _ (by omega) hn, xor32_nat _ _ (by omega) (Nat.xor_lt_two_pow (n := 32) (by omega) (by omega)), ← Nat.xor_assoc, Nat.xor_self, Nat.zero_xor]

theorem on_nil (s : Int) (h1 : 0 ≤ s) (h2 : s < 4294967296) : on s [] = s := cpl_cpl s h1 h2
theorem on_append (s : Int) (l m : List Int) : on s (l ++ m) = on (on s l) m := by
  unfold on
  rw [List.foldl_append, cpl_cpl _ (foldl_bd l _ (cpl_bd s).1 (cpl_bd s).2).1 (foldl_bd l _ (cpl_bd s).1 (cpl_bd s).2).2]
theorem awake_eq : of [[49, 50, 51, 52], [53, 54, 55, 56, 57]] = 4236843288 := by decide +kernel

end Go.Proofs.Ytohhlidlgibieaa

/- Numbers, texts and packs as bytes, as plain functions on lists of integers; what is put is got, and what is got, put again, is the same bytes. Nothing is asked but what each theorem names. -/
namespace Go.Proofs.Ytohhlidlgibieaa

def By (l : List Int) : Prop := ∀ n ∈ l, 0 ≤ n ∧ n < 256
theorem By.nil : By [] := fun _ h => by cases h
theorem By.cons {a : Int} {l : List Int} (h0 : 0 ≤ a) (h1 : a < 256) (h : By l) : By (a :: l) := fun n hn => by
  rcases List.mem_cons.1 hn with rfl | hn
  · exact ⟨h0, h1⟩
  · exact h n hn
theorem By.append {l m : List Int} (h : By l) (k : By m) : By (l ++ m) := fun n hn => by
  rcases List.mem_append.1 hn with hn | hn
  · exact h n hn
  · exact k n hn
theorem By.take {l : List Int} (h : By l) (k : Nat) : By (l.take k) := fun n hn => h n (List.mem_of_mem_take hn)
theorem By.drop {l : List Int} (h : By l) (k : Nat) : By (l.drop k) := fun n hn => h n (List.mem_of_mem_drop hn)
theorem By.tail {a : Int} {l : List Int} (h : By (a :: l)) : By l := fun n hn => h n (List.mem_cons_of_mem _ hn)
theorem By.head {a : Int} {l : List Int} (h : By (a :: l)) : 0 ≤ a ∧ a < 256 := h a (List.mem_cons_self ..)
theorem By.flat {ps : List (List Int)} {f : List Int → List Int} (h : ∀ p ∈ ps, By (f p)) : By (ps.flatMap f) := fun n hn => by
  obtain ⟨p, hp, hn⟩ := List.mem_flatMap.1 hn
  exact h p hp n hn

/-- 'k' bytes of 'x', the highest first. -/
def be : Nat → Int → List Int
  | 0, _ => []
  | k + 1, x => (x / 256 ^ k % 256) :: be k x
def val (l : List Int) : Int := l.foldl (fun x o => x * 256 + o) 0
/-- How many bytes 'x' has. -/
def nb (x : Int) : Nat :=
  if x < 1 then 0 else if x < 256 then 1 else if x < 65536 then 2 else if x < 16777216 then 3 else if x < 4294967296 then 4
  else if x < 1099511627776 then 5 else if x < 281474976710656 then 6 else if x < 72057594037927936 then 7 else 8
def num (x : Int) : List Int := (nb x : Int) :: be (nb x) x

theorem pow_pos' (k : Nat) : (0 : Int) < 256 ^ k := Int.pow_pos (by decide)
theorem pow_s (k : Nat) : (256 : Int) ^ (k + 1) = 256 ^ k * 256 := Int.pow_succ ..
theorem be_len (k : Nat) (x : Int) : (be k x).length = k := by
  induction k with
  | zero => rfl
  | succ k ih => simp [be, ih]
theorem be_by (k : Nat) (x : Int) : By (be k x) := by
  induction k with
  | zero => exact By.nil
  | succ k ih => exact By.cons (by omega) (by omega) ih
theorem nb_le (x : Int) : nb x ≤ 8 := by unfold nb; repeat' split
                                         all_goals omega
theorem num_by (x : Int) : By (num x) := By.cons (by omega) (by have := nb_le x; omega) (be_by _ _)
theorem num_len (x : Int) : (num x).length = nb x + 1 := by simp [num, be_len]
theorem nb_hi (x : Int) (h : x < 18446744073709551616) : x < 256 ^ nb x := by
  unfold nb
  repeat' split
  all_goals omega
theorem nb_lo (x : Int) : nb x = 0 ∨ (256 : Int) ^ (nb x - 1) ≤ x := by
  unfold nb
  repeat' split
  all_goals first | (left; rfl) | (right; simp; omega)
theorem nb_is (x : Int) (k : Nat) (h0 : 0 ≤ x) (hk : k ≤ 8) (hi : x < 256 ^ k) (lo : k = 0 ∨ (256 : Int) ^ (k - 1) ≤ x) : nb x = k := by
  have h8 : k = 0 ∨ k = 1 ∨ k = 2 ∨ k = 3 ∨ k = 4 ∨ k = 5 ∨ k = 6 ∨ k = 7 ∨ k = 8 := by omega
  rcases h8 with rfl | rfl | rfl | rfl | rfl | rfl | rfl | rfl | rfl
  all_goals
    simp at hi lo
    unfold nb
    repeat' split
    all_goals omega

theorem foldl_val (l : List Int) : ∀ a : Int, l.foldl (fun x o => x * 256 + o) a = a * 256 ^ l.length + val l := by
  unfold val
  induction l with
  | nil => intro a; simp
  | cons d r ih =>
    intro a
    rw [List.foldl_cons, List.foldl_cons, ih, ih (0 * 256 + d), List.length_cons, pow_s, Int.zero_mul, Int.zero_add, Int.add_mul, Int.mul_assoc, Int.mul_comm 256 (256 ^ r.length), Int.add_assoc]
theorem val_cons (d : Int) (r : List Int) : val (d :: r) = d * 256 ^ r.length + val r := by
  show r.foldl (fun x o => x * 256 + o) (0 * 256 + d) = _
  rw [foldl_val, Int.zero_mul, Int.zero_add]
theorem val_append (l m : List Int) : val (l ++ m) = val l * 256 ^ m.length + val m := by
  show (l ++ m).foldl (fun x o => x * 256 + o) 0 = _
  rw [List.foldl_append, foldl_val]; rfl
theorem val_snoc (l : List Int) (d : Int) : val (l ++ [d]) = val l * 256 + d := by rw [val_append]; simp [val]
theorem val_bd (l : List Int) (h : By l) : 0 ≤ val l ∧ val l < 256 ^ l.length := by
  induction l with
  | nil => exact ⟨by decide, by decide⟩
  | cons d r ih =>
    have i := ih h.tail
    have hd := h.head
    rw [val_cons, List.length_cons, pow_s]
    have hp := pow_pos' r.length
    have h1 : 0 ≤ d * 256 ^ r.length := Int.mul_nonneg hd.1 (by omega)
    have h2 : d * 256 ^ r.length ≤ 255 * 256 ^ r.length := Int.mul_le_mul_of_nonneg_right (by omega) (by omega)
    omega
theorem be_mod (k : Nat) : ∀ (x c : Int), be k (c * 256 ^ k + x) = be k x := by
  induction k with
  | zero => intro x c; rfl
  | succ k ih =>
    intro x c
    show (_ :: _) = (_ :: _)
    have e : c * 256 ^ (k + 1) + x = c * 256 * 256 ^ k + x := by rw [pow_s, Int.mul_assoc, Int.mul_comm (256 ^ k) 256]
    rw [e, ih x (c * 256), Int.mul_comm (c * 256), Int.add_comm, Int.add_mul_ediv_left _ _ (by have := pow_pos' k; omega)]
    congr 1
    omega
theorem be_val (l : List Int) (h : By l) : be l.length (val l) = l := by
  induction l with
  | nil => rfl
  | cons d r ih =>
    have hd := h.head
    have b := val_bd r h.tail
    rw [val_cons, List.length_cons]
    show (_ :: _) = _
    rw [be_mod, ih h.tail, Int.add_comm, Int.mul_comm d, Int.add_mul_ediv_left _ _ (by have := pow_pos' r.length; omega), Int.ediv_eq_zero_of_lt b.1 b.2]
    congr 1
    omega
theorem val_be (k : Nat) (x : Int) : val (be k x) = x % 256 ^ k := by
  induction k with
  | zero => simp [be, val, Int.emod_one]
  | succ k ih =>
    show val (_ :: _) = _
    rw [val_cons, ih, be_len, pow_s]
    have hp := pow_pos' k
    have h1 := Int.mul_ediv_add_emod x (256 ^ k)
    have h2 : x % (256 ^ k * 256) = x - (256 ^ k * 256) * (x / (256 ^ k * 256)) := by have := Int.mul_ediv_add_emod x (256 ^ k * 256); omega
    rw [h2, ← Int.ediv_ediv_of_nonneg (by omega)]
    have h3 : x / 256 ^ k % 256 = x / 256 ^ k - 256 * (x / 256 ^ k / 256) := by omega
    rw [h3, Int.sub_mul, Int.mul_comm (x / 256 ^ k), Int.mul_comm (256 * _) (256 ^ k), ← Int.mul_assoc]
    omega

/-- No nought ahead. -/
def nz (d : List Int) : Prop := d.headD 1 ≠ 0
instance (d : List Int) : Decidable (nz d) := inferInstanceAs (Decidable (_ ≠ _))

theorem nb_val (d : List Int) (h : By d) (h8 : d.length ≤ 8) (hz : nz d) : nb (val d) = d.length := by
  have b := val_bd d h
  refine nb_is _ _ b.1 h8 b.2 ?_
  match d, h, hz with
  | [], _, _ => exact .inl rfl
  | a :: r, h, hz =>
    right
    have ha : 1 ≤ a := by
      have := h.head
      have : a ≠ 0 := hz
      omega
    have hr := (val_bd r h.tail).1
    have hp := pow_pos' r.length
    rw [val_cons, List.length_cons]
    have : 1 * 256 ^ r.length ≤ a * 256 ^ r.length := Int.mul_le_mul_of_nonneg_right ha (by omega)
    simp only [Nat.add_sub_cancel]
    omega
theorem nz_of_nb (d : List Int) (h : By d) (hn : nb (val d) = d.length) : nz d := by
  match d, h, hn with
  | [], _, _ => exact (by decide : (1 : Int) ≠ 0)
  | a :: r, h, hn =>
    intro ha
    have ha : a = 0 := ha
    subst ha
    have b := val_bd r h.tail
    rw [val_cons, Int.zero_mul, Int.zero_add, List.length_cons] at hn
    rcases nb_lo (val r) with h0 | h1
    · omega
    · rw [hn, Nat.add_sub_cancel] at h1
      omega
theorem num_val (d : List Int) (h : By d) (h8 : d.length ≤ 8) (hz : nz d) : num (val d) = (d.length : Int) :: d := by
  unfold num
  rw [nb_val d h h8 hz, be_val d h]
theorem num_val_iff (d : List Int) (h : By d) (h8 : d.length ≤ 8) : num (val d) = (d.length : Int) :: d ↔ nz d := by
  refine ⟨fun e => nz_of_nb d h ?_, num_val d h h8⟩
  have := congrArg List.length e
  rw [num_len] at this
  simpa using this

/-- The number that bytes begin with, and how many these are. -/
def getNum : List Int → Option (Int × Nat)
  | [] => none
  | c :: r => if 8 < c ∨ r.length < c.toNat ∨ ¬ nz (r.take c.toNat) then none else some (val (r.take c.toNat), c.toNat + 1)

theorem getNum_cons (c : Int) (r : List Int) : getNum (c :: r) = if 8 < c ∨ r.length < c.toNat ∨ ¬ nz (r.take c.toNat) then none else some (val (r.take c.toNat), c.toNat + 1) := rfl
theorem pow8 (k : Nat) (h : k ≤ 8) : (256 : Int) ^ k ≤ 18446744073709551616 := by
  have h8 : k = 0 ∨ k = 1 ∨ k = 2 ∨ k = 3 ∨ k = 4 ∨ k = 5 ∨ k = 6 ∨ k = 7 ∨ k = 8 := by omega
  rcases h8 with rfl | rfl | rfl | rfl | rfl | rfl | rfl | rfl | rfl <;> decide
theorem getNum_some {b : List Int} (hb : By b) {x : Int} {n : Nat} (h : getNum b = some (x, n)) :
    0 ≤ x ∧ x < 18446744073709551616 ∧ 1 ≤ n ∧ n ≤ 9 ∧ n ≤ b.length ∧ num x = b.take n ∧ nb x + 1 = n := by
  match b, hb, h with
  | c :: r, hb, h =>
    rw [getNum_cons] at h
    split at h
    · cases h
    · rename_i hc
      simp only [Option.some.injEq, Prod.mk.injEq] at h
      obtain ⟨rfl, rfl⟩ := h
      have hc0 := hb.head
      have hd : By (r.take c.toNat) := hb.tail.take _
      have hl : (r.take c.toNat).length = c.toNat := by rw [List.length_take]; omega
      have bd := val_bd _ hd
      have hp := pow8 c.toNat (by omega)
      rw [hl] at bd
      have hnz : nz (r.take c.toNat) := by
        rcases Decidable.em (nz (r.take c.toNat)) with h' | h'
        · exact h'
        · exact absurd (.inr (.inr h')) hc
      refine ⟨bd.1, by omega, by omega, by omega, by simp; omega, ?_, ?_⟩
      · rw [num_val _ hd (by omega) hnz, hl, List.take_succ_cons]
        congr 1
        omega
      · rw [nb_val _ hd (by omega) hnz, hl]
theorem getNum_num (x : Int) (h0 : 0 ≤ x) (h1 : x < 18446744073709551616) (m : List Int) : getNum (num x ++ m) = some (x, (num x).length) := by
  have h8 := nb_le x
  have hl := be_len (nb x) x
  have ht : (be (nb x) x ++ m).take (nb x) = be (nb x) x := by rw [List.take_append_of_le_length (by omega), List.take_of_length_le (by omega)]
  have hv : val (be (nb x) x) = x := by rw [val_be]; exact Int.emod_eq_of_lt h0 (nb_hi x h1)
  have hz : nz (be (nb x) x) := nz_of_nb _ (be_by _ _) (by rw [hv, hl])
  show (if 8 < (nb x : Int) ∨ (be (nb x) x ++ m).length < (nb x : Int).toNat ∨ ¬ nz ((be (nb x) x ++ m).take (nb x : Int).toNat) then none else some (val ((be (nb x) x ++ m).take (nb x : Int).toNat), (nb x : Int).toNat + 1)) = _
  rw [Int.toNat_natCast, ht, if_neg, hv, num_len]
  rintro (h | h | h)
  · omega
  · rw [List.length_append] at h; omega
  · exact h hz

def text (t : List Int) : List Int := num t.length ++ t
def getText (b : List Int) : Option (List Int × Nat) :=
  match getNum b with
  | none => none
  | some (u, n) => if 65536 < u ∨ b.length < n + u.toNat then none else some ((b.drop n).take u.toNat, n + u.toNat)
theorem text_by {t : List Int} (h : By t) : By (text t) := (num_by _).append h
theorem getText_some {b : List Int} (hb : By b) {t : List Int} {n : Nat} (h : getText b = some (t, n)) :
    1 ≤ n ∧ n ≤ b.length ∧ text t = b.take n ∧ t.length ≤ 65536 ∧ By t := by
  unfold getText at h
  split at h
  · cases h
  · rename_i u k hk
    split at h
    · cases h
    · rename_i hu
      simp only [Option.some.injEq, Prod.mk.injEq] at h
      obtain ⟨rfl, rfl⟩ := h
      obtain ⟨g0, g1, g2, g3, g4, g5, g6⟩ := getNum_some hb hk
      have hl : ((b.drop k).take u.toNat).length = u.toNat := by rw [List.length_take, List.length_drop]; omega
      refine ⟨by omega, by omega, ?_, by omega, (hb.drop _).take _⟩
      unfold text
      rw [hl, Int.toNat_of_nonneg g0, g5, List.take_add]
theorem getText_text (t : List Int) (ht : t.length ≤ 65536) (m : List Int) : getText (text t ++ m) = some (t, (text t).length) := by
  unfold getText text
  rw [List.append_assoc, getNum_num _ (by omega) (by omega)]
  simp only []
  rw [if_neg, List.drop_left, Int.toNat_natCast, List.take_left, List.length_append]
  rw [List.length_append, List.length_append]
  omega

def pack (l : List (List Int)) : List Int := num l.length ++ l.flatMap text
/-- So many texts. -/
def gets : Nat → List Int → Option (List (List Int) × Nat)
  | 0, _ => some ([], 0)
  | k + 1, b => match getText b with
    | none => none
    | some (t, n) => match gets k (b.drop n) with
      | none => none
      | some (l, m) => some (t :: l, n + m)
def unpack (b : List Int) (most : Int) : Option (List (List Int) × Nat) :=
  match getNum b with
  | none => none
  | some (u, n) => if most < u then none else match gets u.toNat (b.drop n) with
    | none => none
    | some (l, m) => some (l, n + m)
theorem gets_some (k : Nat) : ∀ {b : List Int} (_ : By b) {l : List (List Int)} {n : Nat} (_ : gets k b = some (l, n)),
    n ≤ b.length ∧ l.length = k ∧ l.flatMap text = b.take n ∧ ∀ t ∈ l, t.length ≤ 65536 ∧ By t := by
  induction k with
  | zero =>
    intro b _ l n h
    simp only [gets, Option.some.injEq, Prod.mk.injEq] at h
    obtain ⟨rfl, rfl⟩ := h
    exact ⟨Nat.zero_le _, rfl, rfl, fun t ht => by cases ht⟩
  | succ k ih =>
    intro b hb l n h
    unfold gets at h
    split at h
    · cases h
    · rename_i t m hm
      split at h
      · cases h
      · rename_i l' m' hm'
        simp only [Option.some.injEq, Prod.mk.injEq] at h
        obtain ⟨rfl, rfl⟩ := h
        obtain ⟨g1, g2, g3, g4, g5⟩ := getText_some hb hm
        obtain ⟨i1, i2, i3, i4⟩ := ih (hb.drop m) hm'
        rw [List.length_drop] at i1
        refine ⟨by omega, by simp [i2], ?_, fun x hx => ?_⟩
        · rw [List.flatMap_cons, i3, g3, List.take_add]
        · rcases List.mem_cons.1 hx with rfl | hx
          · exact ⟨g4, g5⟩
          · exact i4 x hx
theorem gets_texts (l : List (List Int)) (hl : ∀ t ∈ l, t.length ≤ 65536) (m : List Int) : gets l.length (l.flatMap text ++ m) = some (l, (l.flatMap text).length) := by
  induction l with
  | nil => rfl
  | cons t l ih =>
    rw [List.length_cons, List.flatMap_cons, List.append_assoc]
    unfold gets
    rw [getText_text t (hl t (List.mem_cons_self ..))]
    simp only []
    rw [List.drop_left, ih (fun x hx => hl x (List.mem_cons_of_mem _ hx))]
    simp
theorem unpack_some {b : List Int} (hb : By b) {most : Int} {l : List (List Int)} {n : Nat} (h : unpack b most = some (l, n)) :
    1 ≤ n ∧ n ≤ b.length ∧ pack l = b.take n ∧ ∀ t ∈ l, t.length ≤ 65536 ∧ By t := by
  unfold unpack at h
  split at h
  · cases h
  · rename_i u k hk
    obtain ⟨g0, g1, g2, g3, g4, g5, g6⟩ := getNum_some hb hk
    split at h
    · cases h
    · split at h
      · cases h
      · rename_i l' m' hm'
        simp only [Option.some.injEq, Prod.mk.injEq] at h
        obtain ⟨rfl, rfl⟩ := h
        obtain ⟨i1, i2, i3, i4⟩ := gets_some _ (hb.drop k) hm'
        rw [List.length_drop] at i1
        refine ⟨by omega, by omega, ?_, i4⟩
        unfold pack
        rw [i2, Int.toNat_of_nonneg g0, g5, i3, List.take_add]
theorem unpack_pack (l : List (List Int)) (hn : l.length < 9223372036854775808) (hl : ∀ t ∈ l, t.length ≤ 65536) (m : List Int) (most : Int) (hm : (l.length : Int) ≤ most) :
    unpack (pack l ++ m) most = some (l, (pack l).length) := by
  unfold unpack pack
  rw [List.append_assoc, getNum_num _ (by omega) (by omega)]
  simp only []
  rw [if_neg (by omega), List.drop_left, Int.toNat_natCast, gets_texts l hl]
  simp
end Go.Proofs.Ytohhlidlgibieaa

/- Clocks in plain mathematics: a replica's number, five of them, and a clock without noughts at its end. -/
namespace Go.Proofs.Ytohhlidlgibieaa

/-- May a number stand in a clock? -/
def inB (x : Int) : Bool := decide (0 ≤ x) && decide (x ≤ 1048576)
/-- May a clock be? -/
def mayC (c : List Int) : Bool := decide (c.length ≤ 5) && c.all inB
/-- A replica's number, replicas counted from 0. -/
def at5 (c : List Int) (k : Nat) : Int := if mayC c = true then c.getD k 0 else 0
/-- All five numbers. -/
def vec (c : List Int) : List Int := [at5 c 0, at5 c 1, at5 c 2, at5 c 3, at5 c 4]
/-- How many numbers stand ahead of the noughts at the end. -/
def plen : List Int → Nat
  | [] => 0
  | a :: r => if plen r = 0 ∧ a = 0 then 0 else plen r + 1
/-- Without noughts at the end. -/
def pln (x : List Int) : List Int := x.take (plen x)

theorem inB_iff {x : Int} : inB x = true ↔ 0 ≤ x ∧ x ≤ 1048576 := by simp [inB]
theorem mayC_iff {c : List Int} : mayC c = true ↔ c.length ≤ 5 ∧ ∀ x ∈ c, 0 ≤ x ∧ x ≤ 1048576 := by simp [mayC, inB]
theorem plen_le : ∀ x : List Int, plen x ≤ x.length
  | [] => Nat.le_refl _
  | a :: r => by
    have := plen_le r
    unfold plen
    split
    · omega
    · simp; omega
theorem plen_zero : ∀ l : List Int, plen (l ++ [0]) = plen l
  | [] => by simp [plen]
  | a :: r => by simp only [List.cons_append, plen, plen_zero r]
theorem plen_snoc {a : Int} (ha : a ≠ 0) : ∀ l : List Int, plen (l ++ [a]) = l.length + 1
  | [] => by simp [plen, ha]
  | b :: r => by simp [plen, plen_snoc ha r]
theorem pln_length (l : List Int) : (pln l).length = plen l := by unfold pln; rw [List.length_take]; have := plen_le l; omega
theorem pln_zero (l : List Int) : pln (l ++ [0]) = pln l := by
  unfold pln; rw [plen_zero, List.take_append_of_le_length (plen_le l)]
theorem pln_snoc {a : Int} (ha : a ≠ 0) (l : List Int) : pln (l ++ [a]) = l ++ [a] := by
  unfold pln; rw [plen_snoc ha, List.take_of_length_le (by simp)]
theorem drop_plen : ∀ l : List Int, l.drop (plen l) = List.replicate (l.length - plen l) 0
  | [] => rfl
  | a :: r => by
    have ih := drop_plen r
    unfold plen
    split
    · next h =>
      obtain ⟨h1, rfl⟩ := h
      rw [h1] at ih
      simp at ih
      simp [List.replicate_succ, ← ih]
    · simpa using ih
theorem pln_pad (l : List Int) : pln l ++ List.replicate (l.length - (pln l).length) 0 = l := by
  rw [pln_length, ← drop_plen]; exact List.take_append_drop _ _
theorem pln_getD (l : List Int) (i : Nat) : (pln l).getD i 0 = l.getD i 0 := by
  conv => rhs; rw [← pln_pad l]
  simp only [List.getD_eq_getElem?_getD]
  by_cases h : i < (pln l).length
  · rw [List.getElem?_append_left h]
  · rw [List.getElem?_eq_none (by omega), List.getElem?_append_right (by omega)]
    simp only [List.getElem?_replicate]
    split <;> rfl
theorem mayC_pln (x : List Int) (hx : x.length ≤ 5) (hb : ∀ a ∈ x, 0 ≤ a ∧ a ≤ 1048576) : mayC (pln x) = true := by
  rw [mayC_iff]
  refine ⟨by rw [pln_length]; have := plen_le x; omega, fun a ha => hb a (List.mem_of_mem_take ha)⟩
theorem at5_bd (c : List Int) (k : Nat) : 0 ≤ at5 c k ∧ at5 c k ≤ 1048576 := by
  unfold at5
  split
  · next h =>
    rw [mayC_iff] at h
    by_cases hk : k < c.length
    · have : c.getD k 0 = c[k] := by simp [List.getD_eq_getElem?_getD, hk]
      rw [this]; exact h.2 _ (List.getElem_mem hk)
    · have : c.getD k 0 = 0 := by simp [List.getD_eq_getElem?_getD, Nat.not_lt.mp hk]
      rw [this]; omega
  · omega
theorem vec_bd (c : List Int) : ∀ a ∈ vec c, 0 ≤ a ∧ a ≤ 1048576 := by
  intro a ha
  simp only [vec, List.mem_cons, List.not_mem_nil, or_false] at ha
  rcases ha with rfl | rfl | rfl | rfl | rfl <;> exact at5_bd _ _
theorem at5_pln (x : List Int) (hx : x.length = 5) (hb : ∀ a ∈ x, 0 ≤ a ∧ a ≤ 1048576) (k : Nat) : at5 (pln x) k = x.getD k 0 := by
  unfold at5
  rw [if_pos (mayC_pln x (by omega) hb), pln_getD]
theorem vec_eq (x : List Int) (hx : x.length = 5) : [x.getD 0 0, x.getD 1 0, x.getD 2 0, x.getD 3 0, x.getD 4 0] = x := by
  match x, hx with
  | [a, b, c, d, e], _ => rfl
theorem vec_pln (x : List Int) (hx : x.length = 5) (hb : ∀ a ∈ x, 0 ≤ a ∧ a ≤ 1048576) : vec (pln x) = x := by
  unfold vec
  simp only [at5_pln x hx hb]
  exact vec_eq x hx
theorem vec_five (x : List Int) (hx : x.length = 5) (hb : ∀ a ∈ x, 0 ≤ a ∧ a ≤ 1048576) : vec x = x := by
  unfold vec at5
  simp only [if_pos (show mayC x = true from mayC_iff.2 ⟨by omega, hb⟩)]
  exact vec_eq x hx
theorem vec_len (c : List Int) : (vec c).length = 5 := rfl
theorem vec_getD (c : List Int) (k : Nat) (hk : k < 5) : (vec c).getD k 0 = at5 c k := by
  rcases k with _ | _ | _ | _ | _ | k
  · rfl
  · rfl
  · rfl
  · rfl
  · rfl
  · omega

/-- Of each replica the greater number. -/
def joinL (a b : List Int) : List Int := [max (at5 a 0) (at5 b 0), max (at5 a 1) (at5 b 1), max (at5 a 2) (at5 b 2), max (at5 a 3) (at5 b 3), max (at5 a 4) (at5 b 4)]
/-- Of each replica the lesser one. -/
def meetL (a b : List Int) : List Int := [min (at5 a 0) (at5 b 0), min (at5 a 1) (at5 b 1), min (at5 a 2) (at5 b 2), min (at5 a 3) (at5 b 3), min (at5 a 4) (at5 b 4)]
/-- Is one within another one? -/
def wth (a b : List Int) : Prop := at5 a 0 ≤ at5 b 0 ∧ at5 a 1 ≤ at5 b 1 ∧ at5 a 2 ≤ at5 b 2 ∧ at5 a 3 ≤ at5 b 3 ∧ at5 a 4 ≤ at5 b 4
instance (a b : List Int) : Decidable (wth a b) := by unfold wth; exact inferInstance
/-- A clock with a replica's number (replicas counted from 0). -/
def setL (a : List Int) (r : Nat) (n : Int) : List Int := (vec a).set r n
def sumL (a : List Int) : Int := at5 a 0 + at5 a 1 + at5 a 2 + at5 a 3 + at5 a 4
def ordL (a b : List Int) : Int := if wth a b then (if wth b a then 0 else -1) else if wth b a then 1 else 2

theorem joinL_bd (a b : List Int) : ∀ x ∈ joinL a b, 0 ≤ x ∧ x ≤ 1048576 := by
  intro x hx
  simp only [joinL, List.mem_cons, List.not_mem_nil, or_false] at hx
  rcases hx with rfl | rfl | rfl | rfl | rfl <;> (have h1 := at5_bd a; have h2 := at5_bd b; constructor <;> first | (have := h1 0; have := h2 0; omega) | (have := h1 1; have := h2 1; omega) | (have := h1 2; have := h2 2; omega) | (have := h1 3; have := h2 3; omega) | (have := h1 4; have := h2 4; omega))
theorem meetL_bd (a b : List Int) : ∀ x ∈ meetL a b, 0 ≤ x ∧ x ≤ 1048576 := by
  intro x hx
  simp only [meetL, List.mem_cons, List.not_mem_nil, or_false] at hx
  rcases hx with rfl | rfl | rfl | rfl | rfl <;> (have h1 := at5_bd a; have h2 := at5_bd b; constructor <;> first | (have := h1 0; have := h2 0; omega) | (have := h1 1; have := h2 1; omega) | (have := h1 2; have := h2 2; omega) | (have := h1 3; have := h2 3; omega) | (have := h1 4; have := h2 4; omega))
theorem at5_join (a b : List Int) (k : Nat) (hk : k < 5) : at5 (pln (joinL a b)) k = max (at5 a k) (at5 b k) := by
  rw [at5_pln _ rfl (joinL_bd a b)]
  rcases k with _ | _ | _ | _ | _ | k
  · rfl
  · rfl
  · rfl
  · rfl
  · rfl
  · omega
theorem at5_meet (a b : List Int) (k : Nat) (hk : k < 5) : at5 (pln (meetL a b)) k = min (at5 a k) (at5 b k) := by
  rw [at5_pln _ rfl (meetL_bd a b)]
  rcases k with _ | _ | _ | _ | _ | k
  · rfl
  · rfl
  · rfl
  · rfl
  · rfl
  · omega
theorem setL_bd (a : List Int) (r : Nat) (n : Int) (h0 : 0 ≤ n) (h1 : n ≤ 1048576) : ∀ x ∈ setL a r n, 0 ≤ x ∧ x ≤ 1048576 := by
  intro x hx
  rcases List.mem_or_eq_of_mem_set hx with h | rfl
  · exact vec_bd a x h
  · exact ⟨h0, h1⟩
end Go.Proofs.Ytohhlidlgibieaa

/- Clocks' bytes in plain mathematics: what is put, what is read, and that the document's reading is the program's. -/
namespace Go.Proofs.Ytohhlidlgibieaa

/-- A clock's bytes. -/
def putC (c : List Int) : List Int := pack ((pln (vec c)).map num)
/-- A replica's number whose bytes are a whole text. -/
def rdNum (t : List Int) : Option Int := match getNum t with
  | none => none
  | some (x, k) => if k = t.length ∧ x ≤ 1048576 then some x else none
def rdAll : List (List Int) → Option (List Int)
  | [] => some []
  | t :: r => match rdNum t with
    | none => none
    | some x => (rdAll r).map (x :: ·)
/-- The clock that bytes begin with, and how many these are. -/
def rdC (b : List Int) : Option (List Int × Nat) := match unpack b 5 with
  | none => none
  | some (ts, m) => match rdAll ts with
    | none => none
    | some c => if pln c = c then some (c, m) else none
/-- The number that a text begins with, as the document's answer takes it. -/
def rfNum (t : List Int) : Option Int := match getNum t with
  | none => none
  | some (x, _) => if x ≤ 1048576 then some x else none
def rfAll : List (List Int) → Option (List Int)
  | [] => some []
  | t :: r => match rfNum t with
    | none => none
    | some x => (rfAll r).map (x :: ·)
def rfC (b : List Int) : Option (List Int × Nat) := match unpack b 5 with
  | none => none
  | some (ts, m) => match rfAll ts with
    | none => none
    | some c => if putC c = b.take m then some (c, m) else none

theorem rdAll_step {ts : List (List Int)} {k : Nat} {x : Int} {acc : List Int} (hk : k < ts.length) (h : rdAll ts = (rdAll (ts.drop k)).map (acc ++ ·)) (hx : rdNum (ts.getD k []) = some x) :
    rdAll ts = (rdAll (ts.drop (k + 1))).map ((acc ++ [x]) ++ ·) := by
  rw [h, List.drop_eq_getElem_cons hk]
  have e : ts[k] = ts.getD k [] := by simp [List.getD_eq_getElem?_getD, hk]
  simp only [rdAll, e, hx, Option.map_map]
  congr 1
  funext r
  simp
theorem rdAll_bad {ts : List (List Int)} {k : Nat} {acc : List Int} (hk : k < ts.length) (h : rdAll ts = (rdAll (ts.drop k)).map (acc ++ ·)) (hx : rdNum (ts.getD k []) = none) : rdAll ts = none := by
  rw [h, List.drop_eq_getElem_cons hk]
  have e : ts[k] = ts.getD k [] := by simp [List.getD_eq_getElem?_getD, hk]
  simp only [rdAll, e, hx, Option.map_none]
theorem rfAll_step {ts : List (List Int)} {k : Nat} {x : Int} {acc : List Int} (hk : k < ts.length) (h : rfAll ts = (rfAll (ts.drop k)).map (acc ++ ·)) (hx : rfNum (ts.getD k []) = some x) :
    rfAll ts = (rfAll (ts.drop (k + 1))).map ((acc ++ [x]) ++ ·) := by
  rw [h, List.drop_eq_getElem_cons hk]
  have e : ts[k] = ts.getD k [] := by simp [List.getD_eq_getElem?_getD, hk]
  simp only [rfAll, e, hx, Option.map_map]
  congr 1
  funext r
  simp
theorem rfAll_bad {ts : List (List Int)} {k : Nat} {acc : List Int} (hk : k < ts.length) (h : rfAll ts = (rfAll (ts.drop k)).map (acc ++ ·)) (hx : rfNum (ts.getD k []) = none) : rfAll ts = none := by
  rw [h, List.drop_eq_getElem_cons hk]
  have e : ts[k] = ts.getD k [] := by simp [List.getD_eq_getElem?_getD, hk]
  simp only [rfAll, e, hx, Option.map_none]

theorem pln_iff (c : List Int) : pln c = c ↔ ¬ (0 < c.length ∧ c.getD (c.length - 1) 0 = 0) := by
  rcases List.eq_nil_or_concat c with rfl | ⟨l, a, rfl⟩
  · simp [pln, plen]
  · have hg : (l.concat a).getD ((l.concat a).length - 1) 0 = a := by simp [List.getD_eq_getElem?_getD]
    rw [hg]
    rw [List.concat_eq_append]
    by_cases ha : a = 0
    · subst ha
      rw [pln_zero]
      simp
      intro h
      have h1 := congrArg List.length h
      rw [pln_length] at h1
      have := plen_le l
      simp at h1
      omega
    · rw [pln_snoc ha]
      simp [ha]

theorem rfAll_bd : ∀ {ts : List (List Int)} (_ : ∀ t ∈ ts, By t) {c : List Int} (_ : rfAll ts = some c), c.length = ts.length ∧ ∀ x ∈ c, 0 ≤ x ∧ x ≤ 1048576
  | [], _, c, h => by
    simp [rfAll] at h
    subst h
    exact ⟨rfl, fun x hx => by cases hx⟩
  | t :: r, hby, c, h => by
    unfold rfAll at h
    rcases hn : rfNum t with _ | x
    · rw [hn] at h; cases h
    · rw [hn] at h
      simp only [Option.map_eq_some_iff] at h
      obtain ⟨c', hc', rfl⟩ := h
      obtain ⟨i1, i2⟩ := rfAll_bd (fun u hu => hby u (by simp [hu])) hc'
      refine ⟨by simp [i1], fun y hy => ?_⟩
      rcases List.mem_cons.1 hy with rfl | hy
      · unfold rfNum at hn
        split at hn
        · cases hn
        · rename_i z k hg
          split at hn
          · rename_i hle
            cases hn
            exact ⟨(getNum_some (hby t (by simp)) hg).1, hle⟩
          · cases hn
      · exact i2 y hy
/-- Whole texts: the bytes of the numbers. -/
theorem rdAll_iff : ∀ {ts : List (List Int)} (_ : ∀ t ∈ ts, By t) {c : List Int}, rdAll ts = some c ↔ rfAll ts = some c ∧ ts = c.map num
  | [], _, c => by
    simp only [rdAll, rfAll, Option.some.injEq]
    constructor
    · rintro rfl; exact ⟨rfl, rfl⟩
    · rintro ⟨rfl, _⟩; rfl
  | t :: r, hby, c => by
    have ih := fun {c'} => @rdAll_iff r (fun u hu => hby u (by simp [hu])) c'
    unfold rdAll rfAll
    rcases hg : getNum t with _ | ⟨x, k⟩
    · simp [rdNum, rfNum, hg]
    · obtain ⟨g0, g1, g2, g3, g4, g5, g6⟩ := getNum_some (hby t (by simp)) hg
      by_cases hx : x ≤ 1048576
      · have e2 : rfNum t = some x := by simp [rfNum, hg, hx]
        by_cases hk : k = t.length
        · have e1 : rdNum t = some x := by simp [rdNum, hg, hx, hk]
          have ht : num x = t := by rw [g5, hk, List.take_length]
          simp only [e1, e2, Option.map_eq_some_iff]
          constructor
          · rintro ⟨c', hc', rfl⟩
            obtain ⟨h1, h2⟩ := ih.1 hc'
            exact ⟨⟨c', h1, rfl⟩, by rw [List.map_cons, ht, ← h2]⟩
          · rintro ⟨⟨c', hc', rfl⟩, h2⟩
            rw [List.map_cons, List.cons.injEq] at h2
            exact ⟨c', ih.2 ⟨hc', h2.2⟩, rfl⟩
        · have e1 : rdNum t = none := by simp [rdNum, hg, hk]
          simp only [e1, e2, Option.map_eq_some_iff]
          constructor
          · intro h; cases h
          · rintro ⟨⟨c', hc', rfl⟩, h2⟩
            rw [List.map_cons, List.cons.injEq] at h2
            exfalso
            apply hk
            have h3 := num_len x
            rw [← h2.1] at h3
            omega
      · have e1 : rdNum t = none := by simp [rdNum, hg, hx]
        have e2 : rfNum t = none := by simp [rfNum, hg, hx]
        simp [e1, e2]

theorem unpack_le {b : List Int} {most : Int} {l : List (List Int)} {n : Nat} (hb : By b) (h : unpack b most = some (l, n)) : (l.length : Int) ≤ most := by
  unfold unpack at h
  split at h
  · cases h
  · rename_i u k hk
    obtain ⟨g0, _⟩ := getNum_some hb hk
    split at h
    · cases h
    · split at h
      · cases h
      · rename_i l' m' hm'
        simp only [Option.some.injEq, Prod.mk.injEq] at h
        obtain ⟨rfl, rfl⟩ := h
        obtain ⟨_, i2, _⟩ := gets_some _ (hb.drop k) hm'
        rw [i2]
        omega
theorem pln_vec (c : List Int) (hm : mayC c = true) : pln (vec c) = pln c := by
  have h5 := (mayC_iff.1 hm).1
  have e : vec c = c ++ List.replicate (5 - c.length) 0 := by
    unfold vec
    have : ∀ k, at5 c k = c.getD k 0 := fun k => if_pos hm
    simp only [this]
    match c, h5 with
    | [], _ => rfl
    | [_], _ => rfl
    | [_, _], _ => rfl
    | [_, _, _], _ => rfl
    | [_, _, _, _], _ => rfl
    | [_, _, _, _, _], _ => rfl
  rw [e]
  generalize 5 - c.length = k
  clear e h5 hm
  induction k with
  | zero => simp
  | succ k ih => rw [List.replicate_succ', ← List.append_assoc, pln_zero]; exact ih
theorem num_inj {x y : Int} (hx0 : 0 ≤ x) (hx1 : x ≤ 1048576) (hy0 : 0 ≤ y) (hy1 : y ≤ 1048576) (h : num x = num y) : x = y := by
  have h1 := getNum_num x hx0 (by omega) []
  have h2 := getNum_num y hy0 (by omega) []
  rw [h, h2] at h1
  simp at h1
  exact h1.symm
theorem map_num_inj : ∀ {c d : List Int} (_ : ∀ x ∈ c, 0 ≤ x ∧ x ≤ 1048576) (_ : ∀ x ∈ d, 0 ≤ x ∧ x ≤ 1048576), c.map num = d.map num → c = d
  | [], [], _, _, _ => rfl
  | [], _ :: _, _, _, h => by simp at h
  | _ :: _, [], _, _, h => by simp at h
  | x :: c, y :: d, hc, hd, h => by
    simp only [List.map_cons, List.cons.injEq] at h
    rw [num_inj (hc x (by simp)).1 (hc x (by simp)).2 (hd y (by simp)).1 (hd y (by simp)).2 h.1, map_num_inj (fun z hz => hc z (by simp [hz])) (fun z hz => hd z (by simp [hz])) h.2]
theorem pack_inj {l m : List (List Int)} (hl : l.length ≤ 5) (hm : m.length ≤ 5) (h1 : ∀ t ∈ l, t.length ≤ 65536) (h2 : ∀ t ∈ m, t.length ≤ 65536) (h : pack l = pack m) : l = m := by
  have e1 := unpack_pack l (by omega) h1 [] 5 (by omega)
  have e2 := unpack_pack m (by omega) h2 [] 5 (by omega)
  rw [h, e2] at e1
  simp only [Option.some.injEq, Prod.mk.injEq] at e1
  exact e1.1.symm
theorem num_short (x : Int) : (num x).length ≤ 65536 := by rw [num_len]; have := nb_le x; omega
theorem nums_short (c : List Int) : ∀ t ∈ c.map num, t.length ≤ 65536 := by
  intro t ht
  obtain ⟨x, _, rfl⟩ := List.mem_map.1 ht
  exact num_short x

theorem rf_rd {b : List Int} (hb : By b) : rfC b = rdC b := by
  unfold rfC rdC
  rcases hu : unpack b 5 with _ | ⟨ts, m⟩
  · rfl
  · obtain ⟨_, _, hp, hts⟩ := unpack_some hb hu
    have h5 := unpack_le hb hu
    simp only []
    rcases hf : rfAll ts with _ | c
    · have hd : rdAll ts = none := by
        rcases hr : rdAll ts with _ | c
        · rfl
        · have := ((rdAll_iff (fun t ht => (hts t ht).2)).1 hr).1
          rw [hf] at this; cases this
      simp [hd]
    · obtain ⟨hl, hbd⟩ := rfAll_bd (fun t ht => (hts t ht).2) hf
      have hmay : mayC c = true := mayC_iff.2 ⟨by omega, hbd⟩
      have hput : putC c = b.take m ↔ (pln c).map num = ts := by
        unfold putC
        rw [pln_vec c hmay, ← hp]
        constructor
        · intro h
          exact pack_inj (by rw [List.length_map, pln_length]; have := plen_le c; omega) (by omega) (nums_short _) (fun t ht => (hts t ht).1) h
        · intro h; rw [h]
      have hplb : ∀ x ∈ pln c, 0 ≤ x ∧ x ≤ 1048576 := fun x hx => hbd x (List.mem_of_mem_take hx)
      simp only []
      by_cases hw : ts = c.map num
      · have hr : rdAll ts = some c := (rdAll_iff (fun t ht => (hts t ht).2)).2 ⟨hf, hw⟩
        simp only [hr]
        have e : (putC c = b.take m) ↔ pln c = c := by
          rw [hput, hw]
          exact ⟨fun h => map_num_inj hplb hbd h, fun h => by rw [h]⟩
        by_cases hpc : pln c = c
        · rw [if_pos (e.2 hpc), if_pos hpc]
        · rw [if_neg (fun h => hpc (e.1 h)), if_neg hpc]
      · have hr : rdAll ts = none := by
          rcases hr : rdAll ts with _ | c'
          · rfl
          · have h1 := (rdAll_iff (fun t ht => (hts t ht).2)).1 hr
            rw [hf] at h1
            obtain ⟨h1, h2⟩ := h1
            cases h1
            exact absurd h2 hw
        simp only [hr]
        rw [if_neg]
        intro h
        have h1 := hput.1 h
        apply hw
        have h2 : (pln c).length = c.length := by
          have h3 := congrArg List.length h1
          rw [List.length_map] at h3
          omega
        have h4 : pln c = c := by
          rw [pln_length] at h2
          unfold pln
          rw [h2, List.take_length]
        rw [← h1, h4]

theorem rdAll_nums : ∀ (c : List Int) (_ : ∀ x ∈ c, 0 ≤ x ∧ x ≤ 1048576), rdAll (c.map num) = some c
  | [], _ => rfl
  | x :: r, h => by
    have hg := getNum_num x (h x (by simp)).1 (by have := (h x (by simp)).2; omega) []
    rw [List.append_nil] at hg
    have e : rdNum (num x) = some x := by simp [rdNum, hg, (h x (by simp)).2]
    simp only [List.map_cons, rdAll, e, rdAll_nums r (fun y hy => h y (by simp [hy])), Option.map_some]
theorem pln_pln (c : List Int) : pln (pln c) = pln c := by
  rcases List.eq_nil_or_concat (pln c) with h | ⟨l, a, h⟩
  · rw [h]; rfl
  · rw [pln_iff]
    rintro ⟨h1, h2⟩
    have h3 := pln_getD c ((pln c).length - 1)
    rw [h2] at h3
    -- the last number that stands is none of the noughts at the end
    have hp : 0 < plen c := by rw [← pln_length]; exact h1
    have h4 : c.getD (plen c - 1) 0 ≠ 0 := by
      clear h1 h2 h3 h l a
      induction c with
      | nil => simp [plen] at hp
      | cons y r ih =>
        unfold plen at hp ⊢
        split
        · rename_i hc; rw [if_pos hc] at hp; omega
        · rename_i hc
          rcases Nat.eq_zero_or_pos (plen r) with h0 | h0
          · rw [h0]
            simp
            intro hy
            exact hc ⟨h0, hy⟩
          · have := ih h0
            have e : plen r + 1 - 1 = (plen r - 1) + 1 := by omega
            rw [e]
            simpa using this
    rw [pln_length] at h3
    exact h4 h3.symm
/-- What is put is read, whatever stands behind. -/
theorem rd_put (c b : List Int) : rdC (putC c ++ b) = some (pln (vec c), (putC c).length) := by
  unfold rdC putC
  have hbd : ∀ x ∈ pln (vec c), 0 ≤ x ∧ x ≤ 1048576 := fun x hx => vec_bd c x (List.mem_of_mem_take hx)
  have hlen : (pln (vec c)).length ≤ 5 := by rw [pln_length]; have := plen_le (vec c); rw [vec_len] at this; exact this
  rw [unpack_pack _ (by rw [List.length_map]; omega) (nums_short _) b 5 (by rw [List.length_map]; omega)]
  simp only [rdAll_nums _ hbd]
  rw [if_pos (pln_pln _)]
end Go.Proofs.Ytohhlidlgibieaa

/- Dots in plain mathematics: in order, put, folded; what is seen; there is one Seen of each set of dots. -/
namespace Go.Proofs.Ytohhlidlgibieaa

abbrev Dot := Int × Int
def mayD (d : Dot) : Bool := decide (1 ≤ d.1 ∧ d.1 ≤ 5 ∧ 1 ≤ d.2 ∧ d.2 ≤ 1048576)
def lessD (a b : Dot) : Bool := decide (a.1 < b.1 ∨ (a.1 = b.1 ∧ a.2 < b.2))
def cmpD (a b : Dot) : Int := if lessD a b = true then -1 else if lessD b a = true then 1 else 0
def SrtD (l : List Dot) : Prop := l.Pairwise (fun a b => lessD a b = true)
/-- Dots in order with one more. -/
def putD : List Dot → Dot → List Dot
  | [], d => [d]
  | x :: r, d => if lessD x d = true then x :: putD r d else if x = d then x :: r else d :: x :: r
/-- Dots in order, each once. -/
def ordD (l : List Dot) : List Dot := l.foldl putD []

theorem mayD_iff {d : Dot} : mayD d = true ↔ 1 ≤ d.1 ∧ d.1 ≤ 5 ∧ 1 ≤ d.2 ∧ d.2 ≤ 1048576 := by simp [mayD]
theorem lessD_iff {a b : Dot} : lessD a b = true ↔ a.1 < b.1 ∨ (a.1 = b.1 ∧ a.2 < b.2) := by simp [lessD]
theorem lessD_irr (a : Dot) : lessD a a = false := by simp [lessD]
theorem lessD_trans {a b c : Dot} (h : lessD a b = true) (k : lessD b c = true) : lessD a c = true := by
  rw [lessD_iff] at *; omega
theorem lessD_tri (a b : Dot) : lessD a b = true ∨ a = b ∨ lessD b a = true := by
  rw [lessD_iff, lessD_iff]
  obtain ⟨a1, a2⟩ := a
  obtain ⟨b1, b2⟩ := b
  simp only [Prod.mk.injEq]
  omega
theorem lessD_asym {a b : Dot} (h : lessD a b = true) : lessD b a = false := by
  rw [lessD_iff] at h
  simp [lessD]; omega
theorem lessD_ne {a b : Dot} (h : lessD a b = true) : a ≠ b := by
  rintro rfl; rw [lessD_irr] at h; cases h
theorem cmpD_lt {a b : Dot} : cmpD a b < 0 ↔ lessD a b = true := by
  unfold cmpD
  split
  · simp [*]
  · split <;> simp [*]
theorem cmpD_eq {a b : Dot} : cmpD a b = 0 ↔ a = b := by
  unfold cmpD
  split
  · next h => simp; exact lessD_ne h
  · split
    · next h => simp; exact fun e => lessD_ne h e.symm
    · next h1 h2 => simp; rcases lessD_tri a b with h | h | h
                    · exact absurd h h1
                    · exact h
                    · exact absurd h h2

theorem mem_putD {x d : Dot} : ∀ {l : List Dot}, x ∈ putD l d ↔ x = d ∨ x ∈ l
  | [] => by simp [putD]
  | y :: r => by
    unfold putD
    split
    · simp only [List.mem_cons, mem_putD (l := r)]
      constructor
      · rintro (h | h | h)
        · exact .inr (.inl h)
        · exact .inl h
        · exact .inr (.inr h)
      · rintro (h | h | h)
        · exact .inr (.inl h)
        · exact .inl h
        · exact .inr (.inr h)
    · split
      · next h => subst h; simp
      · simp
theorem srt_putD {d : Dot} : ∀ {l : List Dot}, SrtD l → SrtD (putD l d)
  | [], _ => by simp [putD, SrtD]
  | y :: r, h => by
    unfold SrtD at h
    rw [List.pairwise_cons] at h
    obtain ⟨h1, h2⟩ := h
    unfold putD
    split
    · next hl =>
      unfold SrtD
      rw [List.pairwise_cons]
      refine ⟨fun a ha => ?_, srt_putD h2⟩
      rcases mem_putD.1 ha with rfl | ha
      · exact hl
      · exact h1 a ha
    · next hl =>
      split
      · exact List.pairwise_cons.2 ⟨h1, h2⟩
      · next hne =>
        have hd : lessD d y = true := by
          rcases lessD_tri y d with h | h | h
          · exact absurd h hl
          · exact absurd h hne
          · exact h
        refine List.pairwise_cons.2 ⟨fun a ha => ?_, List.pairwise_cons.2 ⟨h1, h2⟩⟩
        rcases List.mem_cons.1 ha with rfl | ha
        · exact hd
        · exact lessD_trans hd (h1 a ha)
theorem putD_len {d : Dot} : ∀ {l : List Dot}, (putD l d).length ≤ l.length + 1
  | [] => by simp [putD]
  | y :: r => by
    unfold putD
    split
    · have := putD_len (l := r) (d := d); simp; omega
    · split <;> simp
theorem srt_ext : ∀ {l m : List Dot}, SrtD l → SrtD m → (∀ x, x ∈ l ↔ x ∈ m) → l = m
  | [], [], _, _, _ => rfl
  | [], y :: r, _, _, h => by have := (h y).2 (by simp); cases this
  | y :: r, [], _, _, h => by have := (h y).1 (by simp); cases this
  | x :: r, y :: s, h1, h2, h => by
    have k1 := List.pairwise_cons.1 h1
    have k2 := List.pairwise_cons.1 h2
    have e : x = y := by
      rcases lessD_tri x y with q | q | q
      · have := (h x).1 (by simp)
        rcases List.mem_cons.1 this with e | e
        · exact e
        · have := lessD_asym (k2.1 x e); rw [q] at this; cases this
      · exact q
      · have := (h y).2 (by simp)
        rcases List.mem_cons.1 this with e | e
        · exact e.symm
        · have := lessD_asym (k1.1 y e); rw [q] at this; cases this
    subst e
    rw [srt_ext k1.2 k2.2 (fun z => ?_)]
    constructor
    · intro hz
      rcases List.mem_cons.1 ((h z).1 (List.mem_cons_of_mem _ hz)) with e | e
      · subst e; have := k1.1 z hz; rw [lessD_irr] at this; cases this
      · exact e
    · intro hz
      rcases List.mem_cons.1 ((h z).2 (List.mem_cons_of_mem _ hz)) with e | e
      · subst e; have := k2.1 z hz; rw [lessD_irr] at this; cases this
      · exact e
theorem foldl_putD_srt (l : List Dot) : ∀ m, SrtD m → SrtD (l.foldl putD m) := by
  induction l with
  | nil => exact fun m h => h
  | cons d r ih => exact fun m h => ih _ (srt_putD h)
theorem foldl_putD_mem (l : List Dot) (x : Dot) : ∀ m, x ∈ l.foldl putD m ↔ x ∈ m ∨ x ∈ l := by
  induction l with
  | nil => simp
  | cons d r ih =>
    intro m
    rw [List.foldl_cons, ih, mem_putD, List.mem_cons]
    constructor
    · rintro ((h | h) | h)
      · exact .inr (.inl h)
      · exact .inl h
      · exact .inr (.inr h)
    · rintro (h | h | h)
      · exact .inl (.inr h)
      · exact .inl (.inl h)
      · exact .inr h
theorem foldl_putD_len (l : List Dot) : ∀ m, (l.foldl putD m).length ≤ m.length + l.length := by
  induction l with
  | nil => intro m; simp
  | cons d r ih => intro m; have := ih (putD m d); have := putD_len (l := m) (d := d); simp; omega
theorem ordD_srt (l : List Dot) : SrtD (ordD l) := foldl_putD_srt l [] (by simp [SrtD])
theorem ordD_mem {l : List Dot} {x : Dot} : x ∈ ordD l ↔ x ∈ l := by unfold ordD; rw [foldl_putD_mem]; simp
theorem ordD_len (l : List Dot) : (ordD l).length ≤ l.length := by have := foldl_putD_len l []; simpa [ordD] using this
theorem ordD_is {l m : List Dot} (h : SrtD m) (k : ∀ x, x ∈ m ↔ x ∈ l) : m = ordD l := srt_ext h (ordD_srt l) (fun x => (k x).trans ordD_mem.symm)
/-- 'Put', as the document does it. -/
theorem putD_at {d : Dot} : ∀ (k : Nat) {l : List Dot}, k ≤ l.length → (∀ i, i < k → lessD (l.getD i (0, 0)) d = true) → (k = l.length ∨ lessD (l.getD k (0, 0)) d = false) →
    putD l d = if k < l.length ∧ l.getD k (0, 0) = d then l else l.take k ++ d :: l.drop k
  | 0, [], _, _, _ => by simp [putD]
  | 0, x :: r, _, _, h => by
    have h' : lessD x d = false := by simpa using h
    unfold putD
    simp [h']
  | k + 1, [], h, _, _ => by simp at h
  | k + 1, x :: r, hk, hl, h => by
    have h0 : lessD x d = true := by simpa using hl 0 (by omega)
    have ih := putD_at (d := d) k (l := r) (by simpa using hk) (fun i hi => by simpa using hl (i + 1) (by omega)) (by simpa using h)
    unfold putD
    rw [if_pos h0, ih]
    simp only [List.length_cons, Nat.add_lt_add_iff_right, List.getD_cons_succ, List.take_succ_cons, List.drop_succ_cons, List.cons_append]
    split <;> rfl

/-- A Seen: five numbers, and more dots. -/
abbrev Sn := List Int × List Dot
def numX (X : List Int) (d : Dot) : Int := X.getD (d.1 - 1).toNat 0
def stepX (s : Sn) (d : Dot) : Sn :=
  if d.2 = numX s.1 d + 1 then (s.1.set (d.1 - 1).toNat d.2, s.2) else if d.2 > numX s.1 d + 1 then (s.1, s.2 ++ [d]) else s
def foldX (X : List Int) (l : List Dot) : Sn := l.foldl stepX (X, [])
def hasX (s : Sn) (d : Dot) : Prop := d.2 ≤ numX s.1 d ∨ d ∈ s.2
instance (s : Sn) (d : Dot) : Decidable (hasX s d) := by unfold hasX; exact inferInstance
def BdX (X : List Int) : Prop := X.length = 5 ∧ ∀ a ∈ X, 0 ≤ a ∧ a ≤ 1048576
def GoodX (s : Sn) : Prop := BdX s.1 ∧ SrtD s.2 ∧ ∀ x ∈ s.2, mayD x = true ∧ numX s.1 x + 1 < x.2

theorem numX_bd {X : List Int} (h : BdX X) (d : Dot) : 0 ≤ numX X d ∧ numX X d ≤ 1048576 := by
  unfold numX
  generalize (d.1 - 1).toNat = k
  by_cases hk : k < X.length
  · have : X.getD k 0 = X[k] := by simp [List.getD_eq_getElem?_getD, hk]
    rw [this]; exact h.2 _ (List.getElem_mem hk)
  · have : X.getD k 0 = 0 := by simp [List.getD_eq_getElem?_getD, Nat.not_lt.mp hk]
    rw [this]; omega
theorem numX_set {X : List Int} (h : BdX X) {d x : Dot} (hd : mayD d = true) (hx : mayD x = true) (n : Int) : numX (X.set (d.1 - 1).toNat n) x = if x.1 = d.1 then n else numX X x := by
  rw [mayD_iff] at hd hx
  unfold numX
  rw [List.getD_eq_getElem?_getD, List.getElem?_set]
  have h5 := h.1
  by_cases e : x.1 = d.1
  · rw [if_pos (by omega), if_pos e, if_pos (by omega)]; rfl
  · rw [if_neg (by omega), if_neg e, List.getD_eq_getElem?_getD]
theorem BdX.set {X : List Int} (h : BdX X) {d : Dot} (hd : mayD d = true) (i : Nat) : BdX (X.set i d.2) := by
  rw [mayD_iff] at hd
  refine ⟨by rw [List.length_set]; exact h.1, fun a ha => ?_⟩
  rcases List.mem_or_eq_of_mem_set ha with q | rfl
  · exact h.2 a q
  · omega
theorem step_len (s : Sn) (d : Dot) : (stepX s d).2.length ≤ s.2.length + 1 := by
  unfold stepX
  split
  · simp
  · split <;> simp
theorem foldl_step_len (l : List Dot) : ∀ s : Sn, (l.foldl stepX s).2.length ≤ s.2.length + l.length := by
  induction l with
  | nil => intro s; simp
  | cons d r ih => intro s; have := ih (stepX s d); have := step_len s d; simp; omega
theorem foldX_len (X : List Int) (l : List Dot) : (foldX X l).2.length ≤ l.length := by have := foldl_step_len l (X, []); simpa [foldX] using this

theorem fold_good (X : List Int) : ∀ (l : List Dot) (s : Sn) (P : List Dot), GoodX s → SrtD (P ++ l) → (∀ x ∈ l, mayD x = true) → (∀ x ∈ s.2, x ∈ P) →
    (∀ d, mayD d = true → (hasX s d ↔ d.2 ≤ numX X d ∨ d ∈ P)) →
    GoodX (l.foldl stepX s) ∧ ∀ d, mayD d = true → (hasX (l.foldl stepX s) d ↔ d.2 ≤ numX X d ∨ d ∈ P ++ l)
  | [], s, P, hg, _, _, _, hh => by rw [List.append_nil]; exact ⟨hg, hh⟩
  | d :: r, s, P, hg, hs, hm, hp, hh => by
    have hd := hm d (by simp)
    have hlt : ∀ x ∈ P, lessD x d = true := fun x hx => (List.pairwise_append.1 hs).2.2 x hx d (by simp)
    have e : P ++ d :: r = (P ++ [d]) ++ r := by simp
    rw [e] at hs ⊢
    refine fold_good X r (stepX s d) (P ++ [d]) ?_ hs (fun x hx => hm x (List.mem_cons_of_mem _ hx)) ?_ ?_
    · unfold stepX
      split
      · next h1 =>
        refine ⟨hg.1.set hd _, hg.2.1, fun x hx => ?_⟩
        have hx1 := hg.2.2 x hx
        refine ⟨hx1.1, ?_⟩
        have hl := hlt x (hp x hx)
        rw [numX_set hg.1 hd hx1.1]
        split
        · next e1 =>
          rw [lessD_iff] at hl
          have e2 : numX s.1 x = numX s.1 d := by unfold numX; rw [e1]
          omega
        · exact hx1.2
      · split
        · next h1 h2 =>
          refine ⟨hg.1, ?_, fun x hx => ?_⟩
          · refine List.pairwise_append.2 ⟨hg.2.1, by simp, fun x hx y hy => ?_⟩
            rw [List.mem_singleton] at hy
            subst hy
            exact hlt x (hp x hx)
          · rcases List.mem_append.1 hx with q | q
            · exact hg.2.2 x q
            · rw [List.mem_singleton] at q; subst q; exact ⟨hd, by omega⟩
        · exact hg
    · intro x hx
      unfold stepX at hx
      split at hx
      · exact List.mem_append_left _ (hp x hx)
      · split at hx
        · rcases List.mem_append.1 hx with q | q
          · exact List.mem_append_left _ (hp x q)
          · exact List.mem_append_right _ q
        · exact List.mem_append_left _ (hp x hx)
    · intro x hx
      have hx0 := hh x hx
      have key : hasX (stepX s d) x ↔ hasX s x ∨ x = d := by
        unfold stepX
        split
        · next h1 =>
          unfold hasX
          simp only [numX_set hg.1 hd hx]
          by_cases e1 : x.1 = d.1
          · have e2 : numX s.1 x = numX s.1 d := by unfold numX; rw [e1]
            rw [if_pos e1]
            constructor
            · rintro (q | q)
              · by_cases e3 : x.2 = d.2
                · exact .inr (Prod.ext e1 e3)
                · exact .inl (.inl (by omega))
              · exact .inl (.inr q)
            · rintro ((q | q) | q)
              · exact .inl (by omega)
              · exact .inr q
              · subst q; exact .inl (by omega)
          · rw [if_neg e1]
            constructor
            · exact fun q => .inl q
            · rintro (q | q)
              · exact q
              · subst q; exact absurd rfl e1
        · split
          · unfold hasX
            simp only [List.mem_append, List.mem_singleton]
            constructor
            · rintro (q | q | q)
              · exact .inl (.inl q)
              · exact .inl (.inr q)
              · exact .inr q
            · rintro ((q | q) | q)
              · exact .inl q
              · exact .inr (.inl q)
              · exact .inr (.inr q)
          · next h1 h2 =>
            constructor
            · exact fun q => .inl q
            · rintro (q | q)
              · exact q
              · subst q; exact .inl (by omega)
      rw [key, hx0, List.mem_append, List.mem_singleton]
      constructor
      · rintro ((q | q) | q)
        · exact .inl q
        · exact .inr (.inl q)
        · exact .inr (.inr q)
      · rintro (q | q | q)
        · exact .inl (.inl q)
        · exact .inl (.inr q)
        · exact .inr q
theorem foldX_good {X : List Int} (hX : BdX X) {l : List Dot} (hs : SrtD l) (hm : ∀ x ∈ l, mayD x = true) :
    GoodX (foldX X l) ∧ ∀ d, mayD d = true → (hasX (foldX X l) d ↔ d.2 ≤ numX X d ∨ d ∈ l) := by
  have h := fold_good X l (X, []) [] ⟨hX, by simp [SrtD], by simp⟩ (by simpa using hs) hm (by simp) (by intro d _; simp [hasX])
  simpa [foldX] using h

/-- There is one Seen of each set of dots. -/
theorem good_ext {s t : Sn} (hs : GoodX s) (ht : GoodX t) (h : ∀ d, mayD d = true → (hasX s d ↔ hasX t d)) : s = t := by
  have half : ∀ {s t : Sn}, GoodX s → GoodX t → (∀ d, mayD d = true → (hasX s d ↔ hasX t d)) → ∀ i, i < 5 → t.1.getD i 0 ≤ s.1.getD i 0 := by
    intro s t hs ht h i hi
    refine Int.not_lt.1 fun hlt => ?_
    have e : ∀ X : List Int, ∀ n, numX X (((i : Int) + 1), n) = X.getD i 0 := fun X n => by unfold numX; congr 1; show ((i : Int) + 1 - 1).toNat = i; omega
    have b1 := numX_bd hs.1 (((i : Int) + 1), s.1.getD i 0 + 1)
    have b2 := numX_bd ht.1 (((i : Int) + 1), s.1.getD i 0 + 1)
    rw [e] at b1 b2
    have hm : mayD (((i : Int) + 1), s.1.getD i 0 + 1) = true := mayD_iff.2 ⟨by show 1 ≤ (i : Int) + 1; omega, by show (i : Int) + 1 ≤ 5; omega, by show 1 ≤ s.1.getD i 0 + 1; omega, by show s.1.getD i 0 + 1 ≤ 1048576; omega⟩
    have h1 : hasX t (((i : Int) + 1), s.1.getD i 0 + 1) := .inl (by rw [e]; show s.1.getD i 0 + 1 ≤ _; omega)
    rcases (h _ hm).2 h1 with q | q
    · rw [e] at q
      have q' : s.1.getD i 0 + 1 ≤ s.1.getD i 0 := q
      omega
    · have := (hs.2.2 _ q).2
      rw [e] at this
      have q' : s.1.getD i 0 + 1 < s.1.getD i 0 + 1 := this
      omega
  have e1 : s.1 = t.1 := by
    rw [← vec_eq s.1 hs.1.1, ← vec_eq t.1 ht.1.1]
    have a1 := half hs ht h
    have a2 := half ht hs (fun d hd => (h d hd).symm)
    have q : ∀ i, i < 5 → s.1.getD i 0 = t.1.getD i 0 := fun i hi => Int.le_antisymm (a2 i hi) (a1 i hi)
    rw [q 0 (by omega), q 1 (by omega), q 2 (by omega), q 3 (by omega), q 4 (by omega)]
  refine Prod.ext e1 (srt_ext hs.2.1 ht.2.1 fun x => ?_)
  constructor
  · intro hx
    have k := hs.2.2 x hx
    rcases (h x k.1).1 (.inr hx) with q | q
    · rw [← e1] at q; omega
    · exact q
  · intro hx
    have k := ht.2.2 x hx
    rcases (h x k.1).2 (.inr hx) with q | q
    · rw [e1] at q; omega
    · exact q

/-- The document's 'Add'. -/
def addR (s : Sn) (d : Dot) : Sn := if hasX s d then s else foldX s.1 (putD s.2 d)
theorem addR_good {s : Sn} (hs : GoodX s) {d : Dot} (hd : mayD d = true) : GoodX (addR s d) ∧ ∀ x, mayD x = true → (hasX (addR s d) x ↔ hasX s x ∨ x = d) := by
  unfold addR
  split
  · next h =>
    refine ⟨hs, fun x _ => ⟨fun q => .inl q, ?_⟩⟩
    rintro (q | q)
    · exact q
    · subst q; exact h
  · have h := foldX_good hs.1 (srt_putD (d := d) hs.2.1) (fun x hx => by rcases mem_putD.1 hx with q | q; · subst q; exact hd
                                                                         · exact (hs.2.2 x q).1)
    refine ⟨h.1, fun x hx => ?_⟩
    rw [h.2 x hx, mem_putD]
    unfold hasX
    constructor
    · rintro (q | q | q)
      · exact .inl (.inl q)
      · exact .inr q
      · exact .inl (.inr q)
    · rintro ((q | q) | q)
      · exact .inl q
      · exact .inr (.inr q)
      · exact .inr (.inl q)
theorem addR_len (s : Sn) (d : Dot) : (addR s d).2.length ≤ s.2.length + 1 := by
  unfold addR
  split
  · omega
  · exact Nat.le_trans (foldX_len _ _) putD_len
theorem addsR {l : List Dot} (hl : ∀ x ∈ l, mayD x = true) : ∀ {s : Sn}, GoodX s → GoodX (l.foldl addR s) ∧ ∀ x, mayD x = true → (hasX (l.foldl addR s) x ↔ hasX s x ∨ x ∈ l) := by
  induction l with
  | nil => intro s hs; simpa using hs
  | cons d r ih =>
    intro s hs
    have h1 := addR_good hs (hl d (by simp))
    have h2 := ih (fun x hx => hl x (List.mem_cons_of_mem _ hx)) h1.1
    refine ⟨h2.1, fun x hx => ?_⟩
    rw [List.foldl_cons, h2.2 x hx, h1.2 x hx, List.mem_cons]
    constructor
    · rintro ((q | q) | q)
      · exact .inl q
      · exact .inr (.inl q)
      · exact .inr (.inr q)
    · rintro (q | q | q)
      · exact .inl (.inl q)
      · exact .inl (.inr q)
      · exact .inr q

/-- The document's step, which passes none by. -/
def stepR (s : Sn) (d : Dot) : Sn := if d.2 = numX s.1 d + 1 then (s.1.set (d.1 - 1).toNat d.2, s.2) else (s.1, s.2 ++ [d])
theorem stepR_is {s : Sn} {d : Dot} (h : numX s.1 d < d.2) : stepR s d = stepX s d := by
  unfold stepR stepX
  split
  · rfl
  · rw [if_pos (by omega)]
theorem foldR_is : ∀ (l : List Dot) (s : Sn), BdX s.1 → SrtD l → (∀ x ∈ l, mayD x = true ∧ numX s.1 x < x.2) → l.foldl stepR s = l.foldl stepX s
  | [], _, _, _, _ => rfl
  | d :: r, s, hb, hs, h => by
    have k := List.pairwise_cons.1 hs
    rw [List.foldl_cons, List.foldl_cons, stepR_is (h d (by simp)).2]
    have hb' : BdX (stepX s d).1 := by
      unfold stepX
      split
      · exact hb.set (h d (by simp)).1 _
      · split <;> exact hb
    refine foldR_is r _ hb' k.2 fun x hx => ⟨(h x (List.mem_cons_of_mem _ hx)).1, ?_⟩
    have hx1 := h x (List.mem_cons_of_mem _ hx)
    have hl := k.1 x hx
    rw [lessD_iff] at hl
    unfold stepX
    split
    · show numX (s.1.set (d.1 - 1).toNat d.2) x < x.2
      rw [numX_set hb (h d (by simp)).1 hx1.1]
      split
      · omega
      · exact hx1.2
    · split <;> exact hx1.2
theorem addR_as {s : Sn} (hs : GoodX s) {d : Dot} (hd : mayD d = true) (hn : ¬ hasX s d) : addR s d = (putD s.2 d).foldl stepR (s.1, []) := by
  unfold addR
  rw [if_neg hn]
  symm
  refine foldR_is _ (s.1, []) hs.1 (srt_putD hs.2.1) fun x hx => ?_
  rcases mem_putD.1 hx with q | q
  · subst q
    exact ⟨hd, by have : ¬ x.2 ≤ numX s.1 x := fun q => hn (.inl q); show numX s.1 x < x.2; omega⟩
  · have := hs.2.2 x q
    exact ⟨this.1, by show numX s.1 x < x.2; omega⟩
end Go.Proofs.Ytohhlidlgibieaa

/- What each function of package sum does: it answers the plain function of the same name and leaves the world as it was. Asked: the bytes lie in memory as said. -/
namespace Go.Proofs.Ytohhlidlgibieaa
open Go.RowKit

theorem hide {p : Prop} (h : p) : Hid p := h
theorem unhide {p : Prop} (h : Hid p) : p := h
theorem ret_int {k : IntKind} {a b : Int} (h : a = b) : Ending.returned (.int k a) = .returned (.int k b) := by rw [h]

/-- A slice value's bytes: 'l', each a byte; where there is one at all, they lie in one row of cells. -/
def BS (w : World) (a : Option Addr) (len : Nat) (l : List Int) : Prop :=
  l.length = len ∧ len ≤ maxLen ∧ (∀ n ∈ l, 0 ≤ n ∧ n < 256) ∧ (len = 0 ∨ ∃ b off, a = some ⟨b, off, none⟩ ∧ ∀ i, i < len → w.cell? ⟨b, off + i, none⟩ = some (.int .u8 (l.getD i 0)))

theorem foldl_drop (f : Int → Int → Int) (l : List Int) (k : Nat) (x : Int) (h : k < l.length) : (l.drop k).foldl f x = (l.drop (k + 1)).foldl f (f x (l.getD k 0)) := by
  rw [List.drop_eq_getElem_cons h, List.foldl_cons]
  simp [List.getD_eq_getElem?_getD, h]
theorem getD_byte {l : List Int} (hl : ∀ n ∈ l, 0 ≤ n ∧ n < 256) (k : Nat) : 0 ≤ l.getD k 0 ∧ l.getD k 0 < 256 := by
  by_cases h : k < l.length
  · have : l.getD k 0 = l[k] := by simp [List.getD_eq_getElem?_getD, h]
    rw [this]; exact hl _ (List.getElem_mem h)
  · have : l.getD k 0 = 0 := by simp [List.getD_eq_getElem?_getD, Nat.not_lt.mp h]
    rw [this]; omega

end Go.Proofs.Ytohhlidlgibieaa

/- What 'Of' does: the sum of the parts, one behind the other. Asked: the parts lie in memory as said. -/
namespace Go.Proofs.Ytohhlidlgibieaa
open Go.RowKit

/-- A slice of slices of bytes: the parts 'ps'. -/
def PS (w : World) (a : Option Addr) (n : Nat) (ps : List (List Int)) : Prop :=
  ps.length = n ∧ n ≤ maxLen ∧ (n = 0 ∨ ∃ b off, a = some ⟨b, off, none⟩ ∧ ∀ i, i < n → ∃ x len cap, w.cell? ⟨b, off + i, none⟩ = some (.slice x len cap) ∧ BS w x len (ps.getD i []))

/-- Every cell that could be read can be read still, and holds what it held. -/
def Ext (w w' : World) : Prop := ∀ p v, w.cell? p = some v → w'.cell? p = some v
theorem Ext.refl (w : World) : Ext w w := fun _ _ h => h
theorem Ext.trans {a b c : World} (h : Ext a b) (k : Ext b c) : Ext a c := fun p v hp => k p v (h p v hp)
theorem Ext.alloc {a w : World} (h : Ext a w) (o : Obj) : Ext a (w.alloc o) := fun p v hp => Lib.cell?_alloc_marked o (h p v hp)
theorem Ext.below {a w w' : World} (h : Ext a w) (hb : Below w.heap.size w w') : Ext a w' := fun p v hp => by
  have h1 := h p v hp
  have hlt : p.block < w.heap.size := by
    rcases Nat.lt_or_ge p.block w.heap.size with h' | h'
    · exact h'
    · simp [World.cell?, Array.getElem?_eq_none h'] at h1
  rw [hb.cell hlt]; exact h1
theorem BS.ext {w w' : World} {a : Option Addr} {len : Nat} {l : List Int} (h : BS w a len l) (hx : Ext w w') : BS w' a len l := by
  obtain ⟨h1, h2, h3, h4⟩ := h
  refine ⟨h1, h2, h3, ?_⟩
  rcases h4 with h0 | ⟨b, off, ha, hc⟩
  · exact .inl h0
  · exact .inr ⟨b, off, ha, fun i hi => hx _ _ (hc i hi)⟩
theorem BS.new (w : World) (g : Nat) (hg : g = w.heap.size) (l : List Int) (C : Array Value) (hC : C = (l.map (Value.int .u8)).toArray) (fr : Nat × Nat) (n : Nat) (hn : l.length = n) (hmax : n ≤ maxLen) (hby : ∀ x ∈ l, 0 ≤ x ∧ x < 256) :
    BS (w.alloc (.cells C 5 fr)) (some ⟨g, 0, none⟩) n l := by
  subst hg hC
  refine ⟨hn, hmax, hby, .inr ⟨_, 0, rfl, fun i hi => ?_⟩⟩
  rw [World.cell?_alloc_mark]
  subst hn
  simp [List.getD_eq_getElem?_getD, hi]
theorem PS.new (w : World) (g : Nat) (hg : g = w.heap.size) (qs : List (Option Addr × Nat × Nat × List Int)) (C : Array Value) (hC : C = (qs.map fun q => Value.slice q.1 q.2.1 q.2.2.1).toArray) (fr : Nat × Nat)
    (n : Nat) (hn : qs.length = n) (hmax : n ≤ maxLen) (ps : List (List Int)) (hps : ps = qs.map fun q => q.2.2.2) (hq : ∀ q ∈ qs, BS w q.1 q.2.1 q.2.2.2) :
    PS (w.alloc (.cells C 37 fr)) (some ⟨g, 0, none⟩) n ps := by
  subst hg hC hps
  refine ⟨by simpa using hn, hmax, .inr ⟨_, 0, rfl, fun i hi => ?_⟩⟩
  rw [World.cell?_alloc_mark]
  subst hn
  refine ⟨qs[i].1, qs[i].2.1, qs[i].2.2.1, by simp [hi], ?_⟩
  have := (hq qs[i] (List.getElem_mem hi)).ext ((Ext.refl w).alloc (.cells (qs.map fun q => Value.slice q.1 q.2.1 q.2.2.1).toArray 37 fr))
  simpa [List.getD_eq_getElem?_getD, hi] using this

theorem foldl_drop2 (f : Int → List Int → Int) (l : List (List Int)) (k : Nat) (x : Int) (h : k < l.length) : (l.drop k).foldl f x = (l.drop (k + 1)).foldl f (f x (l.getD k [])) := by
  rw [List.drop_eq_getElem_cons h, List.foldl_cons]
  simp [List.getD_eq_getElem?_getD, h]

theorem conv_at (w : World) (C : Array Value) (n c g : Nat) (hg : g = w.heap.size) :
    (convert 37 37 (.slice (some ⟨g, 0, none⟩) n c)).run Try.prog (w.alloc (.cells C 5)) = .ok (.slice (some ⟨g, 0, none⟩) n c) (w.alloc (.cells C 5 (C.size, C.size + 1))) := by
  subst hg; exact Lib.run_convert_bytes_const w 37 5 C n c Try.underlying37 Try.underlying5

end Go.Proofs.Ytohhlidlgibieaa

/- What the document's answer (package hucksterref01) does: the bits of at most 100000 bytes in new memory, and the register behind bits. Asked: the bytes lie in memory as said. -/
namespace Go.Proofs.Ytohhlidlgibieaa
open Go.RowKit

def pw (j : Nat) : Int := [128, 64, 32, 16, 8, 4, 2, 1].getD j 0
def bitsOf (o : Int) : List Int := (List.range 8).map fun j => o / pw j % 2
def allBits (l : List Int) : List Int := l.flatMap bitsOf

theorem pw_step (j : Nat) (h : j < 8) : pw j / 2 = pw (j + 1) ∧ 0 < pw j ∧ pw j ≤ 128 := by
  match j, h with
  | 0, _ => decide
  | 1, _ => decide
  | 2, _ => decide
  | 3, _ => decide
  | 4, _ => decide
  | 5, _ => decide
  | 6, _ => decide
  | 7, _ => decide
theorem pw_pos (j : Nat) (h : 0 < pw j) : j < 8 := by
  rcases Nat.lt_or_ge j 8 with h' | h'
  · exact h'
  · simp [pw, List.getD_eq_getElem?_getD, List.getElem?_eq_none (l := [128, 64, 32, 16, 8, 4, 2, (1 : Int)]) (by simpa using h')] at h
theorem bits_len (o : Int) : (bitsOf o).length = 8 := by simp [bitsOf]
theorem bits_take (o : Int) (j : Nat) (h : j < 8) : (bitsOf o).take (j + 1) = (bitsOf o).take j ++ [o / pw j % 2] := by
  rw [List.take_succ_eq_append_getElem (by rw [bits_len]; exact h)]
  simp [bitsOf]
theorem all_snoc (l : List Int) (k : Nat) (h : k < l.length) : allBits (l.take (k + 1)) = allBits (l.take k) ++ bitsOf (l.getD k 0) := by
  unfold allBits
  rw [List.take_succ_eq_append_getElem h, List.flatMap_append]
  simp [List.getD_eq_getElem?_getD, h]
theorem all_len (l : List Int) : (allBits l).length = 8 * l.length := by
  unfold allBits
  induction l with
  | nil => rfl
  | cons a l ih => rw [List.flatMap_cons, List.length_append, bits_len, ih, List.length_cons]; omega

theorem Try.info3 : (Try.prog.info? 3).map (fun i => (i.zero, i.size, i.bytes)) = some (some (.int .i64 0), 1, 8) := by kernel_rfl

theorem rel_app {N n : Nat} {w wr w1 : World} {u : Value} {xs : List Value} {o : Obj} (hw : N ≤ w.heap.size) (hown : wr.ownsRow N 3 1 u n xs) (hnx : Below N w wr)
    (hgrow : (wr.alloc o).grownBy w1 u.ownBlock) : Below N w w1 :=
  (hnx.alloc (by have := hnx.size; omega) o).grown hgrow (by have := hnx.size; simp; omega) (fun j hj => by have := (hown.lt j hj).1; omega)

end Go.Proofs.Ytohhlidlgibieaa

/- What the document's 'run', 'Of' and 'On' do: the register behind bits, and so the very sums that package sum gives. Asked: at most 100000 bytes, lying in memory as said. -/
namespace Go.Proofs.Ytohhlidlgibieaa
open Go.RowKit

theorem feed_bits (r o : Int) (h0 : 0 ≤ o) (h1 : o < 256) : (bitsOf o).foldl stp r = feed r o := by
  have e0 : o / 128 % 2 = o / 128 := by omega
  have e1 : o * 2 % 256 / 128 = o / 64 % 2 := by omega
  have e2 : o * 2 % 256 * 2 % 256 / 128 = o / 32 % 2 := by omega
  have e3 : o * 2 % 256 * 2 % 256 * 2 % 256 / 128 = o / 16 % 2 := by omega
  have e4 : o * 2 % 256 * 2 % 256 * 2 % 256 * 2 % 256 / 128 = o / 8 % 2 := by omega
  have e5 : o * 2 % 256 * 2 % 256 * 2 % 256 * 2 % 256 * 2 % 256 / 128 = o / 4 % 2 := by omega
  have e6 : o * 2 % 256 * 2 % 256 * 2 % 256 * 2 % 256 * 2 % 256 * 2 % 256 / 128 = o / 2 % 2 := by omega
  have e7 : o * 2 % 256 * 2 % 256 * 2 % 256 * 2 % 256 * 2 % 256 * 2 % 256 * 2 % 256 / 128 = o / 1 % 2 := by omega
  have hb : bitsOf o = [o / 128 % 2, o / 64 % 2, o / 32 % 2, o / 16 % 2, o / 8 % 2, o / 4 % 2, o / 2 % 2, o / 1 % 2] := rfl
  rw [hb]
  simp only [List.foldl, feed, fd]
  rw [e0, e1, e2, e3, e4, e5, e6, e7]

theorem all_foldl (l : List Int) (hl : ∀ n ∈ l, 0 ≤ n ∧ n < 256) : ∀ r, (allBits l).foldl stp r = l.foldl feed r := by
  induction l with
  | nil => intro r; rfl
  | cons a l ih =>
    intro r
    unfold allBits
    rw [List.flatMap_cons, List.foldl_append, feed_bits r a (hl a (by simp)).1 (hl a (by simp)).2, List.foldl_cons]
    exact ih (fun n hn => hl n (by simp [hn])) _

/-- A slice value's ints. -/
def IS (w : World) (a : Option Addr) (n : Nat) (l : List Int) : Prop :=
  l.length = n ∧ n ≤ 800000 ∧ (n = 0 ∨ ∃ b off, a = some ⟨b, off, none⟩ ∧ ∀ i, i < n → w.cell? ⟨b, off + i, none⟩ = some (.int .i64 (l.getD i 0)))

theorem IS.own {w : World} {N : Nat} {v : Value} {n : Nat} {l : List Int} (h : w.ownsRow N 3 1 v n (l.map (Value.int .i64))) (hn : n ≤ 800000) :
    ∃ a cap, v = .slice a n cap ∧ IS w a n l := by
  obtain ⟨hx, h2⟩ := h
  have hl : l.length = n := by simpa using hx
  rcases h2 with ⟨rfl, rfl⟩ | ⟨g, cap, cur, rfl, hb, hg, hc1, hc2, hs, ht⟩
  · exact ⟨none, 0, rfl, hl, hn, .inl rfl⟩
  · have hw : w.ownsRow N 3 1 (.slice (some ⟨g, 0, none⟩) n cap) n (l.map (Value.int .i64)) := ⟨hx, .inr ⟨g, cap, cur, rfl, hb, hg, hc1, hc2, hs, ht⟩⟩
    refine ⟨some ⟨g, 0, none⟩, cap, rfl, hl, hn, .inr ⟨g, 0, rfl, fun i hi => ?_⟩⟩
    rw [Nat.zero_add, hw.cellAt i (by omega)]
    subst hl
    simp [List.getD_eq_getElem?_getD, hi]

theorem cpl_lit (r : Int) : bits .xor .u32 4294967295 r = cpl r := rfl
theorem cpl_zero : cpl 0 = 4294967295 := by decide +kernel

end Go.Proofs.Ytohhlidlgibieaa

/- What a statement is told of bytes that came in, and that they lie in memory as the walks ask. -/
namespace Go.Proofs.Ytohhlidlgibieaa
open Go.RowKit

/-- A slice of integers that came in: it is nil; or it leads to a row of 'cap' cells, the numbers 'zs' (the first 'len' are its elements, the rest its spare room), each fitting its kind. -/
def IsRow (k : IntKind) (w : World) (a : Option Addr) (len cap : Nat) (zs : List Int) : Prop :=
  (a = none ∧ len = 0 ∧ cap = 0 ∧ zs = []) ∨
  ∃ x, a = some x ∧ len ≤ cap ∧ cap ≤ maxLen ∧ zs.length = cap ∧ (∀ i, i < zs.length → w.cell? (x.add i) = some (.int k (zs.getD i 0))) ∧ ∀ n ∈ zs, (Lit.int k n).wf = true

theorem IsRow.bs {w : World} {a : Option Addr} {len cap : Nat} {zs : List Int} (h : IsRow .u8 w a len cap zs) : ∃ l, BS w a len l := by
  rcases h with ⟨rfl, rfl, rfl, rfl⟩ | ⟨x, rfl, hl, hm, hz, hcell, hwz⟩
  · exact ⟨[], rfl, by decide, (fun n hn => by cases hn), .inl rfl⟩
  · refine ⟨zs.take len, by rw [List.length_take]; omega, by omega, fun n hn => ?_, ?_⟩
    · have h1 := hwz n (List.mem_of_mem_take hn)
      simp [Lit.wf, IntKind.min, IntKind.max, IntKind.bits, IntKind.signed] at h1
      omega
    · rcases Nat.eq_zero_or_pos len with h0 | hp
      · exact .inl h0
      · obtain ⟨b, off, spot⟩ := x
        have hspot : spot = none := by simpa [Addr.add] using World.cell?_spot (hcell 0 (by omega))
        subst hspot
        refine .inr ⟨b, off, rfl, fun i hi => ?_⟩
        have h1 := hcell i (by omega)
        have h2 : (zs.take len).getD i 0 = zs.getD i 0 := by simp [List.getD_eq_getElem?_getD, hi]
        rw [h2]
        by_cases hi0 : i = 0
        · subst hi0; simpa [Addr.add] using h1
        · simpa [Addr.add, hi0] using h1

theorem one_ps (w : World) (a : Option Addr) (len cap : Nat) (l : List Int) (h : BS w a len l) : PS (w.alloc (.cells #[.slice a len cap] 37)) (some ⟨w.heap.size, 0, none⟩) 1 [l] := by
  refine PS.new _ _ rfl [(a, len, cap, l)] _ rfl _ 1 rfl (by decide) _ rfl ?_
  intro q hq
  simp only [List.mem_cons, List.not_mem_nil, or_false] at hq
  rcases hq with rfl
  exact h
end Go.Proofs.Ytohhlidlgibieaa

/- Bytes cut out of bytes lie in memory as the walks ask; sums of parts. -/
namespace Go.Proofs.Ytohhlidlgibieaa
open Go.RowKit

theorem Ext.drew {a w : World} (h : Ext a w) : Ext a w.drew := fun p v hp => h p v hp
theorem PS.drew {w : World} {a : Option Addr} {n : Nat} {ps : List (List Int)} (h : PS w a n ps) : PS w.drew a n ps := h
theorem BS.drew {w : World} {a : Option Addr} {n : Nat} {l : List Int} (h : BS w a n l) : BS w.drew a n l := h

/-- What 'x[i:h]' leads to. -/
def slA (a : Option Addr) (cap i : Nat) : Option Addr := if cap = i then a else a.map (fun x => x.add i)

theorem BS.cut {w : World} {a : Option Addr} {len : Nat} {l : List Int} (hB : BS w a len l) (i h cap : Nat) (h1 : i ≤ h) (h2 : h ≤ len) (h3 : len ≤ cap) :
    BS w (slA a cap i) (h - i) ((l.take h).drop i) := by
  obtain ⟨g1, g2, g3, g4⟩ := hB
  refine ⟨by rw [List.length_drop, List.length_take]; omega, by omega, fun n hn => g3 n (List.mem_of_mem_take (List.mem_of_mem_drop hn)), ?_⟩
  rcases Nat.eq_zero_or_pos (h - i) with h0 | hp
  · exact .inl h0
  · rcases g4 with h0 | ⟨b, off, rfl, hc⟩
    · omega
    · refine .inr ⟨b, off + i, ?_, fun t ht => ?_⟩
      · unfold slA
        rw [if_neg (by omega)]
        by_cases hi : i = 0
        · subst hi; simp [Addr.add]
        · simp [Addr.add, hi]
      · have h4 : ((l.take h).drop i).getD t 0 = l.getD (i + t) 0 := by
          have h5 : i + t < h := by omega
          simp [List.getD_eq_getElem?_getD, h5]
        rw [h4, Nat.add_assoc]
        exact hc (i + t) (by omega)

theorem BS.head {w : World} {a : Option Addr} {len : Nat} {l : List Int} (hB : BS w a len l) (h : Nat) (h2 : h ≤ len) : BS w a h (l.take h) := by
  obtain ⟨g1, g2, g3, g4⟩ := hB
  refine ⟨by rw [List.length_take]; omega, by omega, fun n hn => g3 n (List.mem_of_mem_take hn), ?_⟩
  rcases Nat.eq_zero_or_pos h with h0 | hp
  · exact .inl h0
  · rcases g4 with h0 | ⟨b, off, rfl, hc⟩
    · omega
    · refine .inr ⟨b, off, rfl, fun t ht => ?_⟩
      have h4 : (l.take h).getD t 0 = l.getD t 0 := by simp [List.getD_eq_getElem?_getD, ht]
      rw [h4]
      exact hc t (by omega)

theorem of_three (l : List Int) (i k : Nat) (h : i ≤ k) : of [l.take i, (l.take k).drop i, l.drop k] = of [l] := by
  show on (on (on 0 (l.take i)) ((l.take k).drop i)) (l.drop k) = on 0 l
  rw [← on_append, ← on_append]
  congr 1
  have h1 : l.take i = (l.take k).take i := by rw [List.take_take, Nat.min_eq_left h]
  rw [h1, ← List.append_assoc, List.take_append_drop, List.take_append_drop]
theorem on_of (l : List Int) (k : Nat) : on (of [l.take k]) (l.drop k) = of [l] := by
  show on (on 0 (l.take k)) (l.drop k) = on 0 l
  rw [← on_append, List.take_append_drop]
theorem PS.none (w : World) : PS w Option.none 0 [] := ⟨rfl, by decide, .inl rfl⟩

theorem three_ps (w : World) (a : Option Addr) (len cap : Nat) (l : List Int) (hB : BS w a len l) (i k : Nat) (h1 : i ≤ k) (h2 : k ≤ len) (h3 : len ≤ cap) :
    PS (w.alloc (.cells #[.slice a i cap, .slice (slA a cap i) (k - i) (cap - i), .slice (slA a cap k) (len - k) (cap - k)] 37)) (some ⟨w.heap.size, 0, .none⟩) 3 [l.take i, (l.take k).drop i, l.drop k] := by
  refine PS.new _ _ rfl [(a, i, cap, l.take i), (slA a cap i, k - i, cap - i, (l.take k).drop i), (slA a cap k, len - k, cap - k, l.drop k)] _ rfl _ 3 rfl (by decide) _ rfl ?_
  intro q hq
  simp only [List.mem_cons, List.not_mem_nil, or_false] at hq
  rcases hq with rfl | rfl | rfl
  · exact hB.head i (by omega)
  · exact hB.cut i k cap h1 h2 h3
  · have := hB.cut k len cap h2 (Nat.le_refl _) h3
    rw [List.take_of_length_le (by rw [hB.1]; exact Nat.le_refl _)] at this
    exact this
theorem one_ps' (w : World) (a : Option Addr) (len cap : Nat) (l : List Int) (h : BS w a len l) (k : Nat) (hk : k ≤ len) :
    PS ((w.alloc (.cells #[.slice a len cap] 37)).alloc (.cells #[.slice a k cap] 37)) (some ⟨w.heap.size + 1, 0, Option.none⟩) 1 [l.take k] := by
  have h1 := one_ps (w.alloc (.cells #[.slice a len cap] 37)) a k cap (l.take k) ((h.head k hk).ext ((Ext.refl w).alloc _))
  simpa using h1
theorem two_bs (w : World) (a : Option Addr) (len cap : Nat) (l : List Int) (h : BS w a len l) (k : Nat) (hk : k ≤ len) (hc : len ≤ cap) :
    BS ((w.alloc (.cells #[.slice a len cap] 37)).alloc (.cells #[.slice a k cap] 37)) (slA a cap k) (len - k) (l.drop k) := by
  have h1 := (h.cut k len cap hk (Nat.le_refl _) hc).ext (((Ext.refl w).alloc (.cells #[.slice a len cap] 37)).alloc (.cells #[.slice a k cap] 37))
  rw [List.take_of_length_le (by rw [h.1]; exact Nat.le_refl _)] at h1
  exact h1
end Go.Proofs.Ytohhlidlgibieaa

/- Bytes in memory that the call has made ('Own'), and 'append' onto them as one law. -/
namespace Go.Proofs.Ytohhlidlgibieaa
open Go.RowKit

/-- A slice value whose bytes 'l' lie in a block of the call's own, at 'N' or above. -/
def Own (N : Nat) (w : World) (v : Value) (l : List Int) : Prop := w.ownsRow N 5 1 v l.length (l.map (Value.int .u8))
/-- What is known of a slice value's room. -/
def CP (p : Option Addr) (len cap : Nat) : Prop := len ≤ cap ∧ cap ≤ maxLen ∧ (p = none → cap = 0)

/-- To stop a walk at an operation: 'refine Stop.at ?_' in its arm; 'unfold Stop' behind it. -/
def Stop (p : Prop) : Prop := p
theorem Stop.at {p : Prop} (h : Stop p) : p := h

theorem Own.mono {N N' : Nat} {w : World} {v : Value} {l : List Int} (h : Own N w v l) (hN : N' ≤ N) : Own N' w v l := ⟨h.1, h.2.imp id fun ⟨g, cap, cur, h1, h2, h3⟩ => ⟨g, cap, cur, h1, Nat.le_trans hN h2, h3⟩⟩
theorem Own.alloc {N : Nat} {w : World} {v : Value} {l : List Int} (h : Own N w v l) (o : Obj) : Own N (w.alloc o) v l := World.ownsRow.alloc h o
theorem Own.drew {N : Nat} {w : World} {v : Value} {l : List Int} (h : Own N w v l) : Own N w.drew v l := World.ownsRow.drew h
theorem Own.below {N : Nat} {w w' : World} {v : Value} {l : List Int} (h : Own N w v l) (hb : Below w.heap.size w w') : Own N w' v l := by
  refine ⟨h.1, ?_⟩
  rcases h.2 with hn | ⟨g, cap, cur, rfl, hb', hgg, rest⟩
  · exact .inl hn
  · refine .inr ⟨g, cap, cur, rfl, hb', ?_, rest⟩
    rw [hb.block g (Array.getElem?_eq_some_iff.1 hgg).1]
    exact hgg
theorem Own.open {N : Nat} {w : World} {v : Value} {l : List Int} (h : Own N w v l) (hl : By l) : ∃ p cap, v = .slice p l.length cap ∧ BS w p l.length l ∧ CP p l.length cap := by
  have h0 := h
  obtain ⟨_, h2⟩ := h
  rcases h2 with ⟨rfl, h2⟩ | ⟨g, cap, cur, rfl, hb, hg, hc1, hc2, hs, ht⟩
  · exact ⟨none, 0, by rw [h2], ⟨rfl, by rw [h2]; decide, hl, .inl h2⟩, by omega, by decide, fun _ => rfl⟩
  · refine ⟨some ⟨g, 0, none⟩, cap, rfl, ⟨rfl, by omega, hl, .inr ⟨g, 0, rfl, fun i hi => ?_⟩⟩, hc1, hc2, fun h => by cases h⟩
    rw [Nat.zero_add, World.ownsRow.cellAt h0 i (by omega)]
    simp [List.getD_eq_getElem?_getD, hi]
theorem Own.made (w : World) (N g : Nat) (hg : g = w.heap.size) (hN : N ≤ w.heap.size) : Own N (w.alloc (.cells #[] 5)) (.slice (some ⟨g, 0, none⟩) 0 0) [] := by
  subst hg; exact World.ownsRow_made w #[] 0 hN (by decide) rfl
theorem Own.madeN (w : World) (N g : Nat) (hg : g = w.heap.size) (hN : N ≤ w.heap.size) (C : Array Value) (c : Nat) (hC : C.size = c) (hc : c ≤ maxLen) : Own N (w.alloc (.cells C 5)) (.slice (some ⟨g, 0, none⟩) 0 c) [] := by
  subst hg; exact World.ownsRow_made w C c hN hc (by omega)
theorem Own.lit (w : World) (N g : Nat) (hg : g = w.heap.size) (hN : N ≤ w.heap.size) (l : List Int) (C : Array Value) (hC : C = (l.map (Value.int .u8)).toArray) (n : Nat) (hn : n = l.length) (hl : l.length ≤ maxLen) :
    Own N (w.alloc (.cells C 5)) (.slice (some ⟨g, 0, none⟩) n n) l := by
  subst hn hC hg
  exact ⟨by simp, .inr ⟨w.heap.size, l.length, (l.map (Value.int .u8)).toArray, rfl, hN, heap_alloc_new w _, Nat.le_refl _, hl, by simp, by rw [List.take_of_length_le] <;> simp⟩⟩
theorem Own.one (w : World) (N g : Nat) (hg : g = w.heap.size) (hN : N ≤ w.heap.size) (x : Int) : Own N (w.alloc (.cells #[.int .u8 x] 5)) (.slice (some ⟨g, 0, none⟩) 1 1) [x] :=
  Own.lit w N g hg hN [x] _ rfl 1 rfl (by simp [maxLen])
theorem BS.below {w w' : World} {p : Option Addr} {len : Nat} {l : List Int} (h : BS w p len l) (hb : Below w.heap.size w w') : BS w' p len l := h.ext ((Ext.refl w).below hb)
theorem BS.alloc {w : World} {p : Option Addr} {len : Nat} {l : List Int} (h : BS w p len l) (o : Obj) : BS (w.alloc o) p len l := h.ext ((Ext.refl w).alloc o)
theorem BS.one (w : World) (g : Nat) (hg : g = w.heap.size) (x : Int) (h0 : 0 ≤ x) (h1 : x < 256) : BS (w.alloc (.cells #[.int .u8 x] 5)) (some ⟨g, 0, none⟩) 1 [x] :=
  BS.new w g hg [x] _ rfl _ 1 rfl (by decide) (By.cons h0 h1 By.nil)
theorem CP.some {a : Addr} {n c : Nat} (h : n ≤ c) (hc : c ≤ maxLen) : CP (some a) n c := ⟨h, hc, fun h => by cases h⟩
theorem BS.nil (w : World) (p : Option Addr) : BS w p 0 [] := ⟨rfl, by decide, By.nil, .inl rfl⟩

theorem Try.infoU8 : (Try.prog.info? 5).map (fun i => (i.zero, i.size, i.bytes)) = some (some (.int .u8 0), 1, 1) := by kernel_rfl

/-- 'append(v, x...)', 'v' the call's own. -/
theorem append_bytes {w : World} {ops : Array Oper} {rest : List Oper} {o : Oper} {a : Act} {Q : Exit → Act → World → Prop} (hgd : o.guard = none) (s x : Operand)
    (ho : o.op = .call { callee := .builtin .append, args := #[s, x], argTypes := #[37, 37] })
    (N : Nat) (v : Value) (l m : List Int) (hs : a.eval s = v) (hown : Own N w v l) (p : Option Addr) (len cap : Nat) (hx : a.eval x = .slice p len cap) (hp : p = none → cap = 0) (hB : BS w p len m)
    (hbig : l.length + m.length ≤ 140737488355328) (hN : N ≤ w.heap.size)
    (h : ∀ v' w', Own N w' v' (l ++ m) → w.grownBy w' v.ownBlock → (∀ w0, Below N w0 w → Below N w0 w') → wpList Try.prog ops Q rest (a.put o.dst v') w') : wpList Try.prog ops Q (o :: rest) a w := by
  obtain ⟨i0, hi, hz0, hz1, hz2⟩ := info_parts Try.infoU8
  obtain ⟨g1, g2, g3, g4⟩ := hB
  rcases p with _ | ad
  · have hc := hp rfl
    have hl0 : len = 0 := by
      rcases g4 with h0 | ⟨b, off, hh, _⟩
      · exact h0
      · cases hh
    subst hc hl0
    obtain rfl : m = [] := List.eq_nil_of_length_eq_zero g1
    refine wpList_append_own_none hgd s x _ ho N 5 i0 1 Try.underlying37 hi v _ _ hs hown hx ?_
    refine h v w (by rw [List.append_nil]; exact hown) ⟨rfl, rfl, rfl, Nat.le_refl _, fun _ _ _ => rfl⟩ (fun _ h => h)
  · refine wpList_append_own w hgd s x 37 ho N 5 i0 (.int .u8 0) 1 1 Try.underlying37 hi hz0 hz1 hz2 rfl (by decide) v _ _ hs hown ad len cap (m.map (Value.int .u8)) hx (by simp [g1]) ?_ ?_ (by rw [← g1]; unfold maxLen; omega) (by rw [← g1]; omega) hN ?_
    · intro j u hj
      rw [List.getElem?_map, Option.map_eq_some_iff] at hj
      obtain ⟨y, hy, rfl⟩ := hj
      obtain ⟨hj1, hx2⟩ := List.getElem?_eq_some_iff.1 hy
      rcases g4 with h0 | ⟨b, off, hh, hc⟩
      · omega
      · cases hh
        have h1 := hc j (by omega)
        have h2 : m.getD j 0 = y := by simp [List.getD_eq_getElem?_getD, hy]
        rw [h2] at h1
        have h3 : (⟨b, off, none⟩ : Addr).add j = ⟨b, off + j, none⟩ := by
          by_cases hj0 : j = 0
          · subst hj0; simp [Addr.add]
          · simp [Addr.add, hj0]
        rw [h3]
        exact h1
    · intro u hu
      rw [List.mem_map] at hu
      obtain ⟨y, _, rfl⟩ := hu
      rfl
    · intro v' w' h1 h2 _
      refine h v' w' ?_ h2 (fun w0 hb => hb.grown h2 hN (fun j hj => (World.ownsRow.lt hown j hj).1))
      have e : l.length + len = (l ++ m).length := by rw [List.length_append, g1]
      rw [e, ← List.map_append] at h1
      exact h1
end Go.Proofs.Ytohhlidlgibieaa

/- Numbers in memory: a slice's (NS), those of the call's own (OwnN), and 'append' onto them as one law. -/
namespace Go.Proofs.Ytohhlidlgibieaa
open Go.RowKit
set_option linter.unusedVariables false

/-- A slice value's numbers. -/
def NS (w : World) (a : Option Addr) (n : Nat) (l : List Int) : Prop :=
  l.length = n ∧ n ≤ maxLen ∧ (n = 0 ∨ ∃ b off, a = some ⟨b, off, none⟩ ∧ ∀ i, i < n → w.cell? ⟨b, off + i, none⟩ = some (.int .i64 (l.getD i 0)))
/-- A slice value whose numbers lie in a block of the call's own, at 'N' or above. -/
def OwnN (N : Nat) (w : World) (v : Value) (l : List Int) : Prop := w.ownsRow N 3 1 v l.length (l.map (Value.int .i64))

theorem NS.ext {w w' : World} {a : Option Addr} {n : Nat} {l : List Int} (h : NS w a n l) (hx : Ext w w') : NS w' a n l := by
  obtain ⟨h1, h2, h4⟩ := h
  refine ⟨h1, h2, ?_⟩
  rcases h4 with h0 | ⟨b, off, ha, hc⟩
  · exact .inl h0
  · exact .inr ⟨b, off, ha, fun i hi => hx _ _ (hc i hi)⟩
theorem NS.below {w w' : World} {p : Option Addr} {len : Nat} {l : List Int} (h : NS w p len l) (hb : Below w.heap.size w w') : NS w' p len l := h.ext ((Ext.refl w).below hb)
theorem NS.alloc {w : World} {p : Option Addr} {len : Nat} {l : List Int} (h : NS w p len l) (o : Obj) : NS (w.alloc o) p len l := h.ext ((Ext.refl w).alloc o)
theorem NS.drew {w : World} {a : Option Addr} {n : Nat} {l : List Int} (h : NS w a n l) : NS w.drew a n l := h
theorem NS.nil (w : World) (p : Option Addr) : NS w p 0 [] := ⟨rfl, by decide, .inl rfl⟩
theorem NS.new (w : World) (g : Nat) (hg : g = w.heap.size) (l : List Int) (C : Array Value) (hC : C = (l.map (Value.int .i64)).toArray) (t : TypeId) (fr : Nat × Nat) (n : Nat) (hn : l.length = n) (hmax : n ≤ maxLen) :
    NS (w.alloc (.cells C t fr)) (some ⟨g, 0, none⟩) n l := by
  subst hg hC
  refine ⟨hn, hmax, .inr ⟨_, 0, rfl, fun i hi => ?_⟩⟩
  rw [World.cell?_alloc_mark]
  subst hn
  simp [List.getD_eq_getElem?_getD, hi]
theorem NS.head {w : World} {a : Option Addr} {len : Nat} {l : List Int} (hB : NS w a len l) (h : Nat) (h2 : h ≤ len) : NS w a h (l.take h) := by
  obtain ⟨g1, g2, g4⟩ := hB
  refine ⟨by rw [List.length_take]; omega, by omega, ?_⟩
  rcases Nat.eq_zero_or_pos h with h0 | hp
  · exact .inl h0
  · rcases g4 with h0 | ⟨b, off, rfl, hc⟩
    · omega
    · refine .inr ⟨b, off, rfl, fun t ht => ?_⟩
      have h4 : (l.take h).getD t 0 = l.getD t 0 := by simp [List.getD_eq_getElem?_getD, ht]
      rw [h4]
      exact hc t (by omega)

theorem OwnN.mono {N N' : Nat} {w : World} {v : Value} {l : List Int} (h : OwnN N w v l) (hN : N' ≤ N) : OwnN N' w v l := ⟨h.1, h.2.imp id fun ⟨g, cap, cur, h1, h2, h3⟩ => ⟨g, cap, cur, h1, Nat.le_trans hN h2, h3⟩⟩
theorem OwnN.alloc {N : Nat} {w : World} {v : Value} {l : List Int} (h : OwnN N w v l) (o : Obj) : OwnN N (w.alloc o) v l := World.ownsRow.alloc h o
theorem OwnN.drew {N : Nat} {w : World} {v : Value} {l : List Int} (h : OwnN N w v l) : OwnN N w.drew v l := World.ownsRow.drew h
theorem OwnN.below {N : Nat} {w w' : World} {v : Value} {l : List Int} (h : OwnN N w v l) (hb : Below w.heap.size w w') : OwnN N w' v l := by
  refine ⟨h.1, ?_⟩
  rcases h.2 with hn | ⟨g, cap, cur, rfl, hb', hgg, rest⟩
  · exact .inl hn
  · refine .inr ⟨g, cap, cur, rfl, hb', ?_, rest⟩
    rw [hb.block g (Array.getElem?_eq_some_iff.1 hgg).1]
    exact hgg
theorem OwnN.nil (N : Nat) (w : World) : OwnN N w (.slice none 0 0) [] := ⟨rfl, .inl ⟨rfl, rfl⟩⟩
theorem OwnN.open {N : Nat} {w : World} {v : Value} {l : List Int} (h : OwnN N w v l) : ∃ p cap, v = .slice p l.length cap ∧ NS w p l.length l ∧ CP p l.length cap := by
  have h0 := h
  obtain ⟨_, h2⟩ := h
  rcases h2 with ⟨rfl, h2⟩ | ⟨g, cap, cur, rfl, hb, hg, hc1, hc2, hs, ht⟩
  · exact ⟨none, 0, by rw [h2], ⟨rfl, by rw [h2]; decide, .inl h2⟩, by omega, by decide, fun _ => rfl⟩
  · refine ⟨some ⟨g, 0, none⟩, cap, rfl, ⟨rfl, by omega, .inr ⟨g, 0, rfl, fun i hi => ?_⟩⟩, hc1, hc2, fun h => by cases h⟩
    rw [Nat.zero_add, World.ownsRow.cellAt h0 i (by omega)]
    simp [List.getD_eq_getElem?_getD, hi]
theorem OwnN.made (w : World) (N g : Nat) (hg : g = w.heap.size) (hN : N ≤ w.heap.size) : OwnN N (w.alloc (.cells #[] 3)) (.slice (some ⟨g, 0, none⟩) 0 0) [] := by
  subst hg; exact World.ownsRow_made w #[] 0 hN (by decide) rfl
theorem NS.one (w : World) (g : Nat) (hg : g = w.heap.size) (x : Int) : NS (w.alloc (.cells #[.int .i64 x] 3)) (some ⟨g, 0, none⟩) 1 [x] :=
  NS.new w g hg [x] _ rfl _ _ 1 rfl (by decide)

theorem Try.infoI64 : (Try.prog.info? 3).map (fun i => (i.zero, i.size, i.bytes)) = some (some (.int .i64 0), 1, 8) := by kernel_rfl

/-- What is appended may be of another slice type of the same elements. -/
theorem append_types {P : Program} (t u ty e : TypeId) (ht : P.underlying t = some (.slice e)) (hu : P.underlying u = some (.slice e)) (args : Array Value) (w : World) :
    (Builtin.append_ #[t, u] ty args).run P w = (Builtin.append_ #[t, t] ty args).run P w := by
  unfold Builtin.append_
  rcases args[0]? with _ | s
  · simp
  · rcases args[1]? with _ | x
    · simp
    · cases s <;> simp only [List.getElem?_toArray, List.getElem?_cons_zero, List.getElem?_cons_succ, Sem.run_bind, Sem.run_pure, run_underlying ht, run_underlying hu, Result.andThen_ok]

/-- 'append(v, x...)', 'v' numbers of the call's own. -/
theorem append_nums {w : World} {ops : Array Oper} {rest : List Oper} {o : Oper} {a : Act} {Q : Exit → Act → World → Prop} (hgd : o.guard = none) (s x : Operand) (u : TypeId) (hu : Try.prog.underlying u = some (.slice 3))
    (ho : o.op = .call { callee := .builtin .append, args := #[s, x], argTypes := #[25, u] })
    (N : Nat) (v : Value) (l m : List Int) (hs : a.eval s = v) (hown : OwnN N w v l) (p : Addr) (len cap : Nat) (hx : a.eval x = .slice (some p) len cap) (hB : NS w (some p) len m)
    (hbig : (l.length + m.length) * 8 ≤ 140737488355328) (hN : N ≤ w.heap.size)
    (h : ∀ v' w', OwnN N w' v' (l ++ m) → w.grownBy w' v.ownBlock → (∀ w0, Below N w0 w → Below N w0 w') → wpList Try.prog ops Q rest (a.put o.dst v') w') : wpList Try.prog ops Q (o :: rest) a w := by
  obtain ⟨i0, hi, hz0, hz1, hz2⟩ := info_parts Try.infoI64
  obtain ⟨g1, g2, g4⟩ := hB
  refine wpList_plain hgd fun K hK => ?_
  obtain ⟨v', w', hr, h2, h3, _⟩ := run_append_own (P := Try.prog) w N 25 o.type 3 i0 (.int .i64 0) 1 8 Try.underlying25 hi hz0 hz1 hz2 rfl (by decide) v _ _ hown p len cap (m.map (Value.int .i64)) (by simp [g1])
    (by
      intro j u hj
      rw [List.getElem?_map, Option.map_eq_some_iff] at hj
      obtain ⟨y, hy, rfl⟩ := hj
      obtain ⟨hj1, hx2⟩ := List.getElem?_eq_some_iff.1 hy
      rcases g4 with h0 | ⟨b, off, hh, hc⟩
      · omega
      · cases hh
        have h1 := hc j (by omega)
        have h2 : m.getD j 0 = y := by simp [List.getD_eq_getElem?_getD, hy]
        rw [h2] at h1
        have h3 : (⟨b, off, none⟩ : Addr).add j = ⟨b, off + j, none⟩ := by
          by_cases hj0 : j = 0
          · subst hj0; simp [Addr.add]
          · simp [Addr.add, hj0]
        rw [h3]
        exact h1)
    (by
      intro u hu
      rw [List.mem_map] at hu
      obtain ⟨y, _, rfl⟩ := hu
      rfl)
    (by rw [← g1]; unfold maxLen; omega) (by rw [← g1]; omega) hN
  have e : l.length + len = (l ++ m).length := by rw [List.length_append, g1]
  rw [e, ← List.map_append] at h2
  unfold Oper.wp execOp
  simp only [ho, resolve, invoke, builtin, Sem.run_bind, Sem.run_pure, Result.andThen_ok, List.map_toArray, List.map_cons, List.map_nil, hs, hx, append_types _ _ _ _ Try.underlying25 hu, hr]
  exact hK _ _ (h v' w' h2 h3 (fun w0 hb => hb.grown h3 hN (fun j hj => (World.ownsRow.lt hown j hj).1)))
end Go.Proofs.Ytohhlidlgibieaa

/- What 'mayBeRep', 'mayBeNumber', 'Check', the document's 'May', 'Get' and 'Same' do. -/
namespace Go.Proofs.Ytohhlidlgibieaa
open Go.RowKit
set_option linter.unusedVariables false

theorem retB {a b : Bool} (h : a = b) : Ending.returned (.bool a) = .returned (.bool b) := by rw [h]

theorem mayRep_any (r : Int) (w : World) : Calls Try.prog 57 #[.int .i64 r] w fun e w' => e = .returned (.bool (decide (1 ≤ r ∧ r ≤ 5))) ∧ w' = w := by
  by_cases h1 : r ≥ 1
  · by_cases h2 : r ≤ 5
    · go_enter Try.func57, Try.ntmps57
      go_wp2
      go_ret
      exact ⟨retB (by simp; omega), rfl⟩
    · go_enter Try.func57, Try.ntmps57
      go_wp2
      go_ret
      exact ⟨retB (by simp; omega), rfl⟩
  · go_enter Try.func57, Try.ntmps57
    go_wp2
    go_ret
    exact ⟨retB (by simp; omega), rfl⟩

theorem mayNum_any (r : Int) (w : World) : Calls Try.prog 81 #[.int .i64 r] w fun e w' => e = .returned (.bool (inB r)) ∧ w' = w := by
  by_cases h1 : r ≥ 0
  · by_cases h2 : r ≤ 1048576
    · go_enter Try.func81, Try.ntmps81
      go_wp2
      go_ret
      exact ⟨retB (by simp [inB]; omega), rfl⟩
    · go_enter Try.func81, Try.ntmps81
      go_wp2
      go_ret
      exact ⟨retB (by simp [inB]; omega), rfl⟩
  · go_enter Try.func81, Try.ntmps81
    go_wp2
    go_ret
    exact ⟨retB (by simp [inB]; omega), rfl⟩

/-- 'Check', as a number. -/
def chk (c : List Int) : Int := if mayC c = true then 0 else 1

theorem all_drop {l : List Int} {k : Nat} (h : k < l.length) : (l.drop k).all inB = (inB (l.getD k 0) && (l.drop (k + 1)).all inB) := by
  rw [List.drop_eq_getElem_cons h, List.all_cons]
  simp [List.getD_eq_getElem?_getD, h]

set_option maxHeartbeats 400000 in
theorem check_any (a : Option Addr) (n cap : Nat) (c : List Int) (w : World) (hN : NS w a n c) :
    Calls Try.prog 56 #[.slice a n cap] w fun e w' => e = .returned (.int .i64 (chk c)) ∧ w' = w := by
  obtain ⟨hlen, hmax, hcells⟩ := hN
  unfold maxLen at hmax
  by_cases h5 : n > 5
  · have HE : Hid (1 = chk c) := by
      have : mayC c = false := by simp [mayC, hlen]; omega
      unfold Hid chk; simp [this]
    clear hlen hcells
    go_enter Try.func56, Try.ntmps56
    go_wp2
    go_ret
    exact ⟨ret_int HE.out, rfl⟩
  · have hlen' := hide hlen
    have HM : Hid (mayC c = (c.drop 0).all inB) := by unfold Hid; simp [mayC, hlen]; omega
    have hcells' := hide hcells
    clear hlen hcells
    go_enter Try.func56, Try.ntmps56
    go_wp2
    go_loop [10] (fun i => ∃ k : Nat, k ≤ n ∧ i = .int .i64 k ∧ Hid (mayC c = (c.drop k).all inB)) (fun i => n - (intOf i).toNat)
    case atStart => exact ⟨0, by omega, rfl, HM⟩
    case round =>
      clear HM
      obtain ⟨k, hk, rfl, hH⟩ := hrel
      by_cases hlt : k < n
      · rcases hcells'.out with h0 | ⟨b, off, rfl, hc⟩
        · omega
        · have hck := hc k hlt
          have hst : Hid (mayC c = (inB (c.getD k 0) && (c.drop (k + 1)).all inB)) := by
            have h2 := hH.out
            rw [all_drop (by rw [hlen'.out]; exact hlt)] at h2
            exact h2
          clear hH hc hcells'
          generalize c.getD k 0 = x at hck hst
          rcases hb : inB x with _ | _
          · have HE : Hid (1 = chk c) := by have h2 := hst.out; rw [hb] at h2; unfold Hid chk; simp [h2]
            have mb := mayNum_any x
            rw [hb] at mb
            clear hst
            go_wp2_with (go_at_call 81; refine (mb _).mono ?_; rintro e w' ⟨rfl, rfl⟩)
            go_ret
            exact ⟨ret_int HE.out, rfl⟩
          · have hst2 : Hid (mayC c = (c.drop (k + 1)).all inB) := by have h2 := hst.out; rw [hb] at h2; unfold Hid; simpa using h2
            have mb := mayNum_any x
            rw [hb] at mb
            clear hst
            go_wp2_with (go_at_call 81; refine (mb _).mono ?_; rintro e w' ⟨rfl, rfl⟩)
            go_round
            case rel => exact ⟨k + 1, by omega, by go_num, hst2⟩
            case measure => simp [intOf]; omega
      · have hkl : k = n := by omega
        subst hkl
        have HE : Hid (0 = chk c) := by
          have h2 := hH.out
          rw [List.drop_of_length_le (by rw [hlen'.out]; exact Nat.le_refl _)] at h2
          unfold Hid chk; simp [h2]
        clear hH
        go_wp2
        go_ret
        exact ⟨ret_int HE.out, rfl⟩

set_option maxHeartbeats 400000 in
theorem may_ref (a : Option Addr) (n cap : Nat) (c : List Int) (w : World) (hN : NS w a n c) :
    Calls Try.prog 34 #[.slice a n cap] w fun e w' => e = .returned (.bool (mayC c)) ∧ w' = w := by
  obtain ⟨hlen, hmax, hcells⟩ := hN
  unfold maxLen at hmax
  have hlen' := hide hlen
  have HM : Hid (mayC c = (decide (n ≤ 5) && (c.drop 0).all inB)) := by unfold Hid; simp [mayC, hlen]
  have hcells' := hide hcells
  clear hlen hcells
  go_enter Try.func34, Try.ntmps34
  go_wp2
  go_loop [3] (fun i => ∃ k : Nat, k ≤ n ∧ i = .int .i64 k ∧ Hid (mayC c = (decide (n ≤ 5) && (c.drop k).all inB))) (fun i => n - (intOf i).toNat)
  case atStart => exact ⟨0, by omega, rfl, HM⟩
  case round =>
    clear HM
    obtain ⟨k, hk, rfl, hH⟩ := hrel
    by_cases hlt : k < n
    · rcases hcells'.out with h0 | ⟨b, off, rfl, hc⟩
      · omega
      · have hck := hc k hlt
        have hst : Hid (mayC c = (decide (n ≤ 5) && (inB (c.getD k 0) && (c.drop (k + 1)).all inB))) := by
          have h2 := hH.out
          rw [all_drop (by rw [hlen'.out]; exact hlt)] at h2
          exact h2
        clear hH hc hcells'
        generalize c.getD k 0 = x at hck hst
        by_cases h1 : x < 0
        · have HE : Hid (false = mayC c) := by have h2 := hst.out; unfold Hid; rw [h2]; simp [inB]; omega
          clear hst
          go_wp2
          go_ret
          exact ⟨retB HE.out, rfl⟩
        · by_cases h2 : x > 1048576
          · have HE : Hid (false = mayC c) := by have h2 := hst.out; unfold Hid; rw [h2]; simp [inB]; omega
            clear hst
            go_wp2
            go_ret
            exact ⟨retB HE.out, rfl⟩
          · have hst2 : Hid (mayC c = (decide (n ≤ 5) && (c.drop (k + 1)).all inB)) := by
              have h3 := hst.out
              have h4 : inB x = true := inB_iff.2 ⟨by omega, by omega⟩
              rw [h4] at h3; unfold Hid; simpa using h3
            clear hst
            go_wp2
            go_round
            case rel => exact ⟨k + 1, by omega, by go_num, hst2⟩
            case measure => simp [intOf]; omega
    · have hkl : k = n := by omega
      subst hkl
      have HE : Hid (decide (k ≤ 5) = mayC c) := by
        have h2 := hH.out
        rw [List.drop_of_length_le (by rw [hlen'.out]; exact Nat.le_refl _)] at h2
        unfold Hid; rw [h2]; simp
      clear hH
      go_wp2
      go_ret
      exact ⟨retB (by rw [← HE.out]; simp; omega), rfl⟩

set_option maxHeartbeats 400000 in
/-- The document's 'Get'. -/
theorem get_ref (a : Option Addr) (n cap : Nat) (c : List Int) (r : Int) (w : World) (hN : NS w a n c) (k : Nat) (hr : r = k + 1) :
    Calls Try.prog 36 #[.slice a n cap, .int .i64 r] w fun e w' => e = .returned (.int .i64 (at5 c k)) ∧ w' = w := by
  have mb := may_ref a n cap c w hN
  obtain ⟨hlen, hmax, hcells⟩ := hN
  unfold maxLen at hmax
  subst hr
  by_cases hm : mayC c = true
  · have h5 : n ≤ 5 := by have := (mayC_iff.1 hm).1; omega
    rw [hm] at mb
    by_cases hk : k < n
    · have HE : Hid (c.getD k 0 = at5 c k) := by unfold Hid at5; rw [if_pos hm]
      rcases hcells with h0 | ⟨b, off, rfl, hc⟩
      · omega
      · have hck := hc k hk
        have hw : ((k : Int) + 1 - 1) = k := by omega
        have e1 : ¬ ((k : Int) + 1 < 1) := by omega
        have e2 : ¬ ((k : Int) + 1 > n) := by omega
        clear hc hlen hm
        generalize c.getD k 0 = x at hck HE
        go_enter Try.func36, Try.ntmps36
        go_wp2_with (go_at_call 34; refine mb.mono ?_; rintro e w' ⟨rfl, rfl⟩)
        go_ret
        exact ⟨ret_int HE.out, rfl⟩
    · have HE : Hid (0 = at5 c k) := by
        unfold Hid at5; rw [if_pos hm]; simp [List.getD_eq_getElem?_getD, List.getElem?_eq_none (show c.length ≤ k by omega)]
      have e1 : ¬ ((k : Int) + 1 < 1) := by omega
      have e2 : ((k : Int) + 1 > n) := by omega
      clear hcells hlen hm
      go_enter Try.func36, Try.ntmps36
      go_wp2_with (go_at_call 34; refine mb.mono ?_; rintro e w' ⟨rfl, rfl⟩)
      go_ret
      exact ⟨ret_int HE.out, rfl⟩
  · have HE : Hid (0 = at5 c k) := by unfold Hid at5; rw [if_neg hm]
    rw [show mayC c = false by simpa using hm] at mb
    clear hcells hlen hm
    go_enter Try.func36, Try.ntmps36
    go_wp2_with (go_at_call 34; refine mb.mono ?_; rintro e w' ⟨rfl, rfl⟩)
    go_ret
    exact ⟨ret_int HE.out, rfl⟩

theorem get_ref_as (a : Option Addr) (n cap : Nat) (c : List Int) (r x : Int) (w : World) (hN : NS w a n c) (k : Nat) (hr : r = k + 1) (hx : at5 c k = x) :
    Calls Try.prog 36 #[.slice a n cap, .int .i64 r] w fun e w' => e = .returned (.int .i64 x) ∧ w' = w := by
  subst hx; exact get_ref a n cap c r w hN k hr

theorem eq_drop {l m : List Int} {k : Nat} (h : k < l.length) (h2 : k < m.length) : (l.drop k = m.drop k) ↔ (l.getD k 0 = m.getD k 0 ∧ l.drop (k + 1) = m.drop (k + 1)) := by
  rw [List.drop_eq_getElem_cons h, List.drop_eq_getElem_cons h2, List.cons.injEq]
  simp [List.getD_eq_getElem?_getD, h, h2]

set_option maxHeartbeats 400000 in
/-- The document's 'Same'. -/
theorem same_any (a a' : Option Addr) (n cap n' cap' : Nat) (c d : List Int) (w : World) (hN : NS w a n c) (hN' : NS w a' n' d) :
    Calls Try.prog 32 #[.slice a n cap, .slice a' n' cap'] w fun e w' => e = .returned (.bool (decide (c = d))) ∧ Below w.heap.size w w' := by
  obtain ⟨hlen, hmax, hcells⟩ := hN
  obtain ⟨hlen', hmax', hcells'⟩ := hN'
  unfold maxLen at hmax hmax'
  by_cases hnn : n = n'
  · subst hnn
    have HL := hide hlen
    have HL' := hide hlen'
    have HC := hide hcells
    have HC' := hide hcells'
    clear hlen hlen' hcells hcells'
    go_enter Try.func32, Try.ntmps32
    go_wp2
    go_loopw [5] (fun i wr => ∃ k : Nat, k ≤ n ∧ i = .int .i64 k ∧ Below w.heap.size w wr ∧ Hid ((c = d) ↔ (c.drop k = d.drop k))) (fun i _ => n - (intOf i).toNat)
    case atStart => exact ⟨0, by omega, rfl, Below.refl _ _, by unfold Hid; simp⟩
    case round =>
      obtain ⟨k, hk, rfl, hbel, hH⟩ := hrel
      by_cases hlt : k < n
      · rcases HC.out with h0 | ⟨b, off, rfl, hc⟩
        · omega
        · rcases HC'.out with h0 | ⟨b', off', rfl, hc'⟩
          · omega
          · have hck := ((Ext.refl w).below hbel) _ _ (hc k hlt)
            have hck' := ((Ext.refl w).below hbel) _ _ (hc' k hlt)
            have hst : Hid ((c = d) ↔ (c.getD k 0 = d.getD k 0 ∧ c.drop (k + 1) = d.drop (k + 1))) := by
              have h2 := hH.out
              rw [eq_drop (by rw [HL.out]; exact hlt) (by rw [HL'.out]; exact hlt)] at h2
              exact h2
            clear hc hc' hH
            generalize c.getD k 0 = x at hck hst
            generalize d.getD k 0 = y at hck' hst
            by_cases hxy : x = y
            · have hst2 : Hid ((c = d) ↔ (c.drop (k + 1) = d.drop (k + 1))) := by have h2 := hst.out; unfold Hid; rw [h2]; simp [hxy]
              clear hst
              subst hxy
              go_wp2
              go_region
              all_goals go_wp2
              all_goals go_roundw
              all_goals first | exact ⟨k + 1, by omega, by go_num, by first | exact hbel | exact hbel.drew, hst2⟩ | (simp [intOf]; omega)
            · have HE : Hid (false = decide (c = d)) := by have h2 := hst.out; unfold Hid; simp [h2, hxy]
              have hxy2 : (x == y) = false := by simpa using hxy
              clear hst
              go_wp2
              go_region
              all_goals go_wp2
              all_goals go_ret
              all_goals exact ⟨retB HE.out, by first | exact hbel | exact hbel.drew⟩
      · have hkl : k = n := by omega
        subst hkl
        have HE : Hid (true = decide (c = d)) := by
          have h2 := hH.out
          rw [List.drop_of_length_le (by rw [HL.out]; exact Nat.le_refl _), List.drop_of_length_le (by rw [HL'.out]; exact Nat.le_refl _)] at h2
          unfold Hid; simp [h2]
        clear hH
        go_wp2
        go_ret
        exact ⟨retB HE.out, hbel⟩
  · have HE : Hid (false = decide (c = d)) := by
      unfold Hid; symm; rw [decide_eq_false_iff_not]; intro hh; subst hh; omega
    have hnn' : ¬ ((n : Int) = n') := by omega
    clear hlen hlen' hcells hcells'
    go_enter Try.func32, Try.ntmps32
    go_wp2
    go_ret
    exact ⟨retB HE.out, Below.refl _ _⟩
end Go.Proofs.Ytohhlidlgibieaa

/- What 'numbersOf', 'plain', 'join' and 'within' do: arrays of five numbers. -/
namespace Go.Proofs.Ytohhlidlgibieaa
open Go.RowKit
set_option linter.unusedVariables false

theorem at5_may {c : List Int} (hm : mayC c = true) (k : Nat) : at5 c k = c.getD k 0 := if_pos hm
theorem five_row {c : List Int} (hm : mayC c = true) (z : Value) (hz : z = .int .i64 0) : (c.map (Value.int .i64) ++ List.drop c.length [z, z, z, z, z]) = [.int .i64 (at5 c 0), .int .i64 (at5 c 1), .int .i64 (at5 c 2), .int .i64 (at5 c 3), .int .i64 (at5 c 4)] := by
  subst hz
  simp only [at5_may hm]
  have h5 := (mayC_iff.1 hm).1
  match c, h5 with
  | [], _ => rfl
  | [_], _ => rfl
  | [_, _], _ => rfl
  | [_, _, _], _ => rfl
  | [_, _, _, _], _ => rfl
  | [_, _, _, _, _], _ => rfl
theorem Try.infoI1 : (Try.prog.info? 3).map (·.size) = some 1 := by kernel_rfl
theorem Try.info5 : (Try.prog.info? 84).map (·.size) = some 5 := by kernel_rfl

theorem bel1 (w : World) (A : Obj) : Below w.heap.size w (w.alloc A) := (Below.refl _ _).alloc (Nat.le_refl _) _
theorem bel2 (w : World) (A B : Obj) : Below w.heap.size w ((w.alloc A).alloc B) := (bel1 w A).alloc (by simp) _
theorem bel3 (w : World) (A B C : Obj) : Below w.heap.size w (((w.alloc A).alloc B).alloc C) := (bel2 w A B).alloc (by simp; omega) _

/-- 'copy(x[:], c)', 'x' five noughts. -/
theorem run_copy_five (w : World) (g : Nat) (hg : g = w.heap.size) (p : Option Addr) (n cap : Nat) (c : List Int) (hN : NS w p n c) (hm : mayC c = true) :
    (Builtin.copy_ #[24, 25] 3 #[.slice (some ⟨g, 0, none⟩) 5 5, .slice p n cap]).run Try.prog (w.alloc (.cells #[.int .i64 0, .int .i64 0, .int .i64 0, .int .i64 0, .int .i64 0] 84)) =
      .ok (goInt n) (w.alloc (.cells #[.int .i64 (at5 c 0), .int .i64 (at5 c 1), .int .i64 (at5 c 2), .int .i64 (at5 c 3), .int .i64 (at5 c 4)] 84)) := by
  subst hg
  have hN' := hN.alloc (.cells #[.int .i64 0, .int .i64 0, .int .i64 0, .int .i64 0, .int .i64 0] 84)
  obtain ⟨hl, _, hc⟩ := hN'
  have h5 : c.length ≤ 5 := (mayC_iff.1 hm).1
  rcases hc with h0 | ⟨b, off, rfl, hc⟩
  · subst h0
    obtain rfl : c = [] := List.eq_nil_of_length_eq_zero hl
    exact run_copy_none _ _ _ _ _ _ _ _ _ _ _ Try.underlying24 Try.infoI1 (by rfl)
  · rw [run_copy_row (P := Try.prog) _ _ _ _ 3 w.heap.size 0 5 5 ⟨b, off, none⟩ n cap _ _ (c.map (Value.int .i64)) Try.underlying24 Try.infoI1 (heap_alloc_new w _) (by rw [List.length_map, hl]; exact (Nat.min_eq_left (by omega)).symm) ?_ (by simp; omega) ?_]
    · rw [World.setRow_alloc_new]
      have e := five_row hm (.int .i64 0) rfl
      simp only [List.length_map, List.take_zero, List.nil_append, Nat.zero_add, hl]
      rw [hl] at e
      rw [e]
    · intro j v hj
      rw [List.getElem?_map, Option.map_eq_some_iff] at hj
      obtain ⟨y, hy, rfl⟩ := hj
      obtain ⟨hj1, hx2⟩ := List.getElem?_eq_some_iff.1 hy
      have h1 := hc j (by omega)
      have h2 : c.getD j 0 = y := by simp [List.getD_eq_getElem?_getD, hy]
      rw [h2] at h1
      have h3 : (⟨b, off, none⟩ : Addr).add j = ⟨b, off + j, none⟩ := by
        by_cases hj0 : j = 0
        · subst hj0; simp [Addr.add]
        · simp [Addr.add, hj0]
      rw [h3]
      exact h1
    · intro v hv
      rw [List.mem_map] at hv
      obtain ⟨y, _, rfl⟩ := hv
      rfl

set_option maxHeartbeats 400000 in
theorem numbers_any (a : Option Addr) (n cap : Nat) (c : List Int) (w : World) (hN : NS w a n c) :
    Calls Try.prog 58 #[.slice a n cap] w fun e w' => e = .returned (.agg #[.int .i64 (at5 c 0), .int .i64 (at5 c 1), .int .i64 (at5 c 2), .int .i64 (at5 c 3), .int .i64 (at5 c 4)]) ∧ Below w.heap.size w w' := by
  have HN := hide hN
  obtain ⟨hlen, hmax, hcells⟩ := hN
  unfold maxLen at hmax
  by_cases hm : mayC c = true
  · have HM := hide hm
    have hk : chk c = 0 := by unfold chk; rw [if_pos hm]
    clear hlen hcells hm
    go_enter Try.func58, Try.ntmps58
    have hcp := run_copy_five (w.alloc (.cells #[.int .i64 0, .int .i64 0, .int .i64 0, .int .i64 0, .int .i64 0] 84)) (w.heap.size + 1) (by simp) a n cap c (HN.out.alloc _) HM.out
    go_wp2_with (go_at_call 56; refine (check_any _ _ _ c _ ((HN.out.alloc _).alloc _)).mono ?_; rintro e w' ⟨rfl, rfl⟩; rw [hk])
    exact bodyPost_ret (results_cell_row rfl _ _ _ _ _ _ _ rfl (heap_alloc2_old _ _ _) Try.underlying84 rfl Try.info5) rfl ⟨rfl, bel2 _ _ _⟩
  · have hc0 : ∀ k, at5 c k = 0 := fun k => by unfold at5; rw [if_neg hm]
    have HC : Hid (∀ k, at5 c k = 0) := hc0
    have hk : chk c = 1 := by unfold chk; rw [if_neg hm]
    clear hlen hcells hm hc0
    go_enter Try.func58, Try.ntmps58
    go_wp2_with (go_at_call 56; refine (check_any _ _ _ c _ ((HN.out.alloc _).alloc _)).mono ?_; rintro e w' ⟨rfl, rfl⟩; rw [hk])
    refine bodyPost_ret (results_cell_row rfl _ _ _ _ _ _ _ rfl (heap_alloc2_old _ _ _) Try.underlying84 rfl Try.info5) rfl ⟨?_, bel2 _ _ _⟩
    rw [HC.out, HC.out, HC.out, HC.out, HC.out]
end Go.Proofs.Ytohhlidlgibieaa

/- What 'plain' does: the clock of five numbers, without noughts at its end, in new memory. -/
namespace Go.Proofs.Ytohhlidlgibieaa
open Go.RowKit
set_option linter.unusedVariables false

theorem plen_take_zero {X : List Int} {k : Nat} (hk : k < X.length) (h : X.getD k 0 = 0) (hp : plen X = plen (X.take (k + 1))) : plen X = plen (X.take k) := by
  rw [hp, List.take_add_one]
  have e : X[k]? = some 0 := by
    have h1 : X.getD k 0 = X[k] := by simp [List.getD_eq_getElem?_getD, hk]
    rw [List.getElem?_eq_getElem hk, ← h1, h]
  rw [e]; exact plen_zero _
theorem pln_take {X : List Int} {k : Nat} (hk : k < X.length) (h : X.getD k 0 ≠ 0) (hp : plen X = plen (X.take (k + 1))) : pln X = X.take (k + 1) := by
  unfold pln
  rw [hp]
  congr 1
  rw [List.take_add_one]
  have e : X[k]? = some (X.getD k 0) := by simp [List.getD_eq_getElem?_getD, hk]
  rw [e]
  have := plen_snoc h (X.take k)
  rw [show (some (X.getD k 0)).toList = [X.getD k 0] from rfl, this, List.length_take]
  omega
theorem five_ns (w : World) (x0 x1 x2 x3 x4 : Int) (k : Nat) (hk : k ≤ 5) : NS (w.alloc (.cells #[.int .i64 x0, .int .i64 x1, .int .i64 x2, .int .i64 x3, .int .i64 x4] 84)) (some ⟨w.heap.size, 0, none⟩) k ([x0, x1, x2, x3, x4].take k) :=
  (NS.new w _ rfl [x0, x1, x2, x3, x4] _ rfl _ _ 5 rfl (by decide)).head k hk

set_option maxHeartbeats 1000000 in
theorem plain_any (x0 x1 x2 x3 x4 : Int) (w : World) :
    Calls Try.prog 80 #[.agg #[.int .i64 x0, .int .i64 x1, .int .i64 x2, .int .i64 x3, .int .i64 x4]] w fun e w' => ∃ v, e = .returned v ∧ OwnN w.heap.size w' v (pln [x0, x1, x2, x3, x4]) ∧ Below w.heap.size w w' := by
  have HP : Hid (plen [x0, x1, x2, x3, x4] = plen ([x0, x1, x2, x3, x4].take 5)) := rfl
  go_enter Try.func80, Try.ntmps80
  go_wp2
  go_loop [3] (fun i => ∃ k : Nat, k ≤ 5 ∧ i = .int .i64 k ∧ Hid (plen [x0, x1, x2, x3, x4] = plen ([x0, x1, x2, x3, x4].take k))) (fun i => (intOf i).toNat)
  case atStart => exact ⟨5, by omega, rfl, HP⟩
  case round =>
    clear HP
    obtain ⟨k, hk, rfl, hH⟩ := hrel
    have hk5 : k = 0 ∨ k = 1 ∨ k = 2 ∨ k = 3 ∨ k = 4 ∨ k = 5 := by omega
    rcases hk5 with rfl | rfl | rfl | rfl | rfl | rfl
    · have HE : Hid ([x0, x1, x2, x3, x4].take 0 = pln [x0, x1, x2, x3, x4]) := by have h2 := hH.out; unfold Hid pln; rw [h2]; rfl
      clear hH
      have hns := hide (five_ns w x0 x1 x2 x3 x4 0 (by omega))
      go_wp2_with (at_builtin; refine Stop.at ?_)
      unfold Stop
      refine append_nums rfl _ _ 24 Try.underlying24 rfl w.heap.size _ [] ([x0, x1, x2, x3, x4].take 0) rfl (OwnN.nil _ _) ⟨w.heap.size, 0, none⟩ 0 5 rfl hns.out (by simp) (by simp) ?_
      intro v' w' hown hgr hbel
      have hB := hide (hbel _ (bel1 w _))
      have hO := hide hown
      clear hown hgr hbel
      go_wp2
      go_ret
      refine ⟨_, rfl, ?_, hB.out⟩
      rw [← HE.out]
      exact hO.out
    · by_cases hz : x0 = 0
      · have hH2 : Hid (plen [x0, x1, x2, x3, x4] = plen ([x0, x1, x2, x3, x4].take 0)) := plen_take_zero (X := [x0, x1, x2, x3, x4]) (k := 0) (by simp) hz hH.out
        clear hH
        go_wp2
        go_round
        case rel => exact ⟨0, by omega, rfl, by have h := hH2.out; rw [hz] at h; exact h⟩
        case measure => first | decide | (simp [intOf]; done) | (simp [intOf]; omega)
      · have HE : Hid ([x0, x1, x2, x3, x4].take 1 = pln [x0, x1, x2, x3, x4]) := (pln_take (X := [x0, x1, x2, x3, x4]) (k := 0) (by simp) hz hH.out).symm
        clear hH
        have hns := hide (five_ns w x0 x1 x2 x3 x4 1 (by omega))
        go_wp2_with (at_builtin; refine Stop.at ?_)
        unfold Stop
        refine append_nums rfl _ _ 24 Try.underlying24 rfl w.heap.size _ [] ([x0, x1, x2, x3, x4].take 1) rfl (OwnN.nil _ _) ⟨w.heap.size, 0, none⟩ 1 5 rfl hns.out (by simp) (by simp) ?_
        intro v' w' hown hgr hbel
        have hB := hide (hbel _ (bel1 w _))
        have hO := hide hown
        clear hown hgr hbel
        go_wp2
        go_ret
        refine ⟨_, rfl, ?_, hB.out⟩
        rw [← HE.out]
        exact hO.out
    · by_cases hz : x1 = 0
      · have hH2 : Hid (plen [x0, x1, x2, x3, x4] = plen ([x0, x1, x2, x3, x4].take 1)) := plen_take_zero (X := [x0, x1, x2, x3, x4]) (k := 1) (by simp) hz hH.out
        clear hH
        go_wp2
        go_round
        case rel => exact ⟨1, by omega, rfl, by have h := hH2.out; rw [hz] at h; exact h⟩
        case measure => first | decide | (simp [intOf]; done) | (simp [intOf]; omega)
      · have HE : Hid ([x0, x1, x2, x3, x4].take 2 = pln [x0, x1, x2, x3, x4]) := (pln_take (X := [x0, x1, x2, x3, x4]) (k := 1) (by simp) hz hH.out).symm
        clear hH
        have hns := hide (five_ns w x0 x1 x2 x3 x4 2 (by omega))
        go_wp2_with (at_builtin; refine Stop.at ?_)
        unfold Stop
        refine append_nums rfl _ _ 24 Try.underlying24 rfl w.heap.size _ [] ([x0, x1, x2, x3, x4].take 2) rfl (OwnN.nil _ _) ⟨w.heap.size, 0, none⟩ 2 5 rfl hns.out (by simp) (by simp) ?_
        intro v' w' hown hgr hbel
        have hB := hide (hbel _ (bel1 w _))
        have hO := hide hown
        clear hown hgr hbel
        go_wp2
        go_ret
        refine ⟨_, rfl, ?_, hB.out⟩
        rw [← HE.out]
        exact hO.out
    · by_cases hz : x2 = 0
      · have hH2 : Hid (plen [x0, x1, x2, x3, x4] = plen ([x0, x1, x2, x3, x4].take 2)) := plen_take_zero (X := [x0, x1, x2, x3, x4]) (k := 2) (by simp) hz hH.out
        clear hH
        go_wp2
        go_round
        case rel => exact ⟨2, by omega, rfl, by have h := hH2.out; rw [hz] at h; exact h⟩
        case measure => first | decide | (simp [intOf]; done) | (simp [intOf]; omega)
      · have HE : Hid ([x0, x1, x2, x3, x4].take 3 = pln [x0, x1, x2, x3, x4]) := (pln_take (X := [x0, x1, x2, x3, x4]) (k := 2) (by simp) hz hH.out).symm
        clear hH
        have hns := hide (five_ns w x0 x1 x2 x3 x4 3 (by omega))
        go_wp2_with (at_builtin; refine Stop.at ?_)
        unfold Stop
        refine append_nums rfl _ _ 24 Try.underlying24 rfl w.heap.size _ [] ([x0, x1, x2, x3, x4].take 3) rfl (OwnN.nil _ _) ⟨w.heap.size, 0, none⟩ 3 5 rfl hns.out (by simp) (by simp) ?_
        intro v' w' hown hgr hbel
        have hB := hide (hbel _ (bel1 w _))
        have hO := hide hown
        clear hown hgr hbel
        go_wp2
        go_ret
        refine ⟨_, rfl, ?_, hB.out⟩
        rw [← HE.out]
        exact hO.out
    · by_cases hz : x3 = 0
      · have hH2 : Hid (plen [x0, x1, x2, x3, x4] = plen ([x0, x1, x2, x3, x4].take 3)) := plen_take_zero (X := [x0, x1, x2, x3, x4]) (k := 3) (by simp) hz hH.out
        clear hH
        go_wp2
        go_round
        case rel => exact ⟨3, by omega, rfl, by have h := hH2.out; rw [hz] at h; exact h⟩
        case measure => first | decide | (simp [intOf]; done) | (simp [intOf]; omega)
      · have HE : Hid ([x0, x1, x2, x3, x4].take 4 = pln [x0, x1, x2, x3, x4]) := (pln_take (X := [x0, x1, x2, x3, x4]) (k := 3) (by simp) hz hH.out).symm
        clear hH
        have hns := hide (five_ns w x0 x1 x2 x3 x4 4 (by omega))
        go_wp2_with (at_builtin; refine Stop.at ?_)
        unfold Stop
        refine append_nums rfl _ _ 24 Try.underlying24 rfl w.heap.size _ [] ([x0, x1, x2, x3, x4].take 4) rfl (OwnN.nil _ _) ⟨w.heap.size, 0, none⟩ 4 5 rfl hns.out (by simp) (by simp) ?_
        intro v' w' hown hgr hbel
        have hB := hide (hbel _ (bel1 w _))
        have hO := hide hown
        clear hown hgr hbel
        go_wp2
        go_ret
        refine ⟨_, rfl, ?_, hB.out⟩
        rw [← HE.out]
        exact hO.out
    · by_cases hz : x4 = 0
      · have hH2 : Hid (plen [x0, x1, x2, x3, x4] = plen ([x0, x1, x2, x3, x4].take 4)) := plen_take_zero (X := [x0, x1, x2, x3, x4]) (k := 4) (by simp) hz hH.out
        clear hH
        go_wp2
        go_round
        case rel => exact ⟨4, by omega, rfl, by have h := hH2.out; rw [hz] at h; exact h⟩
        case measure => first | decide | (simp [intOf]; done) | (simp [intOf]; omega)
      · have HE : Hid ([x0, x1, x2, x3, x4].take 5 = pln [x0, x1, x2, x3, x4]) := (pln_take (X := [x0, x1, x2, x3, x4]) (k := 4) (by simp) hz hH.out).symm
        clear hH
        have hns := hide (five_ns w x0 x1 x2 x3 x4 5 (by omega))
        go_wp2_with (at_builtin; refine Stop.at ?_)
        unfold Stop
        refine append_nums rfl _ _ 24 Try.underlying24 rfl w.heap.size _ [] ([x0, x1, x2, x3, x4].take 5) rfl (OwnN.nil _ _) ⟨w.heap.size, 0, none⟩ 5 5 rfl hns.out (by simp) (by simp) ?_
        intro v' w' hown hgr hbel
        have hB := hide (hbel _ (bel1 w _))
        have hO := hide hown
        clear hown hgr hbel
        go_wp2
        go_ret
        refine ⟨_, rfl, ?_, hB.out⟩
        rw [← HE.out]
        exact hO.out
end Go.Proofs.Ytohhlidlgibieaa

/- What 'join' and 'within' do, over arrays of five numbers. -/
namespace Go.Proofs.Ytohhlidlgibieaa
open Go.RowKit
set_option linter.unusedVariables false

theorem mx_eq (x y : Int) : (if x < y then y else x) = max x y := by
  by_cases h : x < y
  · rw [if_pos h]; omega
  · rw [if_neg h]; omega
theorem mn_eq (x y : Int) : (if x < y then x else y) = min x y := by
  by_cases h : x < y
  · rw [if_pos h]; omega
  · rw [if_neg h]; omega
theorem heap3_new (w : World) (n : Nat) (hn : w.heap.size = n) (A B C : Obj) : (((w.alloc A).alloc B).alloc C).heap[n + 1 + 1]? = some C := by
  subst hn
  have := heap_alloc_new ((w.alloc A).alloc B) C
  simpa using this

/-- What is joined behind 'k' rounds. -/
def jw (k : Nat) (x0 x1 x2 x3 x4 y0 y1 y2 y3 y4 : Int) : Array Value :=
  match k with
  | 0 => #[.int .i64 x0, .int .i64 x1, .int .i64 x2, .int .i64 x3, .int .i64 x4]
  | 1 => #[.int .i64 (max x0 y0), .int .i64 x1, .int .i64 x2, .int .i64 x3, .int .i64 x4]
  | 2 => #[.int .i64 (max x0 y0), .int .i64 (max x1 y1), .int .i64 x2, .int .i64 x3, .int .i64 x4]
  | 3 => #[.int .i64 (max x0 y0), .int .i64 (max x1 y1), .int .i64 (max x2 y2), .int .i64 x3, .int .i64 x4]
  | 4 => #[.int .i64 (max x0 y0), .int .i64 (max x1 y1), .int .i64 (max x2 y2), .int .i64 (max x3 y3), .int .i64 x4]
  | _ => #[.int .i64 (max x0 y0), .int .i64 (max x1 y1), .int .i64 (max x2 y2), .int .i64 (max x3 y3), .int .i64 (max x4 y4)]

set_option maxHeartbeats 2000000 in
theorem join_any (x0 x1 x2 x3 x4 y0 y1 y2 y3 y4 : Int) (w : World) :
    Calls Try.prog 92 #[.agg #[.int .i64 x0, .int .i64 x1, .int .i64 x2, .int .i64 x3, .int .i64 x4], .agg #[.int .i64 y0, .int .i64 y1, .int .i64 y2, .int .i64 y3, .int .i64 y4]] w fun e w' => e = .returned (.agg #[.int .i64 (max x0 y0), .int .i64 (max x1 y1), .int .i64 (max x2 y2), .int .i64 (max x3 y3), .int .i64 (max x4 y4)]) ∧ Below w.heap.size w w' := by
  go_enter Try.func92, Try.ntmps92
  go_wp2
  go_loopw [6] (fun i wr => ∃ (k : Nat) (w0 : World), k ≤ 5 ∧ i = .int .i64 k ∧ w0.heap.size = w.heap.size ∧ Hid (Below w.heap.size w w0) ∧
    wr = ((w0.alloc (.cells (jw k x0 x1 x2 x3 x4 y0 y1 y2 y3 y4) 84)).alloc (.cells #[.int .i64 y0, .int .i64 y1, .int .i64 y2, .int .i64 y3, .int .i64 y4] 84)).alloc (.cells #[.int .i64 0, .int .i64 0, .int .i64 0, .int .i64 0, .int .i64 0] 84)) (fun i _ => 5 - (intOf i).toNat)
  case atStart => exact ⟨0, w, by omega, rfl, rfl, Below.refl _ _, rfl⟩
  case round =>
    obtain ⟨k, w0, hk, rfl, hsz, hB, rfl⟩ := hrel
    have hk5 : k = 0 ∨ k = 1 ∨ k = 2 ∨ k = 3 ∨ k = 4 ∨ k = 5 := by omega
    rcases hk5 with rfl | rfl | rfl | rfl | rfl | rfl
    · simp only [jw]
      go_wp2
      go_region
      go_wp2
      refine ⟨⟨1, w0.drew, by omega, rfl, hsz, hB.out.drew, ?_⟩, by decide⟩
      rw [mx_eq]
      rfl
    · simp only [jw]
      go_wp2
      go_region
      go_wp2
      refine ⟨⟨2, w0.drew, by omega, rfl, hsz, hB.out.drew, ?_⟩, by decide⟩
      rw [mx_eq]
      rfl
    · simp only [jw]
      go_wp2
      go_region
      go_wp2
      refine ⟨⟨3, w0.drew, by omega, rfl, hsz, hB.out.drew, ?_⟩, by decide⟩
      rw [mx_eq]
      rfl
    · simp only [jw]
      go_wp2
      go_region
      go_wp2
      refine ⟨⟨4, w0.drew, by omega, rfl, hsz, hB.out.drew, ?_⟩, by decide⟩
      rw [mx_eq]
      rfl
    · simp only [jw]
      go_wp2
      go_region
      go_wp2
      refine ⟨⟨5, w0.drew, by omega, rfl, hsz, hB.out.drew, ?_⟩, by decide⟩
      rw [mx_eq]
      rfl
    · simp only [jw]
      go_wp2
      refine bodyPost_ret (results_cell_row rfl _ _ _ _ _ _ _ rfl (heap3_new w0 _ hsz _ _ _) Try.underlying84 rfl Try.info5) rfl ⟨rfl, ?_⟩
      exact ((hB.out.alloc (by omega) _).alloc (by simp; omega) _).alloc (by simp; omega) _
end Go.Proofs.Ytohhlidlgibieaa

/- What 'within' does, over arrays of five numbers. -/
namespace Go.Proofs.Ytohhlidlgibieaa
open Go.RowKit
set_option linter.unusedVariables false

theorem eqItems_step {P : Program} (w : World) (d : Nat) (e : TypeId) (c i : Nat) (is : List Nat) (xs ys : Array Value) (k : IntKind) (a b : Int) (hu : P.underlying e = some (.int k)) (h1 : ∀ w, (part e xs (i * c)).run P w = .ok (.int k a) w) (h2 : ∀ w, (part e ys (i * c)).run P w = .ok (.int k b) w) :
    (Op.eqItems (d + 1) e c xs ys (i :: is)).run P w = if a = b then (Op.eqItems (d + 1) e c xs ys is).run P w else .ok false w := by
  simp only [Op.eqItems, Sem.run_bind, h1, h2, Result.andThen_ok, run_equalIn_int w d e k k a b hu]
  by_cases h : a = b
  · simp [h]
  · simp [h]
/-- '==' of two arrays of five numbers. -/
theorem eq5 (x0 x1 x2 x3 x4 y0 y1 y2 y3 y4 : Int) (b : Bool) (hb : b = decide (x0 = y0 ∧ x1 = y1 ∧ x2 = y2 ∧ x3 = y3 ∧ x4 = y4)) (w : World) : (Op.equalIn 10000 84 (.agg #[.int .i64 x0, .int .i64 x1, .int .i64 x2, .int .i64 x3, .int .i64 x4]) (.agg #[.int .i64 y0, .int .i64 y1, .int .i64 y2, .int .i64 y3, .int .i64 y4])).run Try.prog w = .ok b w := by
  subst hb
  obtain ⟨i0, hi, hz0, hz1, hz2⟩ := info_parts Try.infoI64
  rw [run_equalIn_array (P := Try.prog) w 9999 _ _ Try.underlying84 hi]
  show (Op.eqItems 9999 3 _ _ _ [0, 1, 2, 3, 4]).run Try.prog w = _
  rw [eqItems_step w 9998 3 _ 0 _ _ _ .i64 x0 y0 Try.underlying3 (fun _ => by kernel_rfl) (fun _ => by kernel_rfl)]
  rw [eqItems_step w 9998 3 _ 1 _ _ _ .i64 x1 y1 Try.underlying3 (fun _ => by kernel_rfl) (fun _ => by kernel_rfl)]
  rw [eqItems_step w 9998 3 _ 2 _ _ _ .i64 x2 y2 Try.underlying3 (fun _ => by kernel_rfl) (fun _ => by kernel_rfl)]
  rw [eqItems_step w 9998 3 _ 3 _ _ _ .i64 x3 y3 Try.underlying3 (fun _ => by kernel_rfl) (fun _ => by kernel_rfl)]
  rw [eqItems_step w 9998 3 _ 4 _ _ _ .i64 x4 y4 Try.underlying3 (fun _ => by kernel_rfl) (fun _ => by kernel_rfl)]
  simp only [Op.eqItems, Sem.run_pure]
  by_cases h0 : x0 = y0
  · by_cases h1 : x1 = y1
    · by_cases h2 : x2 = y2
      · by_cases h3 : x3 = y3
        · by_cases h4 : x4 = y4
          · simp [h0, h1, h2, h3, h4]
          · simp [h0, h1, h2, h3, h4]
        · simp [h0, h1, h2, h3]
      · simp [h0, h1, h2]
    · simp [h0, h1]
  · simp [h0]

/-- Two arrays lie in memory, and what was there at the beginning lies there still. -/
def Two (g : Nat) (x0 x1 x2 x3 x4 y0 y1 y2 y3 y4 : Int) (W0 W : World) : Prop := W.cell? ⟨g, 0, none⟩ = some (.int .i64 x0) ∧ W.cell? ⟨g, 1, none⟩ = some (.int .i64 x1) ∧ W.cell? ⟨g, 2, none⟩ = some (.int .i64 x2) ∧ W.cell? ⟨g, 3, none⟩ = some (.int .i64 x3) ∧ W.cell? ⟨g, 4, none⟩ = some (.int .i64 x4) ∧ W.cell? ⟨g + 1, 0, none⟩ = some (.int .i64 y0) ∧ W.cell? ⟨g + 1, 1, none⟩ = some (.int .i64 y1) ∧ W.cell? ⟨g + 1, 2, none⟩ = some (.int .i64 y2) ∧ W.cell? ⟨g + 1, 3, none⟩ = some (.int .i64 y3) ∧ W.cell? ⟨g + 1, 4, none⟩ = some (.int .i64 y4) ∧ Hid (Below W0.heap.size W0 W)
theorem Two.next {g : Nat} {x0 x1 x2 x3 x4 y0 y1 y2 y3 y4 : Int} {W0 W w' : World} (h : Two g x0 x1 x2 x3 x4 y0 y1 y2 y3 y4 W0 W) (hb : Below W.heap.size W w') : Two g x0 x1 x2 x3 x4 y0 y1 y2 y3 y4 W0 w' := by
  obtain ⟨a0, a1, a2, a3, a4, b0, b1, b2, b3, b4, hB⟩ := h
  refine ⟨?_, ?_, ?_, ?_, ?_, ?_, ?_, ?_, ?_, ?_, hB.out.trans (hb.mono hB.out.size)⟩ <;> (rw [hb.cell (World.block_lt_of_cell? W _ (by assumption))]; assumption)
theorem Two.drew {g : Nat} {x0 x1 x2 x3 x4 y0 y1 y2 y3 y4 : Int} {W0 W : World} (h : Two g x0 x1 x2 x3 x4 y0 y1 y2 y3 y4 W0 W) : Two g x0 x1 x2 x3 x4 y0 y1 y2 y3 y4 W0 W.drew := by
  obtain ⟨a0, a1, a2, a3, a4, b0, b1, b2, b3, b4, hB⟩ := h
  exact ⟨a0, a1, a2, a3, a4, b0, b1, b2, b3, b4, hB.out.drew⟩

set_option maxHeartbeats 2000000 in
theorem within_any (x0 x1 x2 x3 x4 y0 y1 y2 y3 y4 : Int) (w : World) (b : Bool) (hb : b = decide (x0 ≤ y0 ∧ x1 ≤ y1 ∧ x2 ≤ y2 ∧ x3 ≤ y3 ∧ x4 ≤ y4)) :
    Calls Try.prog 78 #[.agg #[.int .i64 x0, .int .i64 x1, .int .i64 x2, .int .i64 x3, .int .i64 x4], .agg #[.int .i64 y0, .int .i64 y1, .int .i64 y2, .int .i64 y3, .int .i64 y4]] w fun e w' => e = .returned (.bool b) ∧ Below w.heap.size w w' := by
  have hk0 : Two w.heap.size x0 x1 x2 x3 x4 y0 y1 y2 y3 y4 w ((w.alloc (.cells #[.int .i64 x0, .int .i64 x1, .int .i64 x2, .int .i64 x3, .int .i64 x4] 84)).alloc (.cells #[.int .i64 y0, .int .i64 y1, .int .i64 y2, .int .i64 y3, .int .i64 y4] 84)) := by
    refine ⟨?_, ?_, ?_, ?_, ?_, ?_, ?_, ?_, ?_, ?_, bel2 _ _ _⟩
    all_goals first | (rw [World.cell?_alloc_mark]; rfl) | (simp; done)
  have heq := eq5 (max x0 y0) (max x1 y1) (max x2 y2) (max x3 y3) (max x4 y4) y0 y1 y2 y3 y4 b (by rw [hb]; congr 1; simp only [eq_iff_iff]; omega)
  clear hb
  go_enter Try.func78, Try.ntmps78
  go_wp2
  have hk1 := hk0.drew
  unfold Two at hk0 hk1
  go_region_held3 (fun W => W.cell? ⟨w.heap.size, 0, none⟩ = some (.int .i64 x0) ∧ W.cell? ⟨w.heap.size, 1, none⟩ = some (.int .i64 x1) ∧ W.cell? ⟨w.heap.size, 2, none⟩ = some (.int .i64 x2) ∧ W.cell? ⟨w.heap.size, 3, none⟩ = some (.int .i64 x3) ∧ W.cell? ⟨w.heap.size, 4, none⟩ = some (.int .i64 x4) ∧ W.cell? ⟨w.heap.size + 1, 0, none⟩ = some (.int .i64 y0) ∧ W.cell? ⟨w.heap.size + 1, 1, none⟩ = some (.int .i64 y1) ∧ W.cell? ⟨w.heap.size + 1, 2, none⟩ = some (.int .i64 y2) ∧ W.cell? ⟨w.heap.size + 1, 3, none⟩ = some (.int .i64 y3) ∧ W.cell? ⟨w.heap.size + 1, 4, none⟩ = some (.int .i64 y4) ∧ Hid (Below w.heap.size w W)) (first | exact hk1 | exact hk0) (first
    | (go_at_call 92; refine (join_any _ _ _ _ _ _ _ _ _ _ _).mono ?_; rintro e w4 ⟨rfl, hb5⟩; have hk1 := Two.next (by assumption) hb5; unfold Two at hk1; clear hb5))
  clear hk0
  have hB := hide hk1.2.2.2.2.2.2.2.2.2.2.out
  clear hk1 heq
  go_wp2
  go_ret
  exact ⟨rfl, hB.out⟩
end Go.Proofs.Ytohhlidlgibieaa

/- What 'Plain', 'Get', 'Set', 'Tick', 'Within' and 'Sum' do. -/
namespace Go.Proofs.Ytohhlidlgibieaa
open Go.RowKit
set_option linter.unusedVariables false

theorem bel_next {w w1 w2 : World} (h1 : Below w.heap.size w w1) (h2 : Below w1.heap.size w1 w2) : Below w.heap.size w w2 := h1.trans (h2.mono h1.size)

theorem Plain_any (a : Option Addr) (n cap : Nat) (c : List Int) (w : World) (hN : NS w a n c) :
    Calls Try.prog 55 #[.slice a n cap] w fun e w' => ∃ v, e = .returned v ∧ OwnN w.heap.size w' v (pln (vec c)) ∧ Below w.heap.size w w' := by
  have HN := hide hN
  clear hN
  go_enter Try.func55, Try.ntmps55
  go_wp2_with (first
    | (go_at_call 58; refine (numbers_any _ _ _ c _ HN.out).mono ?_; rintro e w1 ⟨rfl, hb1⟩; have HB1 := hide hb1; clear hb1)
    | (go_at_call 80; refine (plain_any _ _ _ _ _ _).mono ?_; rintro e w2 ⟨v, rfl, hown, hb2⟩; have HO := hide hown; have HB2 := hide hb2; clear hown hb2))
  go_ret
  exact ⟨_, rfl, HO.out.mono HB1.out.size, bel_next HB1.out HB2.out⟩

theorem Within_any (a b : Option Addr) (n cap m cap' : Nat) (c d : List Int) (w : World) (hN : NS w a n c) (hM : NS w b m d) (r : Bool) (hr : r = decide (wth c d)) :
    Calls Try.prog 52 #[.slice a n cap, .slice b m cap'] w fun e w' => e = .returned (.bool r) ∧ Below w.heap.size w w' := by
  have HN := hide hN
  have HM := hide hM
  clear hN hM
  have HR : Hid (r = decide (wth c d)) := hr
  clear hr
  go_enter Try.func52, Try.ntmps52
  go_wp2_with (first
    | (go_at_call_of 58 a; refine (numbers_any _ _ _ c _ HN.out).mono ?_; rintro e w1 ⟨rfl, hb1⟩; have HB1 := hide hb1; clear hb1)
    | (go_at_call 58; refine (numbers_any _ _ _ d _ (HM.out.below HB1.out)).mono ?_; rintro e w2 ⟨rfl, hb2⟩; have HB2 := hide hb2; clear hb2)
    | (go_at_call 78; refine (within_any _ _ _ _ _ _ _ _ _ _ _ r HR.out).mono ?_; rintro e w3 ⟨rfl, hb3⟩; have HB3 := hide hb3; clear hb3))
  go_ret
  exact ⟨rfl, bel_next (bel_next HB1.out HB2.out) HB3.out⟩

theorem Sum_any (a : Option Addr) (n cap : Nat) (c : List Int) (w : World) (hN : NS w a n c) :
    Calls Try.prog 72 #[.slice a n cap] w fun e w' => e = .returned (.int .i64 (sumL c)) ∧ Below w.heap.size w w' := by
  have HN := hide hN
  clear hN
  have b0 := at5_bd c 0
  have i0 : ∀ w : World, (Instr.index 84 (.agg #[.int .i64 (at5 c 0), .int .i64 (at5 c 1), .int .i64 (at5 c 2), .int .i64 (at5 c 3), .int .i64 (at5 c 4)]) (.int .i64 0)).run Try.prog w = .ok (.int .i64 (at5 c 0)) w := fun _ => by kernel_rfl
  have b1 := at5_bd c 1
  have i1 : ∀ w : World, (Instr.index 84 (.agg #[.int .i64 (at5 c 0), .int .i64 (at5 c 1), .int .i64 (at5 c 2), .int .i64 (at5 c 3), .int .i64 (at5 c 4)]) (.int .i64 1)).run Try.prog w = .ok (.int .i64 (at5 c 1)) w := fun _ => by kernel_rfl
  have b2 := at5_bd c 2
  have i2 : ∀ w : World, (Instr.index 84 (.agg #[.int .i64 (at5 c 0), .int .i64 (at5 c 1), .int .i64 (at5 c 2), .int .i64 (at5 c 3), .int .i64 (at5 c 4)]) (.int .i64 2)).run Try.prog w = .ok (.int .i64 (at5 c 2)) w := fun _ => by kernel_rfl
  have b3 := at5_bd c 3
  have i3 : ∀ w : World, (Instr.index 84 (.agg #[.int .i64 (at5 c 0), .int .i64 (at5 c 1), .int .i64 (at5 c 2), .int .i64 (at5 c 3), .int .i64 (at5 c 4)]) (.int .i64 3)).run Try.prog w = .ok (.int .i64 (at5 c 3)) w := fun _ => by kernel_rfl
  have b4 := at5_bd c 4
  have i4 : ∀ w : World, (Instr.index 84 (.agg #[.int .i64 (at5 c 0), .int .i64 (at5 c 1), .int .i64 (at5 c 2), .int .i64 (at5 c 3), .int .i64 (at5 c 4)]) (.int .i64 4)).run Try.prog w = .ok (.int .i64 (at5 c 4)) w := fun _ => by kernel_rfl
  have HS : Hid (at5 c 0 + at5 c 1 + at5 c 2 + at5 c 3 + at5 c 4 = sumL c) := rfl
  go_enter Try.func72, Try.ntmps72
  go_wp2_with (go_at_call 58; refine (numbers_any _ _ _ c _ HN.out).mono ?_; rintro e w1 ⟨rfl, hb1⟩; have HB1 := hide hb1; clear hb1)
  generalize at5 c 0 = x0 at *
  generalize at5 c 1 = x1 at *
  generalize at5 c 2 = x2 at *
  generalize at5 c 3 = x3 at *
  generalize at5 c 4 = x4 at *
  go_loop [3, 8] (fun s i => (i = .int .i64 0 ∧ s = .int .i64 0) ∨ (i = .int .i64 1 ∧ s = .int .i64 x0) ∨ (i = .int .i64 2 ∧ s = .int .i64 (x0 + x1)) ∨ (i = .int .i64 3 ∧ s = .int .i64 (x0 + x1 + x2)) ∨ (i = .int .i64 4 ∧ s = .int .i64 (x0 + x1 + x2 + x3)) ∨ (i = .int .i64 5 ∧ s = .int .i64 (x0 + x1 + x2 + x3 + x4))) (fun _ i => 5 - (intOf i).toNat)
  case atStart => exact .inl ⟨rfl, rfl⟩
  case round =>
    rcases hrel with ⟨rfl, rfl⟩ | ⟨rfl, rfl⟩ | ⟨rfl, rfl⟩ | ⟨rfl, rfl⟩ | ⟨rfl, rfl⟩ | ⟨rfl, rfl⟩
    · go_wp2
      go_round
      case rel => exact .inr (.inl ⟨rfl, rfl⟩)
      case measure => decide
    · go_wp2
      go_round
      case rel => exact .inr (.inr (.inl ⟨rfl, rfl⟩))
      case measure => decide
    · go_wp2
      go_round
      case rel => exact .inr (.inr (.inr (.inl ⟨rfl, rfl⟩)))
      case measure => decide
    · go_wp2
      go_round
      case rel => exact .inr (.inr (.inr (.inr (.inl ⟨rfl, rfl⟩))))
      case measure => decide
    · go_wp2
      go_round
      case rel => exact .inr (.inr (.inr (.inr (.inr (⟨rfl, rfl⟩)))))
      case measure => decide
    · go_wp2
      go_ret
      exact ⟨ret_int HS.out, HB1.out⟩
end Go.Proofs.Ytohhlidlgibieaa

/- What 'Get', 'Set' and 'Tick' do. -/
namespace Go.Proofs.Ytohhlidlgibieaa
open Go.RowKit
set_option linter.unusedVariables false

/-- A replica's number, replicas counted from 1, as any integer. -/
def getZ (c : List Int) (r : Int) : Int := if 1 ≤ r ∧ r ≤ 5 then at5 c (r.toNat - 1) else 0

set_option maxHeartbeats 1000000 in
theorem Get_any (a : Option Addr) (n cap : Nat) (c : List Int) (r : Int) (w : World) (hN : NS w a n c) :
    Calls Try.prog 39 #[.slice a n cap, .int .i64 r] w fun e w' => e = .returned (.int .i64 (getZ c r)) ∧ Below w.heap.size w w' := by
  have HN := hide hN
  clear hN
  by_cases hr : 1 ≤ r ∧ r ≤ 5
  · have hm := mayRep_any r w
    rw [decide_eq_true hr] at hm
    have h5 : r = 1 ∨ r = 2 ∨ r = 3 ∨ r = 4 ∨ r = 5 := by omega
    clear hr
    rcases h5 with rfl | rfl | rfl | rfl | rfl
    · have HE : Hid (at5 c 0 = getZ c 1) := rfl
      have i0 : ∀ w : World, (Instr.index 84 (.agg #[.int .i64 (at5 c 0), .int .i64 (at5 c 1), .int .i64 (at5 c 2), .int .i64 (at5 c 3), .int .i64 (at5 c 4)]) (.int .i64 0)).run Try.prog w = .ok (.int .i64 (at5 c 0)) w := fun _ => by kernel_rfl
      go_enter Try.func39, Try.ntmps39
      go_wp2_with (first
        | (go_at_call 57; refine hm.mono ?_; rintro e w' ⟨rfl, rfl⟩)
        | (go_at_call 58; refine (numbers_any _ _ _ c _ HN.out).mono ?_; rintro e w1 ⟨rfl, hb1⟩; have HB1 := hide hb1; clear hb1))
      go_ret
      exact ⟨ret_int HE.out, HB1.out⟩
    · have HE : Hid (at5 c 1 = getZ c 2) := rfl
      have i0 : ∀ w : World, (Instr.index 84 (.agg #[.int .i64 (at5 c 0), .int .i64 (at5 c 1), .int .i64 (at5 c 2), .int .i64 (at5 c 3), .int .i64 (at5 c 4)]) (.int .i64 1)).run Try.prog w = .ok (.int .i64 (at5 c 1)) w := fun _ => by kernel_rfl
      go_enter Try.func39, Try.ntmps39
      go_wp2_with (first
        | (go_at_call 57; refine hm.mono ?_; rintro e w' ⟨rfl, rfl⟩)
        | (go_at_call 58; refine (numbers_any _ _ _ c _ HN.out).mono ?_; rintro e w1 ⟨rfl, hb1⟩; have HB1 := hide hb1; clear hb1))
      go_ret
      exact ⟨ret_int HE.out, HB1.out⟩
    · have HE : Hid (at5 c 2 = getZ c 3) := rfl
      have i0 : ∀ w : World, (Instr.index 84 (.agg #[.int .i64 (at5 c 0), .int .i64 (at5 c 1), .int .i64 (at5 c 2), .int .i64 (at5 c 3), .int .i64 (at5 c 4)]) (.int .i64 2)).run Try.prog w = .ok (.int .i64 (at5 c 2)) w := fun _ => by kernel_rfl
      go_enter Try.func39, Try.ntmps39
      go_wp2_with (first
        | (go_at_call 57; refine hm.mono ?_; rintro e w' ⟨rfl, rfl⟩)
        | (go_at_call 58; refine (numbers_any _ _ _ c _ HN.out).mono ?_; rintro e w1 ⟨rfl, hb1⟩; have HB1 := hide hb1; clear hb1))
      go_ret
      exact ⟨ret_int HE.out, HB1.out⟩
    · have HE : Hid (at5 c 3 = getZ c 4) := rfl
      have i0 : ∀ w : World, (Instr.index 84 (.agg #[.int .i64 (at5 c 0), .int .i64 (at5 c 1), .int .i64 (at5 c 2), .int .i64 (at5 c 3), .int .i64 (at5 c 4)]) (.int .i64 3)).run Try.prog w = .ok (.int .i64 (at5 c 3)) w := fun _ => by kernel_rfl
      go_enter Try.func39, Try.ntmps39
      go_wp2_with (first
        | (go_at_call 57; refine hm.mono ?_; rintro e w' ⟨rfl, rfl⟩)
        | (go_at_call 58; refine (numbers_any _ _ _ c _ HN.out).mono ?_; rintro e w1 ⟨rfl, hb1⟩; have HB1 := hide hb1; clear hb1))
      go_ret
      exact ⟨ret_int HE.out, HB1.out⟩
    · have HE : Hid (at5 c 4 = getZ c 5) := rfl
      have i0 : ∀ w : World, (Instr.index 84 (.agg #[.int .i64 (at5 c 0), .int .i64 (at5 c 1), .int .i64 (at5 c 2), .int .i64 (at5 c 3), .int .i64 (at5 c 4)]) (.int .i64 4)).run Try.prog w = .ok (.int .i64 (at5 c 4)) w := fun _ => by kernel_rfl
      go_enter Try.func39, Try.ntmps39
      go_wp2_with (first
        | (go_at_call 57; refine hm.mono ?_; rintro e w' ⟨rfl, rfl⟩)
        | (go_at_call 58; refine (numbers_any _ _ _ c _ HN.out).mono ?_; rintro e w1 ⟨rfl, hb1⟩; have HB1 := hide hb1; clear hb1))
      go_ret
      exact ⟨ret_int HE.out, HB1.out⟩
  · have hm := mayRep_any r w
    rw [decide_eq_false hr] at hm
    have HE : Hid (0 = getZ c r) := by unfold Hid getZ; rw [if_neg hr]
    clear hr
    go_enter Try.func39, Try.ntmps39
    go_wp2_with (go_at_call 57; refine hm.mono ?_; rintro e w' ⟨rfl, rfl⟩)
    go_ret
    exact ⟨ret_int HE.out, Below.refl _ _⟩

/-- What 'Set' and 'Tick' tell. -/
def SetSays (w : World) (q : Option (List Int)) (err : Int) (e : Ending) (w' : World) : Prop :=
  Below w.heap.size w w' ∧ ∃ v, e = .returned (.tuple #[v, .int .i64 err]) ∧ OwnN w.heap.size w' v (q.getD [])
theorem SetSays.bad (w w' : World) (q : Option (List Int)) (err : Int) (hq : q = none) (hb : Below w.heap.size w w') : SetSays w q err (.returned (.tuple #[.slice none 0 0, .int .i64 err])) w' := by
  subst hq; exact ⟨hb, _, rfl, OwnN.nil _ _⟩

/-- Set, as lists: none: ErrArg. -/
def setA (c : List Int) (r n : Int) : Option (List Int) := if (1 ≤ r ∧ r ≤ 5) ∧ inB n = true then some (pln (setL c (r.toNat - 1) n)) else none
def setE (r n : Int) : Int := if (1 ≤ r ∧ r ≤ 5) ∧ inB n = true then 0 else 1

/-- Tick, as lists: none: an error. -/
def tickA (c : List Int) (r : Int) : Option (List Int) := if (1 ≤ r ∧ r ≤ 5) ∧ getZ c r ≠ 1048576 then some (pln (setL c (r.toNat - 1) (getZ c r + 1))) else none
def tickE (c : List Int) (r : Int) : Int := if 1 ≤ r ∧ r ≤ 5 then (if getZ c r = 1048576 then 6 else 0) else 1
theorem getZ_bd (c : List Int) (r : Int) : 0 ≤ getZ c r ∧ getZ c r ≤ 1048576 := by
  unfold getZ; split
  · exact at5_bd _ _
  · omega

end Go.Proofs.Ytohhlidlgibieaa

/- Effects and events in plain mathematics: which may be, their bytes, and which event bytes are. -/
namespace Go.Proofs.Ytohhlidlgibieaa

/-- An effect: Kind, Of, Key, N, To, Word. -/
abbrev Eff := Int × Int × List Int × Int × Int × List Int
/-- An event: Dot, Past, Effects. -/
abbrev Evt := Dot × List Int × List Eff
/-- What is named by the kind is in its bounds, all else nought. -/
def fits (k n t : Int) (wl : Nat) : Bool := decide (((k = 1 ∨ k = 2) ∧ n = 0 ∧ t = 0 ∧ wl = 0) ∨ ((k = 3 ∨ k = 4) ∧ 1 ≤ n ∧ n ≤ 1000 ∧ t = 0 ∧ wl = 0) ∨ (k = 5 ∧ 1 ≤ n ∧ n ≤ 1000 ∧ 1 ≤ t ∧ t ≤ 5 ∧ wl = 0) ∨ (k = 6 ∧ n = 0 ∧ t = 0 ∧ wl ≤ 64))
def mayF (x : Eff) : Bool := decide (1 ≤ x.2.2.1.length ∧ x.2.2.1.length ≤ 32 ∧ 0 ≤ x.2.1 ∧ x.2.1 ≤ 15) && fits x.1 x.2.2.2.1 x.2.2.2.2.1 x.2.2.2.2.2.length
/-- A Past that may be, and is plain. -/
def plainB (c : List Int) : Bool := mayC c && decide (pln c = c)
/-- Dot and Past. -/
def headB (d : Dot) (c : List Int) : Bool := mayD d && plainB c && decide (getZ c d.1 = d.2 - 1)
def mayE (e : Evt) : Bool := headB e.1 e.2.1 && decide (1 ≤ e.2.2.length ∧ e.2.2.length ≤ 16) && e.2.2.all mayF
/-- Keys and words are bytes. -/
def ByF (x : Eff) : Prop := By x.2.2.1 ∧ By x.2.2.2.2.2
def putF (x : Eff) : List Int := pack [num x.1, num x.2.1, num x.2.2.2.1, num x.2.2.2.2.1, x.2.2.1, x.2.2.2.2.2]
def putD2 (d : Dot) : List Int := pack [num d.1, num d.2]
def putE (e : Evt) : List Int := pack (putD2 e.1 :: putC e.2.1 :: e.2.2.map putF)

/-- All of the bytes are a pack, of so many texts. -/
def gpk (b : List Int) (least : Nat) (most : Int) : Option (List (List Int)) := match unpack b most with
  | none => none
  | some (ts, m) => if m = b.length ∧ least ≤ ts.length then some ts else none
def rdD (b : List Int) : Option Dot := match gpk b 2 2 with
  | none => none
  | some ts => match rdAll ts with
    | none => none
    | some l => some (l.getD 0 0, l.getD 1 0)
def rdF (b : List Int) : Option Eff := match gpk b 6 6 with
  | none => none
  | some ts => match rdAll (ts.take 4) with
    | none => none
    | some l => some (l.getD 0 0, l.getD 1 0, ts.getD 4 [], l.getD 2 0, l.getD 3 0, ts.getD 5 [])
def rdFs : List (List Int) → Option (List Eff)
  | [] => some []
  | t :: r => match rdF t with
    | none => none
    | some x => (rdFs r).map (x :: ·)
/-- A whole text's clock. -/
def rdW (t : List Int) : Option (List Int) := match rdC t with
  | none => none
  | some (c, m) => if m = t.length then some c else none
def rdP (ts : List (List Int)) : Option Evt := match rdD (ts.getD 0 []) with
  | none => none
  | some d => match rdW (ts.getD 1 []) with
    | none => none
    | some c => match rdFs (ts.drop 2) with
      | none => none
      | some l => some (d, c, l)
def rdE (b : List Int) : Option Evt := match gpk b 3 18 with
  | none => none
  | some ts => match rdP ts with
    | none => none
    | some e => if mayE e = true then some e else none

theorem fits_iff {k n t : Int} {wl : Nat} : fits k n t wl = true ↔ (((k = 1 ∨ k = 2) ∧ n = 0 ∧ t = 0 ∧ wl = 0) ∨ ((k = 3 ∨ k = 4) ∧ 1 ≤ n ∧ n ≤ 1000 ∧ t = 0 ∧ wl = 0) ∨ (k = 5 ∧ 1 ≤ n ∧ n ≤ 1000 ∧ 1 ≤ t ∧ t ≤ 5 ∧ wl = 0) ∨ (k = 6 ∧ n = 0 ∧ t = 0 ∧ wl ≤ 64)) := by simp [fits]
theorem mayF_iff {x : Eff} : mayF x = true ↔ (1 ≤ x.2.2.1.length ∧ x.2.2.1.length ≤ 32 ∧ 0 ≤ x.2.1 ∧ x.2.1 ≤ 15) ∧ fits x.1 x.2.2.2.1 x.2.2.2.2.1 x.2.2.2.2.2.length = true := by simp [mayF]
theorem mayF_bd {x : Eff} (h : mayF x = true) : (1 ≤ x.1 ∧ x.1 ≤ 6) ∧ (0 ≤ x.2.1 ∧ x.2.1 ≤ 15) ∧ (0 ≤ x.2.2.2.1 ∧ x.2.2.2.1 ≤ 1000) ∧ (0 ≤ x.2.2.2.2.1 ∧ x.2.2.2.2.1 ≤ 5) ∧ x.2.2.1.length ≤ 32 ∧ x.2.2.2.2.2.length ≤ 64 := by
  obtain ⟨h1, h2⟩ := mayF_iff.1 h
  have h3 := fits_iff.1 h2
  omega
theorem plainB_iff {c : List Int} : plainB c = true ↔ mayC c = true ∧ pln c = c := by simp [plainB]
theorem headB_iff {d : Dot} {c : List Int} : headB d c = true ↔ mayD d = true ∧ (mayC c = true ∧ pln c = c) ∧ getZ c d.1 = d.2 - 1 := by simp [headB, plainB_iff, and_assoc]
theorem mayE_iff {e : Evt} : mayE e = true ↔ headB e.1 e.2.1 = true ∧ (1 ≤ e.2.2.length ∧ e.2.2.length ≤ 16) ∧ ∀ x ∈ e.2.2, mayF x = true := by simp [mayE, and_assoc]
theorem putC_of {c : List Int} (hm : mayC c = true) (hp : pln c = c) : putC c = pack (c.map num) := by unfold putC; rw [pln_vec c hm, hp]

theorem len2 {α : Type} (l : List α) (h : l.length = 2) : ∃ a b, l = [a, b] := by
  rcases l with _ | ⟨a, _ | ⟨b, _ | ⟨c, r⟩⟩⟩
  · simp at h
  · simp at h
  · exact ⟨a, b, rfl⟩
  · simp at h
theorem len4 {α : Type} (l : List α) (h : l.length = 4) : ∃ a b c d, l = [a, b, c, d] := by
  rcases l with _ | ⟨a, _ | ⟨b, r⟩⟩
  · simp at h
  · simp at h
  · obtain ⟨c, d, rfl⟩ := len2 r (by simpa using h)
    exact ⟨a, b, c, d, rfl⟩
theorem len6 {α : Type} (l : List α) (h : l.length = 6) : ∃ a b c d e f, l = [a, b, c, d, e, f] := by
  rcases l with _ | ⟨a, _ | ⟨b, r⟩⟩
  · simp at h
  · simp at h
  · obtain ⟨c, d, e, f, rfl⟩ := len4 r (by simpa using h)
    exact ⟨a, b, c, d, e, f, rfl⟩
theorem gpk_some {b : List Int} (hb : By b) {least : Nat} {most : Int} {ts : List (List Int)} (h : gpk b least most = some ts) :
    pack ts = b ∧ (∀ t ∈ ts, t.length ≤ 65536 ∧ By t) ∧ least ≤ ts.length ∧ (ts.length : Int) ≤ most := by
  unfold gpk at h
  rcases hu : unpack b most with _ | ⟨l, m⟩
  · rw [hu] at h; cases h
  · rw [hu] at h
    simp only [] at h
    split at h
    · rename_i hc
      cases h
      obtain ⟨_, _, h3, h4⟩ := unpack_some hb hu
      rw [hc.1, List.take_length] at h3
      exact ⟨h3, h4, hc.2, unpack_le hb hu⟩
    · cases h
theorem gpk_pack (l : List (List Int)) (least : Nat) (most : Int) (hn : l.length ≤ 1000) (hl : ∀ t ∈ l, t.length ≤ 65536) (h1 : least ≤ l.length) (h2 : (l.length : Int) ≤ most) : gpk (pack l) least most = some l := by
  unfold gpk
  have e := unpack_pack l (by omega) hl [] most h2
  rw [List.append_nil] at e
  rw [e]
  simp [h1]
theorem rdAll_is {ts : List (List Int)} (hts : ∀ t ∈ ts, By t) {c : List Int} (h : rdAll ts = some c) : ts = c.map num ∧ c.length = ts.length ∧ ∀ x ∈ c, 0 ≤ x ∧ x ≤ 1048576 := by
  have h1 := (rdAll_iff hts).1 h
  exact ⟨h1.2, rfAll_bd hts h1.1⟩
theorem rdD_some {b : List Int} (hb : By b) {d : Dot} (h : rdD b = some d) : putD2 d = b := by
  unfold rdD at h
  rcases hg : gpk b 2 2 with _ | ts
  · rw [hg] at h; cases h
  · rw [hg] at h
    simp only [] at h
    obtain ⟨h1, h2, h3, h4⟩ := gpk_some hb hg
    rcases hr : rdAll ts with _ | l
    · rw [hr] at h; cases h
    · rw [hr] at h
      cases h
      obtain ⟨e, el, _⟩ := rdAll_is (fun t ht => (h2 t ht).2) hr
      obtain ⟨x, y, rfl⟩ := len2 l (by omega)
      rw [← h1, e]
      rfl
theorem num_ok (x : Int) (h0 : 0 ≤ x) (h1 : x ≤ 1048576) : rdAll [num x] = some [x] := rdAll_nums [x] (by simp; omega)
theorem rdD_put (d : Dot) (h : mayD d = true) : rdD (putD2 d) = some d := by
  have hd := mayD_iff.1 h
  unfold rdD putD2
  rw [gpk_pack _ 2 2 (by simp) (by simp only [List.mem_cons, List.not_mem_nil, or_false]; rintro t (rfl | rfl) <;> exact num_short _) (by simp) (by simp)]
  simp only []
  have e := rdAll_nums [d.1, d.2] (by simp; omega)
  simp only [List.map_cons, List.map_nil] at e
  rw [e]
  rfl
theorem rdF_some {b : List Int} (hb : By b) {x : Eff} (h : rdF b = some x) : putF x = b ∧ ByF x := by
  unfold rdF at h
  rcases hg : gpk b 6 6 with _ | ts
  · rw [hg] at h; cases h
  · rw [hg] at h
    simp only [] at h
    obtain ⟨h1, h2, h3, h4⟩ := gpk_some hb hg
    rcases hr : rdAll (ts.take 4) with _ | l
    · rw [hr] at h; cases h
    · rw [hr] at h
      cases h
      obtain ⟨e, el, _⟩ := rdAll_is (fun t ht => (h2 t (List.mem_of_mem_take ht)).2) hr
      obtain ⟨t0, t1, t2, t3, t4, t5, rfl⟩ := len6 ts (by omega)
      obtain ⟨x, y, z, v, rfl⟩ := len4 l (by rw [el]; rfl)
      simp at e
      obtain ⟨rfl, rfl, rfl, rfl⟩ := e
      exact ⟨h1, (h2 t4 (by simp)).2, (h2 t5 (by simp)).2⟩
theorem putF_texts {x : Eff} (h : mayF x = true) : ∀ t ∈ [num x.1, num x.2.1, num x.2.2.2.1, num x.2.2.2.2.1, x.2.2.1, x.2.2.2.2.2], t.length ≤ 64 := by
  have hb := mayF_bd h
  have hn : ∀ y, (num y).length ≤ 64 := fun y => by rw [num_len]; have := nb_le y; omega
  simp only [List.mem_cons, List.not_mem_nil, or_false]
  rintro t (rfl | rfl | rfl | rfl | rfl | rfl)
  · exact hn _
  · exact hn _
  · exact hn _
  · exact hn _
  · omega
  · omega
theorem rdF_put {x : Eff} (h : mayF x = true) : rdF (putF x) = some x := by
  have hb := mayF_bd h
  unfold rdF putF
  rw [gpk_pack _ 6 6 (by simp) (fun t ht => by have := putF_texts h t ht; omega) (by simp) (by simp)]
  simp only [List.take]
  have e := rdAll_nums [x.1, x.2.1, x.2.2.2.1, x.2.2.2.2.1] (by simp; omega)
  simp only [List.map_cons, List.map_nil] at e
  rw [e]
  rfl
theorem rdFs_some : ∀ {ts : List (List Int)} (_ : ∀ t ∈ ts, By t) {l : List Eff} (_ : rdFs ts = some l), l.map putF = ts ∧ ∀ x ∈ l, ByF x
  | [], _, l, h => by
    simp [rdFs] at h
    subst h
    exact ⟨rfl, fun x hx => by cases hx⟩
  | t :: r, hby, l, h => by
    unfold rdFs at h
    rcases hf : rdF t with _ | x
    · rw [hf] at h; cases h
    · rw [hf] at h
      simp only [Option.map_eq_some_iff] at h
      obtain ⟨l', hl', rfl⟩ := h
      obtain ⟨i1, i2⟩ := rdFs_some (fun u hu => hby u (by simp [hu])) hl'
      obtain ⟨g1, g2⟩ := rdF_some (hby t (by simp)) hf
      refine ⟨by rw [List.map_cons, g1, i1], fun y hy => ?_⟩
      rcases List.mem_cons.1 hy with rfl | hy
      · exact g2
      · exact i2 y hy
theorem rdFs_put : ∀ (l : List Eff) (_ : ∀ x ∈ l, mayF x = true), rdFs (l.map putF) = some l
  | [], _ => rfl
  | x :: r, h => by
    simp only [List.map_cons, rdFs, rdF_put (h x (by simp)), rdFs_put r (fun y hy => h y (by simp [hy])), Option.map_some]
theorem rdW_some {t : List Int} (ht : By t) {c : List Int} (h : rdW t = some c) : putC c = t ∧ mayC c = true ∧ pln c = c := by
  unfold rdW at h
  rcases hr : rdC t with _ | ⟨c', m⟩
  · rw [hr] at h; cases h
  · rw [hr] at h
    simp only [] at h
    split at h
    · rename_i hm
      cases h
      have hf := rf_rd ht
      rw [hr] at hf
      have hd := hr
      unfold rdC at hd
      rcases hu : unpack t 5 with _ | ⟨ts, k⟩
      · rw [hu] at hd; cases hd
      · rw [hu] at hd
        simp only [] at hd
        obtain ⟨_, _, hp, hts⟩ := unpack_some ht hu
        have h5 := unpack_le ht hu
        rcases ha : rdAll ts with _ | c2
        · rw [ha] at hd; cases hd
        · rw [ha] at hd
          simp only [] at hd
          split at hd
          · rename_i hpl
            cases hd
            obtain ⟨e1, e2, e3⟩ := rdAll_is (fun t ht => (hts t ht).2) ha
            have hmay : mayC c = true := mayC_iff.2 ⟨by omega, e3⟩
            refine ⟨?_, hmay, hpl⟩
            rw [putC_of hmay hpl, ← e1, hp, hm, List.take_length]
          · cases hd
    · cases h
theorem rdW_put {c : List Int} (hm : mayC c = true) (hp : pln c = c) : rdW (putC c) = some c := by
  unfold rdW
  have e := rd_put c []
  rw [List.append_nil, pln_vec c hm, hp] at e
  rw [e]
  simp
theorem putD2_len (d : Dot) : (putD2 d).length ≤ 64 := by
  unfold putD2 pack
  have h1 := nb_le d.1
  have h2 := nb_le d.2
  simp [text, num_len]
  have e1 := nb_le (2 : Int)
  have e2 := nb_le ((nb d.1 : Int) + 1)
  have e3 := nb_le ((nb d.2 : Int) + 1)
  omega
theorem flat_len (B : Nat) : ∀ (l : List (List Int)) (_ : ∀ t ∈ l, t.length ≤ B), (l.flatMap text).length ≤ l.length * (B + 9)
  | [], _ => by simp
  | t :: r, h => by
    have i := flat_len B r (fun u hu => h u (by simp [hu]))
    have j := h t (by simp)
    have e : (text t).length ≤ t.length + 9 := by unfold text; rw [List.length_append, num_len]; have := nb_le (t.length : Int); omega
    rw [List.flatMap_cons, List.length_append, List.length_cons, Nat.succ_mul]
    omega
theorem pack_len (B : Nat) (l : List (List Int)) (h : ∀ t ∈ l, t.length ≤ B) : (pack l).length ≤ l.length * (B + 9) + 9 := by
  unfold pack
  have := flat_len B l h
  rw [List.length_append, num_len]
  have := nb_le (l.length : Int)
  omega
theorem putC_len (c : List Int) : (putC c).length ≤ 200 := by
  unfold putC
  have h := pack_len 9 ((pln (vec c)).map num) (by intro t ht; obtain ⟨x, _, rfl⟩ := List.mem_map.1 ht; rw [num_len]; have := nb_le x; omega)
  have h2 : (pln (vec c)).length ≤ 5 := by rw [pln_length]; have := plen_le (vec c); rw [vec_len] at this; exact this
  rw [List.length_map] at h
  omega
theorem putF_len {x : Eff} (h : mayF x = true) : (putF x).length ≤ 500 := by
  have := pack_len 64 _ (putF_texts h)
  simp at this
  unfold putF
  omega
theorem putE_texts {e : Evt} (h : mayE e = true) : ∀ t ∈ putD2 e.1 :: putC e.2.1 :: e.2.2.map putF, t.length ≤ 500 := by
  obtain ⟨_, _, h3⟩ := mayE_iff.1 h
  intro t ht
  rcases List.mem_cons.1 ht with rfl | ht
  · have := putD2_len e.1; omega
  · rcases List.mem_cons.1 ht with rfl | ht
    · have := putC_len e.2.1; omega
    · obtain ⟨x, hx, rfl⟩ := List.mem_map.1 ht
      exact putF_len (h3 x hx)
theorem putE_count {e : Evt} (h : mayE e = true) : 3 ≤ (putD2 e.1 :: putC e.2.1 :: e.2.2.map putF).length ∧ (putD2 e.1 :: putC e.2.1 :: e.2.2.map putF).length ≤ 18 := by
  obtain ⟨_, h2, _⟩ := mayE_iff.1 h
  simp
  omega
theorem pack_by {l : List (List Int)} (h : ∀ t ∈ l, By t) : By (pack l) := (num_by _).append (By.flat fun t ht => text_by (h t ht))
theorem putF_by {x : Eff} (h : ByF x) : By (putF x) := by
  refine pack_by ?_
  simp only [List.mem_cons, List.not_mem_nil, or_false]
  rintro t (rfl | rfl | rfl | rfl | rfl | rfl)
  · exact num_by _
  · exact num_by _
  · exact num_by _
  · exact num_by _
  · exact h.1
  · exact h.2
theorem putD2_by (d : Dot) : By (putD2 d) := by
  refine pack_by ?_
  simp only [List.mem_cons, List.not_mem_nil, or_false]
  rintro t (rfl | rfl) <;> exact num_by _
theorem putC_by' (c : List Int) : By (putC c) := pack_by fun t ht => by obtain ⟨x, _, rfl⟩ := List.mem_map.1 ht; exact num_by x
/-- What is got is put so. -/
theorem rdE_some {b : List Int} (hb : By b) {e : Evt} (h : rdE b = some e) : mayE e = true ∧ putE e = b ∧ ∀ x ∈ e.2.2, ByF x := by
  unfold rdE at h
  rcases hg : gpk b 3 18 with _ | ts
  · rw [hg] at h; cases h
  · rw [hg] at h
    simp only [] at h
    obtain ⟨h1, h2, h3, h4⟩ := gpk_some hb hg
    rcases ts with _ | ⟨t0, _ | ⟨t1, r⟩⟩
    · simp at h3
    · simp at h3
    · unfold rdP at h
      simp only [List.getD_cons_zero, List.getD_cons_succ, List.drop_succ_cons, List.drop_zero] at h
      rcases hd : rdD t0 with _ | d
      · rw [hd] at h; cases h
      · rw [hd] at h
        rcases hw : rdW t1 with _ | c
        · rw [hw] at h; cases h
        · rw [hw] at h
          rcases hf : rdFs r with _ | l
          · rw [hf] at h; cases h
          · rw [hf] at h
            simp only [] at h
            split at h
            · rename_i hm
              cases h
              have q1 := rdD_some (h2 t0 (by simp)).2 hd
              have q2 := rdW_some (h2 t1 (by simp)).2 hw
              have q3 := rdFs_some (fun t ht => (h2 t (by simp [ht])).2) hf
              refine ⟨hm, ?_, q3.2⟩
              unfold putE
              rw [q1, q2.1, q3.1, h1]
            · cases h
/-- What is put is got. -/
theorem rdE_put {e : Evt} (h : mayE e = true) : rdE (putE e) = some e := by
  obtain ⟨h1, h2, h3⟩ := mayE_iff.1 h
  obtain ⟨k1, k2, k3⟩ := headB_iff.1 h1
  have hc := putE_count h
  unfold rdE putE
  rw [gpk_pack _ 3 18 (by omega) (fun t ht => by have := putE_texts h t ht; omega) hc.1 (by omega)]
  unfold rdP
  simp only [List.getD_cons_zero, List.getD_cons_succ, List.drop_succ_cons, List.drop_zero]
  rw [rdD_put _ k1, rdW_put k2.1 k2.2, rdFs_put _ h3]
  simp only []
  rw [if_pos h]

/-! The document's reading. -/
def rfD (b : List Int) : Option Dot := match unpack b 2 with
  | none => none
  | some (ts, _) => if ts.length = 2 then (match rdAll ts with
    | none => none
    | some l => some (l.getD 0 0, l.getD 1 0)) else none
def rfF (b : List Int) : Option Eff := match unpack b 6 with
  | none => none
  | some (ts, _) => if ts.length = 6 then (match rdAll (ts.take 4) with
    | none => none
    | some l => some (l.getD 0 0, l.getD 1 0, ts.getD 4 [], l.getD 2 0, l.getD 3 0, ts.getD 5 [])) else none
def rfFs : List (List Int) → Option (List Eff)
  | [] => some []
  | t :: r => match rfF t with
    | none => none
    | some x => (rfFs r).map (x :: ·)
/-- The clock that a text begins with, or nothing. -/
def rfP (t : List Int) : List Int := match rfC t with
  | none => []
  | some (c, _) => c
def rfE (b : List Int) : Option Evt := match unpack b 18 with
  | none => none
  | some (ts, _) => if ts.length < 3 then none else match rfD (ts.getD 0 []) with
    | none => none
    | some d => match rfFs (ts.drop 2) with
      | none => none
      | some l => if mayE (d, rfP (ts.getD 1 []), l) = true ∧ putE (d, rfP (ts.getD 1 []), l) = b then some (d, rfP (ts.getD 1 []), l) else none
theorem unpack_put (l : List (List Int)) (most : Int) (hn : l.length ≤ 1000) (hl : ∀ t ∈ l, t.length ≤ 65536) (h2 : (l.length : Int) ≤ most) : unpack (pack l) most = some (l, (pack l).length) := by
  have e := unpack_pack l (by omega) hl [] most h2
  rwa [List.append_nil] at e
theorem rfD_put (d : Dot) (h : mayD d = true) : rfD (putD2 d) = some d := by
  have hd := mayD_iff.1 h
  unfold rfD putD2
  rw [unpack_put _ 2 (by simp) (by simp only [List.mem_cons, List.not_mem_nil, or_false]; rintro t (rfl | rfl) <;> exact num_short _) (by simp)]
  simp only []
  have e := rdAll_nums [d.1, d.2] (by simp; omega)
  simp only [List.map_cons, List.map_nil] at e
  rw [e]
  rfl
theorem rfF_put {x : Eff} (h : mayF x = true) : rfF (putF x) = some x := by
  have hb := mayF_bd h
  unfold rfF putF
  rw [unpack_put _ 6 (by simp) (fun t ht => by have := putF_texts h t ht; omega) (by simp)]
  simp only [List.take]
  have e := rdAll_nums [x.1, x.2.1, x.2.2.2.1, x.2.2.2.2.1] (by simp; omega)
  simp only [List.map_cons, List.map_nil] at e
  rw [e]
  rfl
theorem rfFs_put : ∀ (l : List Eff) (_ : ∀ x ∈ l, mayF x = true), rfFs (l.map putF) = some l
  | [], _ => rfl
  | x :: r, h => by
    simp only [List.map_cons, rfFs, rfF_put (h x (by simp)), rfFs_put r (fun y hy => h y (by simp [hy])), Option.map_some]
theorem rfP_put {c : List Int} (hm : mayC c = true) (hp : pln c = c) : rfP (putC c) = c := by
  unfold rfP
  have e := rd_put c []
  rw [List.append_nil, pln_vec c hm, hp] at e
  rw [rf_rd (putC_by' c), e]
theorem rfE_put {e : Evt} (h : mayE e = true) : rfE (putE e) = some e := by
  obtain ⟨h1, h2, h3⟩ := mayE_iff.1 h
  obtain ⟨k1, k2, k3⟩ := headB_iff.1 h1
  have hc := putE_count h
  have hu : unpack (putE e) 18 = some (putD2 e.1 :: putC e.2.1 :: e.2.2.map putF, (putE e).length) := unpack_put _ 18 (by omega) (fun t ht => by have := putE_texts h t ht; omega) (by omega)
  unfold rfE
  rw [hu]
  simp only []
  rw [if_neg (by omega)]
  simp only [List.getD_cons_zero, List.getD_cons_succ, List.drop_succ_cons, List.drop_zero]
  rw [rfD_put _ k1, rfFs_put _ h3, rfP_put k2.1 k2.2]
  simp [h]
/-- The document's reading is the program's. -/
theorem rf_rdE {b : List Int} (hb : By b) : rfE b = rdE b := by
  rcases hr : rdE b with _ | e
  · rcases hf : rfE b with _ | e
    · rfl
    · exfalso
      unfold rfE at hf
      split at hf
      · cases hf
      · split at hf
        · cases hf
        · split at hf
          · cases hf
          · split at hf
            · cases hf
            · split at hf
              · rename_i hc
                cases hf
                have q := rdE_put hc.1
                rw [hc.2, hr] at q
                cases q
              · cases hf
  · obtain ⟨h1, h2, _⟩ := rdE_some hb hr
    rw [← h2]
    exact rfE_put h1
end Go.Proofs.Ytohhlidlgibieaa

/- What 'Order' and 'Meet' do. -/
namespace Go.Proofs.Ytohhlidlgibieaa
open Go.RowKit
set_option linter.unusedVariables false

theorem Two.made (x0 x1 x2 x3 x4 y0 y1 y2 y3 y4 : Int) (w0 w : World) (hb : Below w0.heap.size w0 w) : Two w.heap.size x0 x1 x2 x3 x4 y0 y1 y2 y3 y4 w0 ((w.alloc (.cells #[.int .i64 x0, .int .i64 x1, .int .i64 x2, .int .i64 x3, .int .i64 x4] 84)).alloc (.cells #[.int .i64 y0, .int .i64 y1, .int .i64 y2, .int .i64 y3, .int .i64 y4] 84)) := by
  refine ⟨?_, ?_, ?_, ?_, ?_, ?_, ?_, ?_, ?_, ?_, (hb.alloc hb.size _).alloc (by simp; have := hb.size; omega) _⟩
  all_goals first | (rw [World.cell?_alloc_mark]; rfl) | (simp; done)

theorem mn_eq2 (x y : Int) : (if y < x then y else x) = min x y := by rw [mn_eq]; omega
theorem eq_of_wth {c d : List Int} (h1 : wth c d) (h2 : wth d c) : at5 c 0 = at5 d 0 ∧ at5 c 1 = at5 d 1 ∧ at5 c 2 = at5 d 2 ∧ at5 c 3 = at5 d 3 ∧ at5 c 4 = at5 d 4 := by
  unfold wth at h1 h2; omega
theorem wth_of_eq {c d : List Int} (h : at5 c 0 = at5 d 0 ∧ at5 c 1 = at5 d 1 ∧ at5 c 2 = at5 d 2 ∧ at5 c 3 = at5 d 3 ∧ at5 c 4 = at5 d 4) : wth c d ∧ wth d c := by
  unfold wth; omega

/-- What is met behind 'k' rounds. -/
def mw (k : Nat) (x0 x1 x2 x3 x4 y0 y1 y2 y3 y4 : Int) : Array Value :=
  match k with
  | 0 => #[.int .i64 x0, .int .i64 x1, .int .i64 x2, .int .i64 x3, .int .i64 x4]
  | 1 => #[.int .i64 (min x0 y0), .int .i64 x1, .int .i64 x2, .int .i64 x3, .int .i64 x4]
  | 2 => #[.int .i64 (min x0 y0), .int .i64 (min x1 y1), .int .i64 x2, .int .i64 x3, .int .i64 x4]
  | 3 => #[.int .i64 (min x0 y0), .int .i64 (min x1 y1), .int .i64 (min x2 y2), .int .i64 x3, .int .i64 x4]
  | 4 => #[.int .i64 (min x0 y0), .int .i64 (min x1 y1), .int .i64 (min x2 y2), .int .i64 (min x3 y3), .int .i64 x4]
  | _ => #[.int .i64 (min x0 y0), .int .i64 (min x1 y1), .int .i64 (min x2 y2), .int .i64 (min x3 y3), .int .i64 (min x4 y4)]

end Go.Proofs.Ytohhlidlgibieaa

/- What 'Join' does, of any clocks. -/
namespace Go.Proofs.Ytohhlidlgibieaa
open Go.RowKit
set_option linter.unusedVariables false

/-- Of one replica the greatest number. -/
def jAt (cs : List (List Int)) (i : Nat) : Int := cs.foldl (fun m c => max m (at5 c i)) 0
theorem jAt_step (cs : List (List Int)) (k i : Nat) (hk : k < cs.length) : jAt (cs.take (k + 1)) i = max (jAt (cs.take k) i) (at5 (cs.getD k []) i) := by
  unfold jAt
  rw [List.take_add_one, List.foldl_append]
  simp [List.getD_eq_getElem?_getD, List.getElem?_eq_getElem hk]

/-- A slice of clocks. -/
def CS (w : World) (a : Option Addr) (n : Nat) (cs : List (List Int)) : Prop :=
  cs.length = n ∧ n ≤ maxLen ∧ (n = 0 ∨ ∃ b off, a = some ⟨b, off, none⟩ ∧ ∀ i, i < n → ∃ x len cap, w.cell? ⟨b, off + i, none⟩ = some (.slice x len cap) ∧ NS w x len (cs.getD i []))

/-- An array lies in a block of its own, and what was there at the beginning lies there still. -/
def Row5 (g : Nat) (x0 x1 x2 x3 x4 : Int) (W0 W : World) : Prop := W.heap[g]? = some (.cells #[.int .i64 x0, .int .i64 x1, .int .i64 x2, .int .i64 x3, .int .i64 x4] 84 (0, 0)) ∧ W.cell? ⟨g, 0, none⟩ = some (.int .i64 x0) ∧ W.cell? ⟨g, 1, none⟩ = some (.int .i64 x1) ∧ W.cell? ⟨g, 2, none⟩ = some (.int .i64 x2) ∧ W.cell? ⟨g, 3, none⟩ = some (.int .i64 x3) ∧ W.cell? ⟨g, 4, none⟩ = some (.int .i64 x4) ∧ W.frozen? ⟨g, 0, none⟩ = false ∧ W.frozen? ⟨g, 1, none⟩ = false ∧ W.frozen? ⟨g, 2, none⟩ = false ∧ W.frozen? ⟨g, 3, none⟩ = false ∧ W.frozen? ⟨g, 4, none⟩ = false ∧ Hid (Below W0.heap.size W0 W)
theorem Row5.of {g : Nat} {x0 x1 x2 x3 x4 : Int} {W0 W : World} (h : W.heap[g]? = some (.cells #[.int .i64 x0, .int .i64 x1, .int .i64 x2, .int .i64 x3, .int .i64 x4] 84 (0, 0))) (hb : Below W0.heap.size W0 W) : Row5 g x0 x1 x2 x3 x4 W0 W := by
  refine ⟨h, ?_, ?_, ?_, ?_, ?_, ?_, ?_, ?_, ?_, ?_, hb⟩ <;> first | (rw [cell_of_row W _ _ _ _ _ h]; rfl) | (simp [World.frozen?, h]; done)
theorem Row5.bel {g : Nat} {x0 x1 x2 x3 x4 : Int} {W0 W : World} (h : Row5 g x0 x1 x2 x3 x4 W0 W) : Below W0.heap.size W0 W := h.2.2.2.2.2.2.2.2.2.2.2.out
theorem Row5.next {g : Nat} {x0 x1 x2 x3 x4 : Int} {W0 W w' : World} (h : Row5 g x0 x1 x2 x3 x4 W0 W) (hb : Below W.heap.size W w') : Row5 g x0 x1 x2 x3 x4 W0 w' :=
  Row5.of (by rw [hb.block g (Array.getElem?_eq_some_iff.1 h.1).1]; exact h.1) (bel_next h.bel hb)
theorem Row5.drew {g : Nat} {x0 x1 x2 x3 x4 : Int} {W0 W : World} (h : Row5 g x0 x1 x2 x3 x4 W0 W) : Row5 g x0 x1 x2 x3 x4 W0 W.drew := Row5.of h.1 h.bel.drew

theorem set1 {W0 W : World} {B g : Nat} {cur : Array Value} {t : TypeId} (hg : W.heap[g]? = some (.cells cur t (0, 0))) (hb : Below B W0 W) (hB : B ≤ g) (i : Nat) (v : Value) :
    (W.setCell ⟨g, i, none⟩ v).heap[g]? = some (.cells (cur.setIfInBounds i v) t (0, 0)) ∧ Below B W0 (W.setCell ⟨g, i, none⟩ v) := by
  refine ⟨?_, hb.setCell hB _⟩
  simp [World.setCell, Array.getElem?_modify, hg]
theorem set5 {W0 W : World} {g : Nat} {x0 x1 x2 x3 x4 : Int} (h : Row5 g x0 x1 x2 x3 x4 W0 W) (hB : W0.heap.size ≤ g) (z0 z1 z2 z3 z4 : Int) :
    ((World.setCell (World.setCell (World.setCell (World.setCell (World.setCell W ⟨g, 0, none⟩ (.int .i64 z0)) ⟨g, 1, none⟩ (.int .i64 z1)) ⟨g, 2, none⟩ (.int .i64 z2)) ⟨g, 3, none⟩ (.int .i64 z3)) ⟨g, 4, none⟩ (.int .i64 z4))).heap[g]? = some (.cells #[.int .i64 z0, .int .i64 z1, .int .i64 z2, .int .i64 z3, .int .i64 z4] 84 (0, 0)) ∧ Below W0.heap.size W0 (World.setCell (World.setCell (World.setCell (World.setCell (World.setCell W ⟨g, 0, none⟩ (.int .i64 z0)) ⟨g, 1, none⟩ (.int .i64 z1)) ⟨g, 2, none⟩ (.int .i64 z2)) ⟨g, 3, none⟩ (.int .i64 z3)) ⟨g, 4, none⟩ (.int .i64 z4)) := by
  have a0 := set1 h.1 h.bel hB 0 (.int .i64 z0)
  have a1 := set1 a0.1 a0.2 hB 1 (.int .i64 z1)
  have a2 := set1 a1.1 a1.2 hB 2 (.int .i64 z2)
  have a3 := set1 a2.1 a2.2 hB 3 (.int .i64 z3)
  have a4 := set1 a3.1 a3.2 hB 4 (.int .i64 z4)
  exact ⟨by rw [a4.1]; simp, a4.2⟩

end Go.Proofs.Ytohhlidlgibieaa

/- What the document's 'Plain', 'Set', 'Join', 'Meet', 'Within', 'Order' and 'Sum' do. -/
namespace Go.Proofs.Ytohhlidlgibieaa
open Go.RowKit
set_option linter.unusedVariables false

def lenV : Value → Nat
  | .slice _ n _ => n
  | _ => 0

/-- 'append(v, x)', 'v' numbers of the call's own. -/
theorem append_one {w : World} {ops : Array Oper} {rest : List Oper} {o : Oper} {a : Act} {Q : Exit → Act → World → Prop} (hgd : o.guard = none) (s x : Operand)
    (ho : o.op = .call { callee := .builtin .append, args := #[s, x], argTypes := #[25, 25] })
    (N : Nat) (v : Value) (l : List Int) (y : Int) (g : Nat) (hg : g = w.heap.size) (hs : a.eval s = v) (hown : OwnN N w v l) (hx : a.eval x = .slice (some ⟨g, 0, none⟩) 1 1)
    (hbig : l.length ≤ 1000000) (hN : N ≤ w.heap.size)
    (h : ∀ v' w', OwnN N w' v' (l ++ [y]) → (∀ w0, Below N w0 w → Below N w0 w') → wpList Try.prog ops Q rest (a.put o.dst v') w') : wpList Try.prog ops Q (o :: rest) a (w.alloc (.cells #[.int .i64 y] 3)) := by
  refine append_nums hgd s x 25 Try.underlying25 ho N v l [y] hs (hown.alloc _) ⟨g, 0, none⟩ 1 1 hx (NS.one w g hg y) (by simp; omega) (by simp; omega) ?_
  intro v' w' h1 _ h2
  exact h v' w' h1 (fun w0 hb => h2 w0 (hb.alloc hN _))

theorem vec_take (c : List Int) (k : Nat) (hk : k < 5) : (vec c).take (k + 1) = (vec c).take k ++ [at5 c k] := by
  rw [List.take_add_one]
  have e : (vec c)[k]? = some (at5 c k) := by
    rw [← vec_getD c k hk]
    simp [List.getD_eq_getElem?_getD, List.getElem?_eq_getElem (show k < (vec c).length by simp [vec_len]; omega)]
  rw [e]; rfl

set_option maxHeartbeats 2000000 in
theorem plain_ref (a : Option Addr) (n cap : Nat) (c : List Int) (w : World) (hN : NS w a n c) :
    Calls Try.prog 35 #[.slice a n cap] w fun e w' => ∃ v, e = .returned v ∧ OwnN w.heap.size w' v (pln (vec c)) ∧ Below w.heap.size w w' := by
  have HN := hide hN
  clear hN
  go_enter Try.func35, Try.ntmps35
  go_wp2
  go_loopw [3, 4] (fun v i wr => ∃ k : Nat, k ≤ 5 ∧ i = .int .i64 (k + 1) ∧ Hid (OwnN w.heap.size wr v (pln ((vec c).take k))) ∧ Hid (Below w.heap.size w wr)) (fun _ i _ => 6 - (intOf i).toNat)
  case atStart => exact ⟨0, by omega, rfl, OwnN.made _ _ _ rfl (Nat.le_refl _), bel1 _ _⟩
  case round =>
    obtain ⟨k, hk, rfl, hO, hB⟩ := hrel
    by_cases hlt : k < 5
    · have hle : ((k : Int) + 1 ≤ 5) := by omega
      have HG := hide (get_ref a n cap c (k + 1) wr (HN.out.below hB.out) k rfl)
      have hbd := at5_bd c k
      have HV := hide (vec_take c k hlt)
      by_cases hz : at5 c k > 0
      · have HL : Hid (((vec c).take k).length = k) := by unfold Hid; rw [List.length_take, vec_len]; omega
        have hp : Hid (pln ((vec c).take (k + 1)) = (vec c).take k ++ [at5 c k]) := by unfold Hid; rw [HV.out]; exact pln_snoc (by omega) _
        have HP := hide (pln_pad ((vec c).take k))
        rw [HL.out] at HP
        generalize (vec c).take k = L at *
        obtain ⟨x, hx0⟩ : ∃ x, x = at5 c k := ⟨_, rfl⟩
        have hx := hide hx0
        rw [← hx0] at HG hbd hz hp
        clear hx0
        clear HV
        go_wp2_with (go_at_call 36; refine HG.out.mono ?_; rintro e w' ⟨rfl, rfl⟩)
        go_loopw [3] (fun v wr' => ∃ j : Nat, (pln L).length + j ≤ k ∧ Hid (OwnN w.heap.size wr' v (pln L ++ List.replicate j 0)) ∧ Hid (Below w.heap.size w wr')) (fun v _ => k - lenV v)
        case atStart => exact ⟨0, by rw [pln_length]; have := plen_le L; have := HL.out; omega, by unfold Hid; simpa using hO.out, hB⟩
        case round =>
          clear hO hB
          obtain ⟨j, hj, hO2, hB2⟩ := hrel
          obtain ⟨p, cp, hv, _, _⟩ := hO2.out.open
          have hlen : (pln L ++ List.replicate j 0).length = (pln L).length + j := by simp
          obtain ⟨m, hm⟩ : ∃ m, m = (pln L).length + j := ⟨_, rfl⟩
          rw [hlen, ← hm] at hv
          rw [← hm] at hj
          subst hv
          have hsz := hB2.out.size
          have hw : ((k : Int) + 1 - 1) = k := by omega
          by_cases hmk : m < k
          · have hmk' : (m : Int) < k := by omega
            have HM := hide hm
            clear hm hlen
            go_wp2_with (at_builtin; refine Stop.at ?_)
            unfold Stop
            refine append_one rfl _ _ rfl w.heap.size (.slice p m cp) (pln L ++ List.replicate j 0) 0 _ rfl rfl hO2.out rfl (by simp; have := HM.out; omega) hsz ?_
            intro v' w' h1 h2
            have HO3 := hide h1
            have HB3 := hide (h2 _ hB2.out)
            have hlv : lenV v' = m + 1 := by obtain ⟨p', c', rfl, _, _⟩ := h1.open; simp [lenV]; have := HM.out; omega
            clear h1 h2 hO2 hB2
            go_wp2
            go_roundw
            case rel => exact ⟨j + 1, by have := HM.out; omega, by unfold Hid; rw [List.replicate_succ', ← List.append_assoc]; exact HO3.out, HB3⟩
            case measure => rw [hlv]; simp [lenV]; omega
          · have hmk' : ¬ (m : Int) < k := by omega
            have hE : Hid (OwnN w.heap.size wr (.slice p m cp) L) := by
              have h1 := hO2.out
              have h2 : j = k - (pln L).length := by omega
              rw [h2, HP.out] at h1
              exact h1
            have HM : Hid (L.length = k) := HL
            have HG2 := hide (get_ref a n cap c (k + 1) wr (HN.out.below hB2.out) k rfl)
            clear hm hlen hO2
            rw [← hx.out] at HG2
            go_wp2_with (first
              | (go_at_call 36; refine HG2.out.mono ?_; rintro e w' ⟨rfl, rfl⟩)
              | (at_builtin; refine Stop.at ?_))
            unfold Stop
            refine append_one rfl _ _ rfl w.heap.size (.slice p m cp) L x _ rfl rfl hE.out rfl (by rw [HM.out]; omega) hsz ?_
            intro v' w' h1 h2
            have HO3 := hide h1
            have HB3 := hide (h2 _ hB2.out)
            clear h1 h2 hE hB2
            go_wp2
            go_roundw
            case rel => exact ⟨k + 1, by omega, by go_num, by unfold Hid; rw [hp.out]; exact HO3.out, HB3⟩
            case measure => simp [intOf]; omega
      · have hz0 : at5 c k = 0 := by omega
        have hp : Hid (pln ((vec c).take (k + 1)) = pln ((vec c).take k)) := by unfold Hid; rw [HV.out, hz0]; exact pln_zero _
        rw [hz0] at HG
        clear hz hbd HV hz0
        go_wp2_with (go_at_call 36; refine HG.out.mono ?_; rintro e w' ⟨rfl, rfl⟩)
        go_roundw
        case rel => exact ⟨k + 1, by omega, by go_num, by unfold Hid; rw [hp.out]; exact hO.out, hB⟩
        case measure => simp [intOf]; omega
    · have hkl : k = 5 := by omega
      subst hkl
      go_wp2
      go_ret
      exact ⟨_, rfl, hO.out, hB.out⟩
end Go.Proofs.Ytohhlidlgibieaa

/- What the document's 'Within', 'Order', 'Sum', 'Set', 'Join' and 'Meet' do. -/
namespace Go.Proofs.Ytohhlidlgibieaa
open Go.RowKit
set_option linter.unusedVariables false

theorem wth_all (c d : List Int) : wth c d ↔ ∀ i, i < 5 → at5 c i ≤ at5 d i := by
  constructor
  · intro h i hi
    unfold wth at h
    have h5 : i = 0 ∨ i = 1 ∨ i = 2 ∨ i = 3 ∨ i = 4 := by omega
    rcases h5 with rfl | rfl | rfl | rfl | rfl <;> omega
  · intro h
    exact ⟨h 0 (by omega), h 1 (by omega), h 2 (by omega), h 3 (by omega), h 4 (by omega)⟩
def wthFrom (c d : List Int) (k : Nat) : Prop := ∀ i, k ≤ i → i < 5 → at5 c i ≤ at5 d i
theorem wthFrom_step {c d : List Int} {k : Nat} (hk : k < 5) : wthFrom c d k ↔ at5 c k ≤ at5 d k ∧ wthFrom c d (k + 1) := by
  constructor
  · intro h
    exact ⟨h k (Nat.le_refl _) hk, fun i h1 h2 => h i (by omega) h2⟩
  · rintro ⟨h0, h⟩ i h1 h2
    by_cases hi : i = k
    · subst hi; exact h0
    · exact h i (by omega) h2

set_option maxHeartbeats 1000000 in
theorem within_ref (a b : Option Addr) (n cap m cap' : Nat) (c d : List Int) (w : World) (hN : NS w a n c) (hM : NS w b m d) :
    Calls Try.prog 21 #[.slice a n cap, .slice b m cap'] w fun e w' => e = .returned (.bool (decide (wth c d))) ∧ w' = w := by
  have HN := hide hN
  have HM := hide hM
  clear hN hM
  have H0 : Hid (wth c d ↔ wthFrom c d 0) := by unfold Hid wthFrom; rw [wth_all]; simp
  go_enter Try.func21, Try.ntmps21
  go_wp2
  go_loop [5] (fun i => ∃ k : Nat, k ≤ 5 ∧ i = .int .i64 (k + 1) ∧ Hid (wth c d ↔ wthFrom c d k)) (fun i => 6 - (intOf i).toNat)
  case atStart => exact ⟨0, by omega, rfl, H0⟩
  case round =>
    clear H0
    obtain ⟨k, hk, rfl, hH⟩ := hrel
    by_cases hlt : k < 5
    · have hle : ((k : Int) + 1 ≤ 5) := by omega
      have hst : Hid (wth c d ↔ at5 c k ≤ at5 d k ∧ wthFrom c d (k + 1)) := by have h := hH.out; rw [wthFrom_step hlt] at h; exact h
      have HG := hide (get_ref a n cap c (k + 1) w HN.out k rfl)
      have HK := hide (get_ref b m cap' d (k + 1) w HM.out k rfl)
      generalize at5 c k = x at *
      generalize at5 d k = y at *
      clear hH
      by_cases hxy : x > y
      · have HE : Hid (false = decide (wth c d)) := by unfold Hid; symm; rw [decide_eq_false_iff_not, hst.out]; omega
        go_wp2_with (first
          | (go_at_call_of 36 a; refine HG.out.mono ?_; rintro e w' ⟨rfl, rfl⟩)
          | (go_at_call 36; refine HK.out.mono ?_; rintro e w' ⟨rfl, rfl⟩))
        go_ret
        exact ⟨retB HE.out, rfl⟩
      · have hst2 : Hid (wth c d ↔ wthFrom c d (k + 1)) := by unfold Hid; rw [hst.out]; constructor <;> intro h <;> first | exact h.2 | exact ⟨by omega, h⟩
        go_wp2_with (first
          | (go_at_call_of 36 a; refine HG.out.mono ?_; rintro e w' ⟨rfl, rfl⟩)
          | (go_at_call 36; refine HK.out.mono ?_; rintro e w' ⟨rfl, rfl⟩))
        go_round
        case rel => exact ⟨k + 1, by omega, by go_num, hst2⟩
        case measure => simp [intOf]; omega
    · have hkl : k = 5 := by omega
      subst hkl
      have HE : Hid (true = decide (wth c d)) := by unfold Hid; symm; rw [decide_eq_true_iff, hH.out]; intro i h1 h2; omega
      clear hH
      go_wp2
      go_ret
      exact ⟨retB HE.out, rfl⟩

theorem take_snoc {L : List Int} {k : Nat} {x : Int} (hk : k < L.length) (hx : L.getD k 0 = x) : L.take (k + 1) = L.take k ++ [x] := by
  rw [List.take_add_one]
  have e : L[k]? = some x := by rw [← hx]; simp [List.getD_eq_getElem?_getD, hk]
  rw [e]; rfl

theorem joinL_getD (c d : List Int) (k : Nat) (hk : k < 5) : (joinL c d).getD k 0 = max (at5 c k) (at5 d k) := by
  rcases k with _ | _ | _ | _ | _ | k
  · rfl
  · rfl
  · rfl
  · rfl
  · rfl
  · omega
theorem meetL_getD (c d : List Int) (k : Nat) (hk : k < 5) : (meetL c d).getD k 0 = min (at5 c k) (at5 d k) := by
  rcases k with _ | _ | _ | _ | _ | k
  · rfl
  · rfl
  · rfl
  · rfl
  · rfl
  · omega
theorem setL_len (c : List Int) (r : Nat) (x : Int) : (setL c r x).length = 5 := by simp [setL, vec_len]
theorem setL_getD (c : List Int) (r k : Nat) (x : Int) (hk : k < 5) : (setL c r x).getD k 0 = if k = r then x else at5 c k := by
  unfold setL
  rw [List.getD_eq_getElem?_getD, List.getElem?_set]
  by_cases h : r = k
  · subst h; simp [vec_len, hk]
  · rw [if_neg h, if_neg (fun e => h e.symm), ← vec_getD c k hk, List.getD_eq_getElem?_getD]

end Go.Proofs.Ytohhlidlgibieaa

