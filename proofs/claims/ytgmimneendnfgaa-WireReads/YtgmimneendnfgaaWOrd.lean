/- Numbers are in order as their bytes are. -/
import Derived.Test.YtgmimneendnfgaaWLight
namespace Go.Proofs.Ytgmimneendnfgaa
open Go.RowKit
set_option linter.unusedVariables false

/-- Bytes ahead of others. -/
def lessL : List Int → List Int → Bool
  | [], [] => false
  | [], _ :: _ => true
  | _ :: _, [] => false
  | a :: l, b :: m => decide (a < b) || (decide (a = b) && lessL l m)

theorem u8_lt (a b : Int) (ha0 : 0 ≤ a) (ha : a < 256) (hb0 : 0 ≤ b) (hb : b < 256) : (decide (UInt8.ofNat a.toNat < UInt8.ofNat b.toNat) = decide (a < b)) ∧ ((UInt8.ofNat a.toNat == UInt8.ofNat b.toNat) = decide (a = b)) := by
  have e1 : (UInt8.ofNat a.toNat).toNat = a.toNat := by simp; omega
  have e2 : (UInt8.ofNat b.toNat).toNat = b.toNat := by simp; omega
  constructor
  · rw [decide_eq_decide, UInt8.lt_iff_toNat_lt, e1, e2]; omega
  · have h : (UInt8.ofNat a.toNat = UInt8.ofNat b.toNat) ↔ a = b := by rw [← UInt8.toNat_inj, e1, e2]; omega
    by_cases hab : a = b
    · rw [decide_eq_true hab]; exact beq_iff_eq.2 (h.2 hab)
    · rw [decide_eq_false hab]; exact beq_eq_false_iff_ne.2 (fun hh => hab (h.1 hh))

theorem bytesLess_eq : ∀ (l m : List Int), By l → By m → Op.bytesLess (l.map fun n => UInt8.ofNat n.toNat) (m.map fun n => UInt8.ofNat n.toNat) = lessL l m
  | [], [], _, _ => rfl
  | [], _ :: _, _, _ => rfl
  | _ :: _, [], _, _ => rfl
  | a :: l, b :: m, hl, hm => by
    have h := u8_lt a b hl.head.1 hl.head.2 hm.head.1 hm.head.2
    show (decide (UInt8.ofNat a.toNat < UInt8.ofNat b.toNat) || (UInt8.ofNat a.toNat == UInt8.ofNat b.toNat && Op.bytesLess _ _)) = _
    rw [h.1, h.2, bytesLess_eq l m hl.tail hm.tail]
    rfl
theorem less_val : ∀ (l m : List Int), l.length = m.length → By l → By m → lessL l m = decide (val l < val m)
  | [], [], _, _, _ => by decide
  | [], _ :: _, h, _, _ => by simp at h
  | _ :: _, [], h, _, _ => by simp at h
  | a :: l, b :: m, h, hl, hm => by
    have hlen : l.length = m.length := by simpa using h
    have i := less_val l m hlen hl.tail hm.tail
    have vl := val_bd l hl.tail
    have vm := val_bd m hm.tail
    rw [hlen] at vl
    have hp := pow_pos' m.length
    show (decide (a < b) || (decide (a = b) && lessL l m)) = _
    rw [i, val_cons, val_cons, hlen]
    by_cases hab : a < b
    · have h1 : (a + 1) * 256 ^ m.length ≤ b * 256 ^ m.length := Int.mul_le_mul_of_nonneg_right (by omega) (by omega)
      rw [Int.add_mul, Int.one_mul] at h1
      rw [decide_eq_true hab, decide_eq_true (by omega : a * 256 ^ m.length + val l < b * 256 ^ m.length + val m)]
      rfl
    · by_cases heq : a = b
      · subst heq
        rw [decide_eq_false hab, decide_eq_true rfl, Bool.false_or, Bool.true_and, decide_eq_decide]
        omega
      · have h1 : (b + 1) * 256 ^ m.length ≤ a * 256 ^ m.length := Int.mul_le_mul_of_nonneg_right (by omega) (by omega)
        rw [Int.add_mul, Int.one_mul] at h1
        rw [decide_eq_false hab, decide_eq_false heq, decide_eq_false (by omega : ¬ a * 256 ^ m.length + val l < b * 256 ^ m.length + val m)]
        rfl
theorem pow_mono {i j : Nat} (h : i ≤ j) : (256 : Int) ^ i ≤ 256 ^ j := by
  induction j with
  | zero => rw [show i = 0 by omega]; exact Int.le_refl _
  | succ j ih =>
    by_cases hij : i = j + 1
    · rw [hij]; exact Int.le_refl _
    · have := ih (by omega)
      rw [pow_s]
      have := pow_pos' j
      omega
theorem nb_lt {x y : Int} (hx1 : x < 18446744073709551616) (hy : 0 ≤ y) (h : nb x < nb y) : x < y := by
  have h1 := nb_hi x hx1
  rcases nb_lo y with h0 | h2
  · omega
  · have := pow_mono (i := nb x) (j := nb y - 1) (by omega)
    omega
theorem num_less (x y : Int) (hx0 : 0 ≤ x) (hx1 : x < 18446744073709551616) (hy0 : 0 ≤ y) (hy1 : y < 18446744073709551616) : lessL (num x) (num y) = decide (x < y) := by
  show (decide ((nb x : Int) < (nb y : Int)) || (decide ((nb x : Int) = (nb y : Int)) && lessL (be (nb x) x) (be (nb y) y))) = _
  by_cases h1 : nb x < nb y
  · rw [decide_eq_true (by omega), decide_eq_true (nb_lt hx1 hy0 h1)]; rfl
  · by_cases h2 : nb x = nb y
    · rw [decide_eq_false (by omega), decide_eq_true (by omega), less_val _ _ (by rw [be_len, be_len, h2]) (be_by _ _) (be_by _ _), val_be, val_be,
        Int.emod_eq_of_lt hx0 (nb_hi x hx1), Int.emod_eq_of_lt hy0 (nb_hi y hy1)]
      simp
    · have := nb_lt hy1 hx0 (by omega : nb y < nb x)
      rw [decide_eq_false (by omega), decide_eq_false (by omega), decide_eq_false (by omega)]; rfl
theorem str_less (x y : Int) (hx0 : 0 ≤ x) (hx1 : x < 18446744073709551616) (hy0 : 0 ≤ y) (hy1 : y < 18446744073709551616) :
    Op.bytesLess (strOfNums (num x)).toList (strOfNums (num y)).toList = decide (x < y) := by
  rw [← num_less x y hx0 hx1 hy0 hy1, ← bytesLess_eq _ _ (num_by x) (num_by y)]
  unfold strOfNums
  rw [ByteArray.toList_mk, ByteArray.toList_mk]
end Go.Proofs.Ytgmimneendnfgaa
