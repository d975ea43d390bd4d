/- Bits turned within 32 in a row turn the sum: the plain mathematics behind the statement 'SumTurns'. -/
import Derived.Test.YtedifnkafoepkaaLay
namespace Go.Proofs.Ytedifnkafoepkaa
open Go.RowKit

/-- Bit j of a number, as the statement asks it. -/
def sb (x : Int) (j : Nat) : Bool := (x / 2 ^ j).tmod 2 == 1
/-- Which bits are turned behind n rounds from bit f on. -/
def win (x : Int) (f n p : Nat) : Bool := decide (f ≤ p) && decide (p < f + n) && sb x (p - f)
/-- Bytes behind one turned bit. -/
def tog (cs : List Int) (k : Nat) : List Int := cs.set (k / 8) (bits .xor .u8 (cs[k / 8]?.getD 0) (128 / 2 ^ (k % 8)))

theorem byte_tog : ∀ (o : Fin 256) (t u : Fin 8), ((bits .xor .u8 (o.val : Int) (128 / 2 ^ t.val)) / pw u.val % 2 == 1) = (((o.val : Int) / pw u.val % 2 == 1) != decide (u.val = t.val)) := by decide +kernel
theorem xor8_bd (a b : Int) : 0 ≤ bits .xor .u8 a b ∧ bits .xor .u8 a b < 256 := by
  show 0 ≤ IntKind.u8.wrap _ ∧ IntKind.u8.wrap _ < 256
  rw [u8_wrap]; omega
theorem tog_len (cs : List Int) (k : Nat) : (tog cs k).length = cs.length := by unfold tog; rw [List.length_set]
theorem tog_bytes (cs : List Int) (k : Nat) (h : ∀ x ∈ cs, 0 ≤ x ∧ x < 256) : ∀ x ∈ tog cs k, 0 ≤ x ∧ x < 256 := by
  intro x hx
  rcases List.mem_or_eq_of_mem_set hx with h1 | h1
  · exact h x h1
  · rw [h1]; exact xor8_bd _ _
theorem tog_bit (cs : List Int) (k : Nat) (hk : k < 8 * cs.length) (h : ∀ x ∈ cs, 0 ≤ x ∧ x < 256) (p : Nat) : bt (tog cs k) p = (bt cs p != decide (p = k)) := by
  unfold bt btI
  by_cases hq : p / 8 = k / 8
  · have h1 : (tog cs k).getD (p / 8) 0 = bits .xor .u8 (cs.getD (k / 8) 0) (128 / 2 ^ (k % 8)) := by
      unfold tog
      rw [hq]
      simp [List.getD_eq_getElem?_getD, show k / 8 < cs.length from by omega]
    rw [h1, hq]
    obtain ⟨g0, g1⟩ := getD_byte h (k / 8)
    obtain ⟨o, ho⟩ : ∃ o : Fin 256, (o.val : Int) = cs.getD (k / 8) 0 := ⟨⟨(cs.getD (k / 8) 0).toNat, by omega⟩, Int.toNat_of_nonneg g0⟩
    rw [← ho]
    have h2 := byte_tog o ⟨k % 8, by omega⟩ ⟨p % 8, by omega⟩
    simp only [] at h2
    rw [h2]
    congr 1
    simp only [decide_eq_decide]
    omega
  · have h1 : (tog cs k).getD (p / 8) 0 = cs.getD (p / 8) 0 := by
      unfold tog
      simp only [List.getD_eq_getElem?_getD]
      rw [List.getElem?_set_ne (by omega)]
    rw [h1]
    have h2 : decide (p = k) = false := by simp only [decide_eq_false_iff_not]; omega
    rw [h2, Bool.bne_false]

/-- The relation of the loop behind n rounds. -/
def TR (l cs : List Int) (x : Int) (f n : Nat) (tt : Bool) : Prop :=
  cs.length = l.length ∧ (∀ y ∈ cs, 0 ≤ y ∧ y < 256) ∧ (∀ p, bt cs p = (bt l p != win x f n p)) ∧ (tt = true ↔ ∃ j, j < n ∧ sb x j = true)
theorem win_zero (x : Int) (f p : Nat) : win x f 0 p = false := by
  unfold win
  by_cases h : f ≤ p
  · rw [show decide (p < f + 0) = false from by simp only [decide_eq_false_iff_not]; omega]; simp
  · rw [show decide (f ≤ p) = false from by simpa using h]; simp
theorem win_succ (x : Int) (f n p : Nat) : win x f (n + 1) p = (win x f n p != (decide (p = f + n) && sb x n)) := by
  unfold win
  by_cases h : p = f + n
  · subst h
    rw [show decide (f ≤ f + n) = true from by simp, show decide (f + n < f + (n + 1)) = true from by simp, show decide (f + n < f + n) = false from by simp, show decide (f + n = f + n) = true from by simp, Nat.add_sub_cancel_left]
    simp
  · rw [show decide (p = f + n) = false from by simpa using h, show decide (p < f + (n + 1)) = decide (p < f + n) from by simp only [decide_eq_decide]; omega]
    simp
theorem TR.start (l : List Int) (x : Int) (f : Nat) (h : ∀ y ∈ l, 0 ≤ y ∧ y < 256) : TR l l x f 0 false :=
  ⟨rfl, h, fun p => by rw [win_zero, Bool.bne_false], by simp⟩
theorem TR.yes {l cs : List Int} {x : Int} {f n : Nat} {tt : Bool} (h : TR l cs x f n tt) (hk : f + n < 8 * l.length) (hs : sb x n = true) : TR l (tog cs (f + n)) x f (n + 1) true := by
  obtain ⟨h1, h2, h3, h4⟩ := h
  refine ⟨by rw [tog_len, h1], tog_bytes _ _ h2, fun p => ?_, by simp only [true_iff]; exact ⟨n, by omega, hs⟩⟩
  rw [tog_bit cs (f + n) (by rw [h1]; exact hk) h2 p, h3 p, win_succ, hs, Bool.and_true]
  cases bt l p <;> cases win x f n p <;> cases decide (p = f + n) <;> rfl
theorem TR.no {l cs : List Int} {x : Int} {f n : Nat} {tt : Bool} (h : TR l cs x f n tt) (hs : sb x n = false) : TR l cs x f (n + 1) tt := by
  obtain ⟨h1, h2, h3, h4⟩ := h
  refine ⟨h1, h2, fun p => ?_, ?_⟩
  · rw [h3 p, win_succ, hs, Bool.and_false, Bool.bne_false]
  · rw [h4]
    constructor
    · rintro ⟨j, hj, hb⟩; exact ⟨j, by omega, hb⟩
    · rintro ⟨j, hj, hb⟩
      refine ⟨j, ?_, hb⟩
      rcases Nat.lt_or_ge j n with h5 | h5
      · exact h5
      · have : j = n := by omega
        subst this
        rw [hs] at hb; cases hb
theorem TR.sum {l cs : List Int} {x : Int} {f n : Nat} {tt : Bool} (h : TR l cs x f n tt) (hl : ∀ y ∈ l, 0 ≤ y ∧ y < 256) (hn : n ≤ 32) (hk : f + n ≤ 8 * l.length) : (of [l] != of [cs]) = tt := by
  obtain ⟨h1, h2, h3, h4⟩ := h
  have e : reg l ^^^ reg cs = RB 0#32 (win x f n) (8 * l.length) := by
    unfold reg
    rw [h1, RB_lin, BitVec.xor_self]
    refine RB_congr _ _ _ _ (fun p _ => ?_)
    rw [h3 p]
    cases bt l p <;> cases win x f n p <;> rfl
  have hw := RB_window (win x f n) f n (8 * l.length) hn hk (fun p hp => by unfold win; rw [show decide (f ≤ p) = false from by simp only [decide_eq_false_iff_not]; omega]; simp)
    (fun p hp _ => by unfold win; rw [show decide (p < f + n) = false from by simp only [decide_eq_false_iff_not]; omega]; simp)
  rw [← e] at hw
  have hj : ∀ j, j < n → win x f n (f + j) = sb x j := fun j hj => by
    unfold win
    rw [show decide (f ≤ f + j) = true from by simp, show decide (f + j < f + n) = true from by simpa using hj, Nat.add_sub_cancel_left]
    simp
  have hinj : of [l] = of [cs] ↔ reg l = reg cs := by
    rw [of_reg l hl, of_reg cs h2]
    constructor
    · intro hc
      have g1 := (reg l).isLt
      have g2 := (reg cs).isLt
      have hc2 := congrArg cpl hc
      rw [cpl_cpl _ (by omega) (by omega), cpl_cpl _ (by omega) (by omega)] at hc2
      exact BitVec.eq_of_toNat_eq (by omega)
    · intro hc; rw [hc]
  have hx : reg l = reg cs ↔ reg l ^^^ reg cs = 0#32 := by
    constructor
    · intro hc; rw [hc, BitVec.xor_self]
    · intro hc
      have : reg l ^^^ reg cs ^^^ reg cs = reg cs := by rw [hc, BitVec.zero_xor]
      rwa [BitVec.xor_assoc, BitVec.xor_self, BitVec.xor_zero] at this
  rw [Bool.eq_iff_iff, bne_iff_ne, h4, ne_eq, hinj, hx, hw]
  constructor
  · intro hno
    apply Classical.byContradiction
    intro hne
    apply hno
    intro j hj1
    rw [hj j hj1]
    cases hs : sb x j
    · rfl
    · exact absurd ⟨j, hj1, hs⟩ hne
  · rintro ⟨j, hj1, hs⟩ hall
    have := hall j hj1
    rw [hj j hj1, hs] at this
    cases this
theorem BS.own {w : World} {N g len cp : Nat} {cs : List Int} (h : w.ownsRow N 5 1 (.slice (some ⟨g, 0, Option.none⟩) len cp) len (cs.map (Value.int .u8))) (hb : ∀ y ∈ cs, 0 ≤ y ∧ y < 256) (hm : len ≤ maxLen) :
    BS w (some ⟨g, 0, Option.none⟩) len cs := by
  have hl : cs.length = len := by have := h.1; simp only [List.length_map] at this; omega
  refine ⟨hl, hm, hb, .inr ⟨g, 0, rfl, fun i hi => ?_⟩⟩
  rw [Nat.zero_add, h.cellAt i (by omega)]
  subst hl
  simp [List.getD_eq_getElem?_getD, hi]
theorem own_tog {w : World} {N g len cp : Nat} {cs : List Int} (h : w.ownsRow N 5 1 (.slice (some ⟨g, 0, Option.none⟩) len cp) len (cs.map (Value.int .u8))) (k : Nat) :
    (w.setCell ⟨g, k / 8, Option.none⟩ (.int .u8 (bits .xor .u8 (cs[k / 8]?.getD 0) (128 / 2 ^ (k % 8))))).ownsRow N 5 1 (.slice (some ⟨g, 0, Option.none⟩) len cp) len ((tog cs k).map (Value.int .u8)) := by
  have h1 := (h.stored (k / 8) (.int .u8 (bits .xor .u8 (cs[k / 8]?.getD 0) (128 / 2 ^ (k % 8))))).1
  unfold tog
  rw [List.map_set]
  exact h1
theorem next_ps (w : World) (o : Obj) (a : Option Addr) (len cap : Nat) (l : List Int) (h : BS w a len l) : PS ((w.alloc o).alloc (.cells #[.slice a len cap] 23)) (some ⟨w.heap.size + 1, 0, Option.none⟩) 1 [l] := by
  have h1 := one_ps (w.alloc o) a len cap l (h.ext ((Ext.refl w).alloc o))
  rw [World.size_alloc] at h1
  exact h1
end Go.Proofs.Ytedifnkafoepkaa
