/- The register as bits: one step is linear and forgets nothing; 32 bits behind a register are the register with these bits turned, 32 steps on. -/
import Derived.Test.YtedifnkafoepkaaRun
namespace Go.Proofs.Ytedifnkafoepkaa

def poly : BitVec 32 := 79764919#32
def T (x : BitVec 32) : BitVec 32 := (x <<< 1) ^^^ (if x.msb then poly else 0#32)
def tb (b : Bool) : BitVec 32 := if b then 2147483648#32 else 0#32
def Tn : Nat → BitVec 32 → BitVec 32
  | 0, x => x
  | n + 1, x => T (Tn n x)
def RB (x : BitVec 32) (g : Nat → Bool) : Nat → BitVec 32
  | 0 => x
  | n + 1 => T (RB x g n ^^^ tb (g n))
def WB (g : Nat → Bool) : Nat → BitVec 32
  | 0 => 0#32
  | n + 1 => WB g n ^^^ (if g n then 2147483648#32 >>> n else 0#32)

theorem T_zero : T 0#32 = 0#32 := by decide
theorem T_xor (x y : BitVec 32) : T (x ^^^ y) = T x ^^^ T y := by
  unfold T
  rw [BitVec.shiftLeft_xor_distrib, BitVec.msb_xor]
  cases hx : x.msb <;> cases hy : y.msb <;> simp only [Bool.xor_false, Bool.xor_true, Bool.not_true, Bool.not_false, if_true, if_false, Bool.false_eq_true, BitVec.xor_zero]
  · ac_rfl
  · ac_rfl
  · have h : x <<< 1 ^^^ poly ^^^ (y <<< 1 ^^^ poly) = (x <<< 1 ^^^ y <<< 1) ^^^ (poly ^^^ poly) := by ac_rfl
    rw [h, BitVec.xor_self, BitVec.xor_zero]
theorem T_eq_zero (x : BitVec 32) (h : T x = 0#32) : x = 0#32 := by
  have h0 : (T x).getLsbD 0 = false := by rw [h]; decide
  have hm : x.msb = false := by
    cases hx : x.msb
    · rfl
    · unfold T at h0
      rw [hx, if_pos rfl, BitVec.getLsbD_xor] at h0
      have h1 : (x <<< 1).getLsbD 0 = false := by simp
      rw [h1] at h0
      exact absurd h0 (by decide)
  unfold T at h
  rw [hm] at h
  simp only [Bool.false_eq_true, if_false, BitVec.xor_zero] at h
  apply BitVec.eq_of_getLsbD_eq
  intro i hi
  rw [BitVec.getLsbD_zero]
  by_cases h31 : i = 31
  · subst h31; rw [BitVec.msb_eq_getLsbD_last] at hm; exact hm
  · have h2 : (x <<< 1).getLsbD (i + 1) = false := by rw [h]; exact BitVec.getLsbD_zero
    rw [BitVec.getLsbD_shiftLeft] at h2
    simpa [show i + 1 < 32 from by omega, hi] using h2
theorem Tn_xor (n : Nat) (x y : BitVec 32) : Tn n (x ^^^ y) = Tn n x ^^^ Tn n y := by
  induction n with
  | zero => rfl
  | succ n ih => show T (Tn n _) = _; rw [ih, T_xor]; rfl
theorem Tn_zero (n : Nat) : Tn n 0#32 = 0#32 := by
  induction n with
  | zero => rfl
  | succ n ih => show T (Tn n _) = _; rw [ih, T_zero]
theorem Tn_eq_zero (n : Nat) (x : BitVec 32) (h : Tn n x = 0#32) : x = 0#32 := by
  induction n with
  | zero => exact h
  | succ n ih => exact ih (T_eq_zero _ h)
theorem Tn_bit : ∀ j : Fin 32, Tn j.val (2147483648#32 >>> j.val) = 2147483648#32 := by decide +kernel
/-- A register behind at most 32 bits. -/
theorem RB_word (x : BitVec 32) (g : Nat → Bool) (n : Nat) (hn : n ≤ 32) : RB x g n = Tn n (x ^^^ WB g n) := by
  induction n with
  | zero => show x = x ^^^ 0#32; rw [BitVec.xor_zero]
  | succ n ih =>
    show T (RB x g n ^^^ tb (g n)) = T (Tn n (x ^^^ (WB g n ^^^ _)))
    rw [ih (by omega), ← BitVec.xor_assoc, Tn_xor n (x ^^^ WB g n)]
    congr 2
    unfold tb
    cases g n
    · rw [if_neg (by decide), if_neg (by decide), Tn_zero]
    · rw [if_pos rfl, if_pos rfl]; exact (Tn_bit ⟨n, by omega⟩).symm
theorem RB_lin (x y : BitVec 32) (g h : Nat → Bool) (n : Nat) : RB x g n ^^^ RB y h n = RB (x ^^^ y) (fun p => g p != h p) n := by
  induction n with
  | zero => rfl
  | succ n ih =>
    show T _ ^^^ T _ = T (_ ^^^ _)
    rw [← T_xor, ← ih]
    congr 1
    have e : tb (g n != h n) = tb (g n) ^^^ tb (h n) := by cases g n <;> cases h n <;> decide
    rw [e]; ac_rfl
theorem RB_shift (x : BitVec 32) (g : Nat → Bool) (m n : Nat) : RB x g (m + n) = RB (RB x g m) (fun p => g (m + p)) n := by
  induction n with
  | zero => rfl
  | succ n ih => show T (RB x g (m + n) ^^^ _) = T (_ ^^^ _); rw [ih]; rfl
theorem RB_none (x : BitVec 32) (g : Nat → Bool) (n : Nat) (h : ∀ p, p < n → g p = false) : RB x g n = Tn n x := by
  induction n with
  | zero => rfl
  | succ n ih =>
    show T (RB x g n ^^^ tb (g n)) = T (Tn n x)
    rw [ih (fun p hp => h p (by omega)), h n (by omega)]
    show T (Tn n x ^^^ 0#32) = _
    rw [BitVec.xor_zero]
theorem WB_bit (g : Nat → Bool) (n : Nat) (hn : n ≤ 32) : ∀ j, j < 32 → (WB g n).getLsbD (31 - j) = (decide (j < n) && g j) := by
  induction n with
  | zero => intro j hj; show (0#32).getLsbD _ = _; simp
  | succ n ih =>
    intro j hj
    show (WB g n ^^^ _).getLsbD _ = _
    rw [BitVec.getLsbD_xor, ih (by omega) j hj]
    have hb : ∀ (n j : Fin 32), (2147483648#32 >>> n.val).getLsbD (31 - j.val) = decide (j.val = n.val) := by decide +kernel
    have hb1 := hb ⟨n, by omega⟩ ⟨j, hj⟩
    simp only [] at hb1
    by_cases hjn : j = n
    · subst hjn
      cases hg : g j
      · simp
      · rw [if_pos rfl, hb1]; simp
    · have h1 : (if g n then 2147483648#32 >>> n else 0#32).getLsbD (31 - j) = false := by
        cases g n
        · simp
        · rw [if_pos rfl, hb1]; simp [hjn]
      rw [h1, Bool.xor_false]
      have h2 : decide (j < n) = decide (j < n + 1) := by simp only [decide_eq_decide]; omega
      rw [h2]
/-- Bits turned within 32 in a row, in a register of nothing else. -/
theorem RB_window (g : Nat → Bool) (a m n : Nat) (hm : m ≤ 32) (hn : a + m ≤ n) (h0 : ∀ p, p < a → g p = false) (h1 : ∀ p, a + m ≤ p → p < n → g p = false) :
    RB 0#32 g n = 0#32 ↔ ∀ j, j < m → g (a + j) = false := by
  obtain ⟨d, rfl⟩ : ∃ d, n = a + m + d := ⟨n - (a + m), by omega⟩
  have e1 : RB 0#32 g a = 0#32 := by rw [RB_none _ _ _ h0, Tn_zero]
  have e2 : RB 0#32 g (a + m) = Tn m (WB (fun p => g (a + p)) m) := by rw [RB_shift, e1, RB_word _ _ _ hm, BitVec.zero_xor]
  have e3 : RB 0#32 g (a + m + d) = Tn d (Tn m (WB (fun p => g (a + p)) m)) := by
    rw [RB_shift, e2, RB_none]
    intro p hp; exact h1 _ (by omega) (by omega)
  rw [e3]
  constructor
  · intro h j hj
    have h2 := Tn_eq_zero _ _ (Tn_eq_zero _ _ h)
    have h3 := WB_bit (fun p => g (a + p)) m hm j (by omega)
    rw [h2] at h3
    simpa [hj] using h3.symm
  · intro h
    have h2 : WB (fun p => g (a + p)) m = 0#32 := by
      apply BitVec.eq_of_getLsbD_eq
      intro i hi
      have h3 := WB_bit (fun p => g (a + p)) m hm (31 - i) (by omega)
      rw [show 31 - (31 - i) = i from by omega] at h3
      rw [h3, BitVec.getLsbD_zero]
      by_cases hj : 31 - i < m
      · rw [h _ hj]; simp
      · simp [hj]
    rw [h2, Tn_zero, Tn_zero]
end Go.Proofs.Ytedifnkafoepkaa
