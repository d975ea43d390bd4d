/- The sum of bytes as plain functions on integers, step by step as the Go text reckons it; bounds of each; how parts join. Nothing is asked but what each theorem names. -/
import Derived.Laws.Bits64
namespace Go.Proofs.Ytbeknlpoialgiaa

def stp (r b : Int) : Int := if (r / 2147483648 != b) = true then bits .xor .u32 (r * 2 % 4294967296) 79764919 else r * 2 % 4294967296
def fd : Nat → Int → Int → Int
  | 0, r, _ => r
  | k + 1, r, o => fd k (stp r (o / 128)) (o * 2 % 256)
def feed (r o : Int) : Int := fd 8 r o
def cpl (r : Int) : Int := bits .xor .u32 IntKind.u32.max r
def on (s : Int) (l : List Int) : Int := cpl (l.foldl feed (cpl s))
def of (ps : List (List Int)) : Int := ps.foldl on 0

theorem u32_wrap (n : Int) : IntKind.u32.wrap n = n % 4294967296 := by simp [IntKind.wrap, IntKind.bits, IntKind.signed]

theorem xor32_bd (a b : Int) : 0 ≤ bits .xor .u32 a b ∧ bits .xor .u32 a b < 4294967296 := by
  show 0 ≤ IntKind.u32.wrap _ ∧ IntKind.u32.wrap _ < 4294967296
  rw [u32_wrap]; omega

theorem xor32_nat (a b : Nat) (ha : a < 4294967296) (hb : b < 4294967296) :
    bits .xor .u32 (a : Int) (b : Int) = ((a ^^^ b : Nat) : Int) := by
  have hx : a ^^^ b < 2 ^ 32 := Nat.xor_lt_two_pow (by omega) (by omega)
  have h1 : (BitVec.ofInt 32 (a : Int)).toNat = a := by
    rw [BitVec.ofInt_natCast, BitVec.toNat_ofNat]; exact Nat.mod_eq_of_lt (by omega)
  have h2 : (BitVec.ofInt 32 (b : Int)).toNat = b := by
    rw [BitVec.ofInt_natCast, BitVec.toNat_ofNat]; exact Nat.mod_eq_of_lt (by omega)
  show IntKind.u32.wrap ((BitVec.ofInt 32 (a : Int) ^^^ BitVec.ofInt 32 (b : Int)).toNat : Int) = _
  rw [BitVec.toNat_xor, h1, h2, u32_wrap]
  omega

theorem stp_bd (r b : Int) : 0 ≤ stp r b ∧ stp r b < 4294967296 := by
  unfold stp; split
  · exact xor32_bd _ _
  · omega
theorem fd_bd (k : Nat) : ∀ (r o : Int), 0 ≤ r → r < 4294967296 → 0 ≤ fd k r o ∧ fd k r o < 4294967296 := by
  induction k with
  | zero => intro r o h1 h2; exact ⟨h1, h2⟩
  | succ k ih => intro r o _ _; exact ih _ _ (stp_bd _ _).1 (stp_bd _ _).2
theorem feed_bd (r o : Int) (h1 : 0 ≤ r) (h2 : r < 4294967296) : 0 ≤ feed r o ∧ feed r o < 4294967296 := fd_bd 8 r o h1 h2
theorem cpl_bd (r : Int) : 0 ≤ cpl r ∧ cpl r < 4294967296 := xor32_bd _ _
theorem foldl_bd (l : List Int) : ∀ (r : Int), 0 ≤ r → r < 4294967296 → 0 ≤ l.foldl feed r ∧ l.foldl feed r < 4294967296 := by
  induction l with
  | nil => intro r h1 h2; exact ⟨h1, h2⟩
  | cons a l ih => intro r h1 h2; exact ih _ (feed_bd _ _ h1 h2).1 (feed_bd _ _ h1 h2).2
theorem on_bd (s : Int) (l : List Int) : 0 ≤ on s l ∧ on s l < 4294967296 := cpl_bd _
theorem of_bd_from (ps : List (List Int)) : ∀ s, 0 ≤ s → s < 4294967296 → 0 ≤ ps.foldl on s ∧ ps.foldl on s < 4294967296 := by
  induction ps with
  | nil => intro r h1 h2; exact ⟨h1, h2⟩
  | cons a l ih => intro r _ _; exact ih _ (on_bd _ _).1 (on_bd _ _).2
theorem of_bd (ps : List (List Int)) : 0 ≤ of ps ∧ of ps < 4294967296 := of_bd_from ps 0 (by omega) (by omega)

theorem cpl_cpl (r : Int) (h1 : 0 ≤ r) (h2 : r < 4294967296) : cpl (cpl r) = r := by
  obtain ⟨n, rfl⟩ := Int.eq_ofNat_of_zero_le h1
  unfold cpl
  rw [show IntKind.u32.max = ((4294967295 : Nat) : Int) from by decide]
  have hn : n < 4294967296 := by omega
  rw [xor32_nat _ _ (by omega) hn, xor32_nat _ _ (by omega) (Nat.xor_lt_two_pow (n := 32) (by omega) (by omega)), ← Nat.xor_assoc, Nat.xor_self, Nat.zero_xor]

theorem on_nil (s : Int) (h1 : 0 ≤ s) (h2 : s < 4294967296) : on s [] = s := cpl_cpl s h1 h2
theorem on_append (s : Int) (l m : List Int) : on s (l ++ m) = on (on s l) m := by
  unfold on
  rw [List.foldl_append, cpl_cpl _ (foldl_bd l _ (cpl_bd s).1 (cpl_bd s).2).1 (foldl_bd l _ (cpl_bd s).1 (cpl_bd s).2).2]
theorem awake_eq : of [[49, 50, 51, 52], [53, 54, 55, 56, 57]] = 4236843288 := by decide +kernel

end Go.Proofs.Ytbeknlpoialgiaa
