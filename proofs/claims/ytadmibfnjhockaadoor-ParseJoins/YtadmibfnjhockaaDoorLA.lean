/- What strconv's Atoi and Itoa say of a text, against the document's numbers (layer 14), in plain mathematics. -/
import Derived.Test.YtadmibfnjhockaaDoorL1
import Derived.Lib.AtoiAll
import Derived.Lib.ItoaNum
namespace Go.Proofs.YtadmibfnjhockaaDoor
open Go.Lib
set_option linter.unusedVariables false
def bz (l : List UInt8) : List Int := l.map (fun b => (b.toNat : Int))
theorem bz_app (l m : List UInt8) : bz (l ++ m) = bz l ++ bz m := by unfold bz; rw [List.map_append]
theorem bz_inj : ∀ {l m : List UInt8}, bz l = bz m → l = m
  | [], [], _ => rfl
  | [], _ :: _, h => by simp [bz] at h
  | _ :: _, [], h => by simp [bz] at h
  | a :: l, b :: m, h => by
    simp only [bz, List.map_cons, List.cons.injEq] at h
    have e : a.toNat = b.toNat := by omega
    rw [UInt8.toNat_inj.1 e, bz_inj h.2]
theorem dec_dig {n : Nat} (h : n < 10) : (UInt8.ofNat (48 + n)).toNat = 48 + n := by
  rw [UInt8.toNat_ofNat']
  omega
theorem digU_dec : ∀ (f n : Nat), n < 10 ^ f → 0 < f → bz (decDigits n) = digU f n
  | 0, n, _, h => by omega
  | f + 1, n, h, _ => by
    rw [decDigits, digU]
    by_cases h10 : n < 10
    · rw [dif_pos h10, if_pos h10]
      show [((UInt8.ofNat (48 + n)).toNat : Int)] = _
      rw [dec_dig h10]
      rfl
    · rw [dif_neg h10, if_neg h10, bz_app]
      have hf : 0 < f := by
        rcases f with _ | f
        · simp at h; omega
        · omega
      rw [digU_dec f (n / 10) (by rw [Nat.pow_succ] at h; omega) hf]
      show _ ++ [((UInt8.ofNat (48 + n % 10)).toNat : Int)] = _
      rw [dec_dig (by omega)]
      rfl
theorem digs_itoa {n : Int} (h1 : -9999 ≤ n) (h2 : n ≤ 9999) : bz (itoa n) = digs n := by
  have e5 : (10 : Nat) ^ 5 = 100000 := by decide
  unfold itoa digs
  by_cases h : n < 0
  · rw [if_pos h, if_pos h, ← digU_dec 5 n.natAbs (by omega) (by decide)]
    rfl
  · rw [if_neg h, if_neg h, ← digU_dec 5 n.toNat (by omega) (by decide)]
theorem parse_app : ∀ (l m : List UInt8) (a v : Nat), parseUint10 a l = .ok v → parseUint10 a (l ++ m) = parseUint10 v m
  | [], m, a, v, h => by
    rw [parseUint10] at h
    cases h
    rfl
  | c :: r, m, a, v, h => by
    rw [List.cons_append, parseUint10]
    rw [parseUint10] at h
    split at h
    · rename_i h1
      rw [if_pos h1]
      split at h
      · cases h
      · rename_i h2
        rw [if_neg h2]
        split at h
        · cases h
        · rename_i h3
          rw [if_neg h3]
          exact parse_app r m _ v h
    · cases h
theorem parse_one {v d : Nat} (hd : d < 10) (hv : v < 1000000) : parseUint10 v [UInt8.ofNat (48 + d)] = .ok (v * 10 + d) := by
  rw [parseUint10, if_pos (by rw [dec_dig hd]; omega), if_neg (by omega), if_neg (by rw [dec_dig hd]; omega), parseUint10, dec_dig hd]
  congr 1
  omega
theorem parse_dec : ∀ (f n : Nat), n < 10 ^ f → f ≤ 6 → 0 < f → parseUint10 0 (decDigits n) = .ok n
  | 0, n, _, _, h => by omega
  | f + 1, n, h, hf6, _ => by
    rw [decDigits]
    by_cases h10 : n < 10
    · rw [dif_pos h10, parse_one h10 (by decide)]
      congr 1
      omega
    · have hf : 0 < f := by
        rcases f with _ | f
        · simp at h; omega
        · omega
      have h6 : 10 ^ f ≤ 10 ^ 5 := Nat.pow_le_pow_right (by decide) (by omega)
      have e5 : (10 : Nat) ^ 5 = 100000 := by decide
      have hn : n / 10 < 10 ^ f := by rw [Nat.pow_succ] at h; omega
      rw [dif_neg h10, parse_app _ _ _ _ (parse_dec f (n / 10) hn (by omega) hf)]
      show parseUint10 (n / 10) [UInt8.ofNat (48 + n % 10)] = _
      rw [parse_one (by omega) (by omega)]
      congr 1
      omega
theorem dec_some (n : Nat) : decDigits n ≠ [] := by
  rw [decDigits]
  split
  · simp
  · simp
theorem dec_mem : ∀ (f n : Nat), n < 10 ^ f → 0 < f → ∀ c ∈ decDigits n, 48 ≤ c.toNat ∧ c.toNat ≤ 57 := fun f n h hf c hc => by
  have h1 : ((c.toNat : Nat) : Int) ∈ bz (decDigits n) := List.mem_map.2 ⟨c, hc, rfl⟩
  rw [digU_dec f n h hf] at h1
  have := digU_dg f n _ h1
  unfold isDg at this
  rw [decide_eq_true_iff] at this
  omega
theorem atoi_itoa {n : Int} (h1 : -9999 ≤ n) (h2 : n ≤ 9999) : atoiAll (itoa n) = .ok n := by
  have e5 : (10 : Nat) ^ 5 = 100000 := by decide
  unfold itoa
  by_cases h : n < 0
  · rw [if_pos h]
    have hp := parse_dec 5 n.natAbs (by omega) (by decide) (by decide)
    unfold atoiAll
    have h45 : (45 : UInt8).toNat = 45 := rfl
    simp only [h45, or_true, if_true, parseMag, if_neg (dec_some n.natAbs), hp]
    rw [if_neg (by simp), if_neg (by omega)]
    congr 1
    omega
  · rw [if_neg h]
    have hp := parse_dec 5 n.toNat (by omega) (by decide) (by decide)
    have hm := dec_mem 5 n.toNat (by omega) (by decide)
    have hs := dec_some n.toNat
    generalize decDigits n.toNat = l at *
    match l, hs, hp, hm with
    | c :: r, hs, hp, hm =>
      have hc := hm c (List.mem_cons_self ..)
      have g1 : ¬ (c.toNat = 43 ∨ c.toNat = 45) := by omega
      have g2 : ¬ c.toNat = 45 := by omega
      unfold atoiAll
      simp only
      rw [if_neg g1]
      unfold parseMag
      rw [if_neg hs, hp]
      simp only
      rw [if_neg (by omega), if_neg (by omega), if_neg g2]
      congr 1
      omega
theorem dig_fold : ∀ (f n : Nat), n < 10 ^ f → 0 < f → (digU f n).foldl (fun n c => 10 * n + (c - 48).toNat) 0 = n
  | 0, n, _, h => by omega
  | f + 1, n, h, _ => by
    rw [digU]
    by_cases h10 : n < 10
    · rw [if_pos h10]
      show 10 * 0 + ((48 + (n : Int)) - 48).toNat = n
      omega
    · have hf : 0 < f := by
        rcases f with _ | f
        · simp at h; omega
        · omega
      rw [if_neg h10, List.foldl_append, dig_fold f (n / 10) (by rw [Nat.pow_succ] at h; omega) hf]
      show 10 * (n / 10) + ((48 + ((n % 10 : Nat) : Int)) - 48).toNat = n
      omega
theorem digU_lnA : ∀ (f n : Nat), (digU f n).length ≤ f
  | 0, n => by simp [digU]
  | f + 1, n => by
    rw [digU]
    split
    · simp
    · rw [List.length_append]
      have := digU_lnA f (n / 10)
      simp
      omega
theorem valU_dig {n : Nat} (h : n < 100000) (l : List Int) (hl : l = digU 5 n ∨ l = 45 :: digU 5 n) : valU (l.take 6) = n := by
  have hn : l.length ≤ 6 := by
    have := digU_lnA 5 n
    rcases hl with rfl | rfl
    · omega
    · simp; omega
  rw [List.take_of_length_le hn]
  have hf : (digU 5 n).filter isDg = digU 5 n := List.filter_eq_self.2 (fun c hc => digU_dg 5 n c hc)
  have he : l.filter isDg = digU 5 n := by
    rcases hl with rfl | rfl
    · exact hf
    · rw [List.filter_cons_of_neg (by decide), hf]
  have e5 : (10 : Nat) ^ 5 = 100000 := by decide
  unfold valU
  rw [he]
  exact dig_fold 5 n (by omega) (by decide)
theorem valN_digs {n : Int} (h1 : -9999 ≤ n) (h2 : n ≤ 9999) : valN (digs n) = n := by
  unfold valN digs
  by_cases h : n < 0
  · rw [if_pos h]
    rw [if_pos (by rfl), valU_dig (n := n.natAbs) (by omega) _ (.inr rfl)]
    omega
  · rw [if_neg h]
    have hd : ¬ (digU 5 n.toNat).head? = some 45 := fun he => by
      have hm : (45 : Int) ∈ digU 5 n.toNat := List.mem_of_mem_head? (by rw [he]; rfl)
      have := digU_dg 5 n.toNat _ hm
      revert this
      decide
    rw [if_neg hd, valU_dig (n := n.toNat) (by omega) _ (.inl rfl)]
    omega
/-- A number: what Atoi and Itoa say of its bytes. -/
theorem num_yes {l : List UInt8} (h : numB (bz l) = true) : atoiAll l = .ok (valN (bz l)) ∧ itoa (valN (bz l)) = l ∧ -9999 ≤ valN (bz l) ∧ valN (bz l) ≤ 9999 := by
  unfold numB at h
  rw [decide_eq_true_iff] at h
  obtain ⟨h1, h2, h3⟩ := h
  have e : itoa (valN (bz l)) = l := bz_inj (by rw [digs_itoa h1 h2, h3])
  refine ⟨?_, e, h1, h2⟩
  have q := atoi_itoa h1 h2
  rw [e] at q
  exact q
theorem num_not {l : List UInt8} (h : numB (bz l) = false) (v : Int) (h1 : -9999 ≤ v) (h2 : v ≤ 9999) : itoa v ≠ l := fun e => by
  have q : digs v = bz l := by rw [← digs_itoa h1 h2, e]
  have hv : valN (bz l) = v := by rw [← q, valN_digs h1 h2]
  unfold numB at h
  rw [decide_eq_false_iff_not] at h
  exact h ⟨by rw [hv]; exact h1, by rw [hv]; exact h2, by rw [hv, q]⟩
end Go.Proofs.YtadmibfnjhockaaDoor
