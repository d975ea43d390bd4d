/- The document's 'within' and 'GetRecord' in plain numbers, and that they say what the program's say. -/
import Derived.Test.YtgmimneendnfgaaWCutM
import Derived.Test.YtgmimneendnfgaaWGetRec
namespace Go.Proofs.Ytgmimneendnfgaa
set_option linter.unusedVariables false

/-- The byte at 'i' of the number that 'within' tries. -/
def fl (q : List Int) (i : Nat) : Int := if i < q.length then q.getD i 0 else if i = 0 then 1 else 0
def fill (c : Nat) (q : List Int) : List Int := (List.range c).map (fl q)
theorem fill_len (c : Nat) (q : List Int) : (fill c q).length = c := by simp [fill]
theorem fill_at (c : Nat) (q : List Int) (i : Nat) (h : i < c) : (fill c q).getD i 0 = fl q i := by
  simp [fill, List.getD_eq_getElem?_getD, h]
theorem fl_by {q : List Int} (hq : By q) (i : Nat) : 0 ≤ fl q i ∧ fl q i < 256 := by
  unfold fl
  split
  · exact getD_byte hq i
  · split <;> omega
theorem fill_by {q : List Int} (hq : By q) (c : Nat) : By (fill c q) := fun n hn => by
  obtain ⟨i, _, rfl⟩ := List.mem_map.1 hn
  exact fl_by hq i
theorem fill_take (c : Nat) (q : List Int) (h : q.length ≤ c) : (fill c q).take q.length = q := by
  apply List.ext_getElem
  · rw [List.length_take, fill_len]; omega
  · intro i h1 h2
    simp [fill, fl, h2, List.getD_eq_getElem?_getD]
theorem val_zeros : ∀ l : List Int, (∀ n ∈ l, n = 0) → val l = 0
  | [], _ => rfl
  | a :: l, h => by
    rw [val_cons, h a (List.mem_cons_self ..), val_zeros l (fun n hn => h n (List.mem_cons_of_mem _ hn))]
    simp
theorem fill_val (c : Nat) (q : List Int) (h : q.length ≤ c) (hq : 0 < q.length) : val (fill c q) = val q * 256 ^ (c - q.length) := by
  have e1 := val_append ((fill c q).take q.length) ((fill c q).drop q.length)
  rw [List.take_append_drop, fill_take c q h, List.length_drop, fill_len] at e1
  rw [e1, val_zeros ((fill c q).drop q.length), Int.add_zero]
  intro n hn
  obtain ⟨i, hi, rfl⟩ := List.mem_iff_getElem.1 hn
  rw [List.length_drop, fill_len] at hi
  have e2 : (fill c q).getD (q.length + i) 0 = 0 := by
    rw [fill_at c q _ (by omega)]
    unfold fl
    rw [if_neg (by omega), if_neg (by omega)]
  rw [List.getElem_drop, ← e2, List.getD_eq_getElem?_getD, List.getElem?_eq_getElem (by rw [fill_len]; omega)]
  rfl
theorem fill_nz (c : Nat) (q : List Int) (h : q.length < c) : nz (fill c q) ↔ nz q := by
  rcases c with _ | c
  · omega
  · unfold nz fill
    rw [List.range_succ_eq_map, List.map_cons, List.headD_cons]
    unfold fl
    rcases q with _ | ⟨d, q⟩
    · simp
    · simp

def within : List Int → Bool
  | [] => true
  | c :: q => if 8 < c ∨ c.toNat < q.length + 1 then false else decide (val (fill c.toNat q) ≤ 65536 ∧ q.length + 1 ≤ (num (val (fill c.toNat q))).length ∧ (num (val (fill c.toNat q))).take (q.length + 1) = c :: q)

theorem within_iff (r : List Int) (hr : By r) : within r = true ↔ (getSize r).2.2 = 3 := by
  rcases r with _ | ⟨c, q⟩
  · simp [within, getSize]
  · have hc := hr.head
    obtain ⟨k, rfl⟩ := Int.eq_ofNat_of_zero_le hc.1
    have e : getSize ((k : Int) :: q) = if 3 < (k : Int) ∨ ¬ nz (q.take k) ∨ 65536 < val (q.take k) * 256 ^ (k - q.length) then (0, 0, 2) else if q.length < k then (0, 0, 3) else (val (q.take k), 1 + k, 0) := rfl
    have ew : within ((k : Int) :: q) = if 8 < (k : Int) ∨ k < q.length + 1 then false else decide (val (fill k q) ≤ 65536 ∧ q.length + 1 ≤ (num (val (fill k q))).length ∧ (num (val (fill k q))).take (q.length + 1) = (k : Int) :: q) := rfl
    rw [e, ew]
    by_cases hl : q.length < k
    · have htk : q.take k = q := List.take_of_length_le (by omega)
      rw [htk, if_pos hl]
      by_cases h8 : (8 : Int) < k
      · rw [if_pos (.inl h8), if_pos (.inl (by omega))]; simp
      · rw [if_neg (by omega), decide_eq_true_iff]
        have hfb := fill_by hr.tail k
        have hfl := fill_len k q
        have hz := fill_nz k q hl
        by_cases hn : nz q
        · have hn' := hz.2 hn
          have hnum := num_val (fill k q) hfb (by omega) hn'
          have hnb := nb_val (fill k q) hfb (by omega) hn'
          rw [hfl] at hnum hnb
          rw [hnum]
          have ht : ((k : Int) :: fill k q).take (q.length + 1) = (k : Int) :: q := by rw [List.take_succ_cons, fill_take k q (by omega)]
          have hlen : q.length + 1 ≤ ((k : Int) :: fill k q).length := by rw [List.length_cons, hfl]; omega
          have key : val (fill k q) ≤ 65536 ↔ k ≤ 3 ∧ val q * 256 ^ (k - q.length) ≤ 65536 := by
            rcases Nat.eq_zero_or_pos q.length with h0 | hp
            · obtain rfl : q = [] := List.eq_nil_of_length_eq_zero h0
              constructor
              · intro h; have := nb3 h; exact ⟨by omega, by simp [val]⟩
              · rintro ⟨h, _⟩
                have h3 : k = 1 ∨ k = 2 ∨ k = 3 := by simp at hl; omega
                rcases h3 with rfl | rfl | rfl <;> decide
            · rw [fill_val k q (by omega) hp] at hnb ⊢
              constructor
              · intro h; have := nb3 h; exact ⟨by omega, h⟩
              · exact fun h => h.2
          constructor
          · rintro ⟨h, _⟩
            have := key.1 h
            rw [if_neg]
            rintro (hh | hh | hh)
            · omega
            · exact hh hn
            · omega
          · intro h
            split at h
            · simp at h
            · rename_i hh
              refine ⟨key.2 ⟨?_, ?_⟩, hlen, ht⟩
              · exact Nat.le_of_not_lt fun h1 => hh (.inl (by omega))
              · exact Int.not_lt.1 fun h1 => hh (.inr (.inr h1))
        · constructor
          · rintro ⟨_, _, h⟩
            exfalso
            apply hn
            rw [← hz]
            refine nz_of_nb _ hfb ?_
            unfold num at h
            rw [List.take_succ_cons] at h
            have := (List.cons.inj h).1
            rw [hfl]; omega
          · rw [if_pos (.inr (.inl hn))]; simp
    · rw [if_pos (.inr (by omega)), if_neg hl]
      split <;> simp

theorem take_cut (l : List Int) (a b : Nat) : l.take (a + b) = l.take a ++ (l.drop a).take b := by
  rw [List.take_add]

/-- The record of what stands there is what stands there, just if the sum is right. -/
theorem rec_same (k : Int) (r : List Int) (hr : By r) (s m : Nat) (hg : getNum r = some ((s : Int), m)) (hl : 1 + m + s + 4 ≤ (k :: r).length) :
    (record k (((k :: r).drop (1 + m)).take s) = (k :: r).take (1 + m + s + 4)) ↔ ((k :: r).drop (1 + m + s)).take 4 = be 4 (of [(k :: r).take (1 + m + s)]) := by
  obtain ⟨g0, g1, g2, g3, g4, g5, g6⟩ := getNum_some hr hg
  have hbl : (((k :: r).drop (1 + m)).take s).length = s := by rw [List.length_take, List.length_drop]; omega
  have hh : rhead k (((k :: r).drop (1 + m)).take s) = (k :: r).take (1 + m + s) := by
    unfold rhead text
    rw [hbl, g5, take_cut (k :: r) (1 + m) s, Nat.add_comm 1 m, List.take_succ_cons, List.cons_append]
  unfold record
  rw [hh, take_cut (k :: r) (1 + m + s) 4]
  constructor
  · intro h; exact (List.append_cancel_left h).symm
  · intro h; rw [h]

/-- What the document's GetRecord goes by. -/
theorem rec_within {k : Int} {r : List Int} (hr : By r) (h1 : ¬ k < 1) (h2 : ¬ 200 < k) (h : within r = true) : getRecord (k :: r) = (0, [], 0, 3) := by
  have h3 := (within_iff r hr).1 h
  rw [rec_cons, if_neg (by omega), if_pos (by omega), h3]
theorem rec_none {k : Int} {r : List Int} (hr : By r) (h1 : ¬ k < 1) (h2 : ¬ 200 < k) (h : within r = false) (hg : getNum r = none) : getRecord (k :: r) = (0, [], 0, 2) := by
  have hne : (getSize r).2.2 ≠ 0 := fun h0 => by obtain ⟨s, m, _, _, _, _, _, h5⟩ := getSize_ok hr h0; rw [hg] at h5; cases h5
  rcases getSize_err hne with hs | hs
  · rw [rec_cons, if_neg (by omega), if_pos hne, hs]
  · have := (within_iff r hr).2 (by rw [hs]); rw [h] at this; cases this
theorem rec_big {k : Int} {r : List Int} (hr : By r) (h1 : ¬ k < 1) (h2 : ¬ 200 < k) (h : within r = false) {u : Int} {m : Nat} (hg : getNum r = some (u, m)) (hu : 65536 < u) : getRecord (k :: r) = (0, [], 0, 2) := by
  have hne : (getSize r).2.2 ≠ 0 := fun h0 => by
    obtain ⟨s, m, _, h6, _, _, _, h5⟩ := getSize_ok hr h0
    rw [hg] at h5
    simp only [Option.some.injEq, Prod.mk.injEq] at h5
    omega
  rcases getSize_err hne with hs | hs
  · rw [rec_cons, if_neg (by omega), if_pos hne, hs]
  · have := (within_iff r hr).2 (by rw [hs]); rw [h] at this; cases this
theorem rec_fits {k : Int} {r : List Int} (hr : By r) (h1 : ¬ k < 1) (h2 : ¬ 200 < k) {s m : Nat} (hg : getNum r = some ((s : Int), m)) (hu : s ≤ 65536) :
    getRecord (k :: r) = if (k :: r).length < 1 + m + s + 4 then (0, [], 0, 3) else if record k (((k :: r).drop (1 + m)).take s) = (k :: r).take (1 + m + s + 4) then (k, ((k :: r).drop (1 + m)).take s, 1 + m + s + 4, 0) else (0, [], 0, 2) := by
  have hs := getSize_num hr hg (by omega)
  rw [rec_cons, if_neg (by omega), hs]
  simp only [ne_eq, not_true_eq_false, if_false, Int.toNat_natCast]
  by_cases hl : (k :: r).length < 1 + m + s + 4
  · rw [if_pos hl, if_pos hl]
  · rw [if_neg hl, if_neg hl]
    have := rec_same k r hr s m hg (by omega)
    by_cases hd : ((k :: r).drop (1 + m + s)).take 4 = be 4 (of [(k :: r).take (1 + m + s)])
    · rw [if_pos hd, if_pos (this.2 hd)]
    · rw [if_neg hd, if_neg (fun hh => hd (this.1 hh))]
end Go.Proofs.Ytgmimneendnfgaa
