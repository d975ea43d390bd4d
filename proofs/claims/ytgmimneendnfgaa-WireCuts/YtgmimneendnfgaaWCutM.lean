/- A record is got, whatever stands behind; of any beginning of it, it is told that it ends within. -/
import Derived.Test.YtgmimneendnfgaaWEq
namespace Go.Proofs.Ytgmimneendnfgaa
set_option linter.unusedVariables false

theorem nb3 {s : Int} (h : s ≤ 65536) : nb s ≤ 3 := by
  unfold nb
  repeat' split
  all_goals omega
theorem getSize_num {r : List Int} (hr : By r) {s : Int} {m : Nat} (h : getNum r = some (s, m)) (hs : s ≤ 65536) : getSize r = (s, m, 0) := by
  obtain ⟨g0, g1, g2, g3, g4, g5, g6⟩ := getNum_some hr h
  rcases r with _ | ⟨c, q⟩
  · cases h
  · have hc := hr.head
    rw [getNum_cons] at h
    split at h
    · cases h
    · rename_i hn
      simp only [Option.some.injEq, Prod.mk.injEq] at h
      obtain ⟨rfl, rfl⟩ := h
      have h3 := nb3 hs
      have hz : nz (q.take c.toNat) := by
        rcases Decidable.em (nz (q.take c.toNat)) with hz | hz
        · exact hz
        · exact absurd (.inr (.inr hz)) hn
      have h0 : c.toNat - q.length = 0 := by omega
      show (if 3 < c ∨ ¬ nz (q.take c.toNat) ∨ 65536 < val (q.take c.toNat) * 256 ^ (c.toNat - q.length) then (0, 0, 2) else if q.length < c.toNat then (0, 0, 3) else (val (q.take c.toNat), 1 + c.toNat, 0)) = _
      rw [h0, if_neg, if_neg (by omega), Nat.add_comm]
      rintro (hh | hh | hh)
      · omega
      · exact hh hz
      · rw [Int.pow_zero, Int.mul_one] at hh; omega
theorem getSize_part (s : Int) (h0 : 0 ≤ s) (hs : s ≤ 65536) (j : Nat) (hj : j < (num s).length) : getSize ((num s).take j) = (0, 0, 3) := by
  rcases j with _ | j
  · rfl
  · rw [num_len] at hj
    have h3 := nb3 hs
    have hl := be_len (nb s) s
    have hv : val (be (nb s) s) = s := by rw [val_be]; exact Int.emod_eq_of_lt h0 (nb_hi s (by omega))
    have hz : nz (be (nb s) s) := nz_of_nb _ (be_by _ _) (by rw [hv, hl])
    have hq : ((be (nb s) s).take j).length = j := by rw [List.length_take]; omega
    have htk : ((be (nb s) s).take j).take (nb s) = (be (nb s) s).take j := List.take_of_length_le (by omega)
    have hnz : nz ((be (nb s) s).take j) := by
      rcases j with _ | j
      · exact (by decide : (1 : Int) ≠ 0)
      · rcases hbe : be (nb s) s with _ | ⟨d, e⟩
        · rw [hbe] at hl; simp at hl; omega
        · rw [hbe] at hz; exact hz
    have hval : val ((be (nb s) s).take j) * 256 ^ (nb s - j) ≤ s := by
      have e1 := val_append ((be (nb s) s).take j) ((be (nb s) s).drop j)
      rw [List.take_append_drop, hv, List.length_drop, hl] at e1
      have := (val_bd ((be (nb s) s).drop j) (By.drop (be_by _ _) j)).1
      omega
    have e : (num s).take (j + 1) = (nb s : Int) :: (be (nb s) s).take j := rfl
    rw [e]
    show (if 3 < (nb s : Int) ∨ ¬ nz (((be (nb s) s).take j).take (nb s : Int).toNat) ∨ 65536 < val (((be (nb s) s).take j).take (nb s : Int).toNat) * 256 ^ ((nb s : Int).toNat - ((be (nb s) s).take j).length) then (0, 0, 2) else if ((be (nb s) s).take j).length < (nb s : Int).toNat then (0, 0, 3) else (val (((be (nb s) s).take j).take (nb s : Int).toNat), 1 + (nb s : Int).toNat, 0)) = _
    rw [Int.toNat_natCast, htk, hq, if_neg, if_pos (by omega)]
    rintro (hh | hh | hh)
    · omega
    · exact hh hnz
    · omega

theorem record_len (k : Int) (t : List Int) : (record k t).length = 1 + (num t.length).length + t.length + 4 := by
  unfold record rhead text
  rw [List.length_append, be_len, List.length_cons, List.length_append]
  omega
theorem record_by {k : Int} {t : List Int} (h0 : 0 ≤ k) (h1 : k < 256) (h : By t) : By (record k t) := (rhead_by h0 h1 h).append (be_by _ _)
theorem record_cons (k : Int) (t : List Int) : record k t = k :: (num t.length ++ (t ++ be 4 (of [rhead k t]))) := by
  unfold record rhead text
  rw [List.cons_append, List.append_assoc]

theorem rec_got (k : Int) (t more : List Int) (h1 : 1 ≤ k) (h2 : k ≤ 200) (ht : t.length ≤ 65536) (hb : By t) (hm : By more) : getRecord (record k t ++ more) = (k, t, (record k t).length, 0) := by
  obtain ⟨S, hS⟩ : ∃ S, be 4 (of [rhead k t]) = S := ⟨_, rfl⟩
  have hSl : S.length = 4 := by rw [← hS, be_len]
  have hSb : By S := by rw [← hS]; exact be_by _ _
  have e : record k t ++ more = k :: (num t.length ++ (t ++ (S ++ more))) := by
    rw [record_cons, hS, List.cons_append, List.append_assoc, List.append_assoc]
  have hby : By (num t.length ++ (t ++ (S ++ more))) := (num_by _).append (hb.append (hSb.append hm))
  have hgs := getSize_num hby (getNum_num (t.length : Int) (by omega) (by omega) _) (by omega)
  have hl := record_len k t
  obtain ⟨N, hN⟩ : ∃ N, num (t.length : Int) = N := ⟨_, rfl⟩
  rw [hN] at hgs e hl
  have hT : (k :: (N ++ (t ++ (S ++ more)))) = (rhead k t) ++ (S ++ more) := by
    unfold rhead text
    rw [hN, List.cons_append, List.append_assoc]
  have hrl : (rhead k t).length = 1 + N.length + t.length := by
    unfold rhead text
    rw [hN, List.length_cons, List.length_append]; omega
  rw [e]
  show (if k < 1 ∨ 200 < k then _ else _) = _
  rw [if_neg (by omega), hgs]
  simp only [ne_eq, not_true_eq_false, if_false, Int.toNat_natCast]
  have hd : (rhead k t ++ (S ++ more)).drop (1 + N.length) = t ++ (S ++ more) := by
    have e2 : rhead k t ++ (S ++ more) = (k :: N) ++ (t ++ (S ++ more)) := by unfold rhead text; rw [hN, List.cons_append, List.append_assoc, List.cons_append]
    rw [e2]
    exact List.drop_left' (by rw [List.length_cons]; omega)
  rw [if_neg (by simp; omega), hT, hd, List.take_left, ← hrl, List.drop_left, List.take_left, List.take_left' hSl, hS, if_pos rfl, hl, hrl]

theorem rec_part (k : Int) (t : List Int) (at_ : Nat) (h1 : 1 ≤ k) (h2 : k ≤ 200) (ht : t.length ≤ 65536) (hb : By t) (ha : at_ < (record k t).length) : getRecord ((record k t).take at_) = (0, [], 0, 3) := by
  rcases at_ with _ | j
  · rfl
  · obtain ⟨S, hS⟩ : ∃ S, be 4 (of [rhead k t]) = S := ⟨_, rfl⟩
    have hSl : S.length = 4 := by rw [← hS, be_len]
    have hSb : By S := by rw [← hS]; exact be_by _ _
    rw [record_len] at ha
    have e : (record k t).take (j + 1) = k :: (num t.length ++ (t ++ S)).take j := by rw [record_cons, hS]; rfl
    rw [e]
    show (if k < 1 ∨ 200 < k then _ else _) = _
    rw [if_neg (by omega)]
    by_cases hj : j < (num t.length).length
    · have e2 : (num t.length ++ (t ++ S)).take j = (num t.length).take j := List.take_append_of_le_length (by omega)
      rw [e2, getSize_part _ (by omega) (by omega) j hj]
      rfl
    · have e2 : (num t.length ++ (t ++ S)).take j = num t.length ++ (t ++ S).take (j - (num t.length).length) := by
        rw [List.take_append, List.take_of_length_le (by omega)]
      rw [e2]
      have hgs := getSize_num ((num_by (t.length : Int)).append ((hb.append hSb).take (j - (num t.length).length))) (getNum_num (t.length : Int) (by omega) (by omega) _) (by omega)
      rw [hgs]
      simp only [ne_eq, not_true_eq_false, if_false, Int.toNat_natCast]
      rw [if_pos]
      simp only [List.length_cons, List.length_append, List.length_take]
      omega
end Go.Proofs.Ytgmimneendnfgaa
