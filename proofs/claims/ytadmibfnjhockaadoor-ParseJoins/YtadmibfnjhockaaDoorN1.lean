/- The words that are kept, and what is asked of tokens: the document's functions (layer 15). -/
import Derived.Test.YtadmibfnjhockaaDoorN2
import Derived.Test.YtadmibfnjhockaaDoorL8
namespace Go.Proofs.YtadmibfnjhockaaDoor
open Go.RowKit Go.Lib
set_option linter.unusedVariables false
def encSt (s : ByteArray) : List Value := [.string s]
theorem encSt_len (s : ByteArray) : (encSt s).length = 1 := rfl
theorem words15 (w : World) : Calls Tryd.prog 20 #[] w fun e w' => (∃ g c, e = .returned (.slice (some ⟨g, 0, none⟩) 17 c) ∧ RS encSt 1 w' (some ⟨g, 0, none⟩) 17 keptL) ∧ Below w.heap.size w w' := by
  have hb := bel1 w (.cells #[.string ⟨#[115, 101, 116]⟩, .string ⟨#[99, 111, 117, 110, 116]⟩, .string ⟨#[110, 111, 116, 101]⟩, .string ⟨#[114, 117, 108, 101]⟩, .string ⟨#[111, 112]⟩, .string ⟨#[115, 116, 114, 105, 99, 116]⟩, .string ⟨#[114, 101, 102]⟩, .string ⟨#[98, 111, 116, 104]⟩, .string ⟨#[108, 105, 109, 105, 116]⟩, .string ⟨#[109, 111, 115, 116]⟩, .string ⟨#[108, 101, 97, 115, 116]⟩, .string ⟨#[110, 101, 101, 100, 115]⟩, .string ⟨#[97, 100, 100]⟩, .string ⟨#[100, 114, 111, 112]⟩, .string ⟨#[117, 112]⟩, .string ⟨#[100, 111, 119, 110]⟩, .string ⟨#[112, 117, 116]⟩] 9)
  have hr : RS encSt 1 (w.alloc (.cells #[.string ⟨#[115, 101, 116]⟩, .string ⟨#[99, 111, 117, 110, 116]⟩, .string ⟨#[110, 111, 116, 101]⟩, .string ⟨#[114, 117, 108, 101]⟩, .string ⟨#[111, 112]⟩, .string ⟨#[115, 116, 114, 105, 99, 116]⟩, .string ⟨#[114, 101, 102]⟩, .string ⟨#[98, 111, 116, 104]⟩, .string ⟨#[108, 105, 109, 105, 116]⟩, .string ⟨#[109, 111, 115, 116]⟩, .string ⟨#[108, 101, 97, 115, 116]⟩, .string ⟨#[110, 101, 101, 100, 115]⟩, .string ⟨#[97, 100, 100]⟩, .string ⟨#[100, 114, 111, 112]⟩, .string ⟨#[117, 112]⟩, .string ⟨#[100, 111, 119, 110]⟩, .string ⟨#[112, 117, 116]⟩] 9)) (some ⟨w.heap.size, 0, none⟩) 17 keptL := RS.new encSt_len w _ rfl keptL _ rfl 9 (0, 0) 17 rfl (by decide)
  go_enter Tryd.func20, Tryd.ntmps20
  go_wp2
  go_ret
  exact ⟨⟨_, _, rfl, hr⟩, hb⟩
theorem kept_step {s : ByteArray} {i : Nat} {x : ByteArray} (hx : keptL[i]? = some x) (h : (keptL.take i).any (fun x => decide (x = s)) = false) : (x = s → keptB s = true) ∧ (x ≠ s → (keptL.take (i + 1)).any (fun x => decide (x = s)) = false) := by
  refine ⟨fun e => ?_, fun e => ?_⟩
  · unfold keptB
    rw [List.any_eq_true]
    exact ⟨x, List.mem_of_getElem? hx, by simpa using e⟩
  · rw [List.take_add_one, List.any_append, h, hx]
    simp [e]
set_option maxHeartbeats 2000000 in
theorem Kept15 (s : ByteArray) (w : World) : Calls Tryd.prog 11 #[.string s] w fun e w' => e = .returned (.bool (keptB s)) ∧ Below w.heap.size w w' := by
  have HW := hide (fun W => words15 W)
  go_enter Tryd.func11, Tryd.ntmps11
  go_upto_region 2 with (go_at_call 20; refine (HW.out _).mono ?_; rintro e w1 ⟨⟨g, c, rfl, hr⟩, hb⟩; have HR := hide hr; have HB := hide hb; clear hr hb)
  go_wp2
  go_loopw [4] (fun v wr => ∃ i : Nat, i ≤ 17 ∧ v = .int .i64 i ∧ Hid ((keptL.take i).any (fun x => decide (x = s)) = false) ∧ wr = w1) (fun v _ => 17 - (intOf v).toNat)
  case atStart => exact ⟨0, by omega, rfl, rfl, rfl⟩
  case round =>
    obtain ⟨i, hi, rfl, HF, hww⟩ := hrel
    have hww2 := hww.symm
    subst hww2
    clear hww
    by_cases hlt : i < 17
    · have hi0 : (0 : Int) ≤ (i : Int) := by omega
      have hi1 : (i : Int) < 17 := by omega
      have hx : keptL[i]? = some keptL[i] := List.getElem?_eq_getElem (show i < keptL.length from hlt)
      have hs := kept_step (s := s) hx HF.out
      have c0 := (HR.out).cells i (.string keptL[i]) (by rw [show keptL.flatMap encSt = keptL.map (fun x => Value.string x) from rfl, List.getElem?_map, hx]; rfl) encSt_len (by decide)
      rw [Nat.zero_add] at c0
      generalize keptL[i] = x at c0 hs hx
      have hq := eqK x s
      clear hx
      by_cases he : x = s
      · have HK := hide (hs.1 he)
        subst he
        rw [decide_eq_true rfl] at hq
        clear hs
        go_wp2
        go_ret
        exact ⟨by rw [HK.out]; rfl, HB.out⟩
      · have HK := hide (hs.2 he)
        rw [decide_eq_false he] at hq
        clear hs he
        go_wp2
        go_roundw
        case rel => exact ⟨i + 1, by omega, by go_num, HK, by trivial⟩
        case measure => simp [intOf]; omega
    · obtain rfl : i = 17 := by omega
      have HK : Hid (keptB s = false) := HF.out
      go_wp2
      go_ret
      exact ⟨by rw [HK.out]; rfl, HB.out⟩
theorem Name15 (s : ByteArray) (w : World) (hs : s.size ≤ 10000) : Calls Tryd.prog 12 #[.string s] w fun e w' => e = .returned (.bool (nameB s)) ∧ Below w.heap.size w w' := by
  have HD := hide (fun W => Word14 s W hs)
  have HK := hide (fun W => Kept15 s W)
  have HB : Hid (Below w.heap.size w w) := Below.refl _ _
  have HN : Hid (nameB s = (wordB (bytesL s) && !keptB s)) := rfl
  generalize wordB (bytesL s) = wb at HD HN
  generalize keptB s = kb at HK HN
  rw [HN.out]
  clear HN
  cases wb
  all_goals (go_enter Tryd.func12, Tryd.ntmps12; go_wp2_with (first | (go_at_call 21; refine (HD.out _).mono ?_; rintro e w1 ⟨rfl, hw9⟩; have hw8 := hw9.symm; subst hw8; clear hw9) | (go_at_call 11; refine (HK.out _).mono ?_; rintro e w2 ⟨rfl, hb⟩; replace HB := hide (bel_next HB.out hb); clear hb)); go_ret; exact ⟨by first | rfl | simp, HB.out⟩)
set_option maxHeartbeats 2000000 in
theorem is15 (a : Option Addr) (n cap : Nat) (l : List Tk) (i : Nat) (k : Int) (w : World) (hA : KS w a n l) (hi : i ≤ 100000) : Calls Tryd.prog 18 #[.slice a n cap, .int .i64 i, .int .i64 k, .string ⟨#[]⟩] w fun e w' => e = .returned (.bool (isU l i k)) ∧ w' = w := by
  have HA := hide hA
  have hln : l.length = n := hA.1
  clear hA
  by_cases hlt : i < n
  · obtain ⟨b, off, rfl⟩ := HA.out.addr (by omega)
    obtain ⟨kd, tx, nn, ln, hx, c0, c1, _, _⟩ := HA.out.at i hlt
    rw [isU_at hx]
    have hi0 : (0 : Int) ≤ (i : Int) := by omega
    have hi1 : (i : Int) < (n : Int) := by omega
    clear hx hln
    by_cases he : kd = k
    · subst he
      rw [decide_eq_true rfl]
      go_enter Tryd.func18, Tryd.ntmps18
      go_wp2
      go_ret
      exact ⟨rfl, rfl⟩
    · rw [decide_eq_false he]
      have hq : (kd == k) = false := by simpa using he
      go_enter Tryd.func18, Tryd.ntmps18
      go_wp2
      go_ret
      exact ⟨rfl, rfl⟩
  · rw [isU_far (by omega)]
    have hi1 : ¬ (i : Int) < (n : Int) := by omega
    clear hln
    go_enter Tryd.func18, Tryd.ntmps18
    go_wp2
    go_ret
    exact ⟨rfl, rfl⟩
theorem is_at {w : World} {a : Option Addr} {n : Nat} {l : List Tk} (hA : KS w a n l) {i : Nat} (h : isU l i 1 = true) : ∃ b off, a = some ⟨b, off, none⟩ ∧ i < n ∧ w.cell? ⟨b, off + i * 4 + 1, none⟩ = some (.string (txtU l i)) := by
  by_cases hlt : i < n
  · obtain ⟨b, off, rfl⟩ := hA.addr (by omega)
    obtain ⟨kd, tx, nn, ln, hx, _, c1, _, _⟩ := hA.at i hlt
    rw [isU_at hx] at h
    have hk : kd = 1 := by simpa using h
    rw [txtU_at hx, if_pos hk]
    exact ⟨b, off, rfl, hlt, c1⟩
  · rw [isU_far (by rw [hA.1]; omega)] at h
    cases h
set_option maxHeartbeats 2000000 in
theorem text15 (a : Option Addr) (n cap : Nat) (l : List Tk) (i : Nat) (w : World) (hA : KS w a n l) (hi : i ≤ 100000) : Calls Tryd.prog 28 #[.slice a n cap, .int .i64 i] w fun e w' => e = .returned (.string (txtU l i)) ∧ w' = w := by
  have HK := hide hA
  have HIS := hide (fun W h => is15 a n cap l i 1 W h hi)
  rcases h : isU l i 1 with _ | _
  · rw [h] at HIS
    rw [txtU_far h]
    clear h hA
    go_enter Tryd.func28, Tryd.ntmps28
    go_wp2_with (go_at_call 18; refine (HIS.out _ HK.out).mono ?_; rintro e wi ⟨rfl, hw9⟩; have hw8 := hw9.symm; subst hw8; clear hw9)
    go_ret
    exact ⟨rfl, rfl⟩
  · rw [h] at HIS
    obtain ⟨b, off, rfl, hlt, c1⟩ := is_at hA h
    have hi0 : (0 : Int) ≤ (i : Int) := by omega
    have hi1 : (i : Int) < (n : Int) := by omega
    generalize txtU l i = tx at *
    clear h hA
    go_enter Tryd.func28, Tryd.ntmps28
    go_wp2_with (go_at_call 18; refine (HIS.out _ HK.out).mono ?_; rintro e wi ⟨rfl, hw9⟩; have hw8 := hw9.symm; subst hw8; clear hw9)
    go_ret
    exact ⟨rfl, rfl⟩
set_option maxHeartbeats 2000000 in
theorem name15 (a : Option Addr) (n cap : Nat) (l : List Tk) (i : Nat) (w : World) (hA : KS w a n l) (hi : i ≤ 100000) : Calls Tryd.prog 29 #[.slice a n cap, .int .i64 i] w fun e w' => e = .returned (.bool (namU l i)) ∧ Below w.heap.size w w' := by
  have HK := hide hA
  have HIS := hide (fun W h => is15 a n cap l i 1 W h hi)
  rw [namU_is]
  rcases h : isU l i 1 with _ | _
  · rw [h] at HIS
    clear h hA
    go_enter Tryd.func29, Tryd.ntmps29
    go_wp2_with (go_at_call 18; refine (HIS.out _ HK.out).mono ?_; rintro e wi ⟨rfl, hw9⟩; have hw8 := hw9.symm; subst hw8; clear hw9)
    go_ret
    exact ⟨rfl, Below.refl _ _⟩
  · rw [h] at HIS
    obtain ⟨b, off, rfl, hlt, c1⟩ := is_at hA h
    have hi0 : (0 : Int) ≤ (i : Int) := by omega
    have hi1 : (i : Int) < (n : Int) := by omega
    have HKE := hide (fun W => Kept15 (txtU l i) W)
    generalize keptB (txtU l i) = kb at HKE ⊢
    generalize txtU l i = tx at *
    clear h hA
    go_enter Tryd.func29, Tryd.ntmps29
    go_wp2_with (first | (go_at_call 18; refine (HIS.out _ HK.out).mono ?_; rintro e wi ⟨rfl, hw9⟩; have hw8 := hw9.symm; subst hw8; clear hw9) | (go_at_call 11; refine (HKE.out _).mono ?_; rintro e w2 ⟨rfl, hb⟩; have HB := hide hb; clear hb))
    go_ret
    exact ⟨by first | rfl | simp, HB.out⟩
set_option maxHeartbeats 2000000 in
theorem rule15 (s : ByteArray) (w : World) : Calls Tryd.prog 31 #[.string s] w fun e w' => e = .returned (.tuple #[.int .i64 (ruleU s).1, .string (strOfNums (ruleU s).2)]) ∧ w' = w := by
  unfold ruleU
  have q0 : (s.toList == [114, 101, 102]) = decide (s = ⟨#[114, 101, 102]⟩) := by
    have q := eqK s ⟨#[114, 101, 102]⟩
    rw [ByteArray.toList_eq ⟨#[114, 101, 102]⟩] at q
    exact q
  by_cases h0 : s = ⟨#[114, 101, 102]⟩
  · rw [if_pos h0]
    rw [decide_eq_true h0] at q0
    clear h0
    go_enter Tryd.func31, Tryd.ntmps31
    go_wp2
    go_ret2
    exact ⟨rfl, rfl⟩
  rw [decide_eq_false h0] at q0
  have q1 : (s.toList == [98, 111, 116, 104]) = decide (s = ⟨#[98, 111, 116, 104]⟩) := by
    have q := eqK s ⟨#[98, 111, 116, 104]⟩
    rw [ByteArray.toList_eq ⟨#[98, 111, 116, 104]⟩] at q
    exact q
  by_cases h1 : s = ⟨#[98, 111, 116, 104]⟩
  · rw [if_neg h0, if_pos h1]
    rw [decide_eq_true h1] at q1
    clear h0 h1
    go_enter Tryd.func31, Tryd.ntmps31
    go_wp2
    go_ret2
    exact ⟨rfl, rfl⟩
  rw [decide_eq_false h1] at q1
  have q2 : (s.toList == [110, 101, 101, 100, 115]) = decide (s = ⟨#[110, 101, 101, 100, 115]⟩) := by
    have q := eqK s ⟨#[110, 101, 101, 100, 115]⟩
    rw [ByteArray.toList_eq ⟨#[110, 101, 101, 100, 115]⟩] at q
    exact q
  by_cases h2 : s = ⟨#[110, 101, 101, 100, 115]⟩
  · rw [if_neg h0, if_neg h1, if_pos h2]
    rw [decide_eq_true h2] at q2
    clear h0 h1 h2
    go_enter Tryd.func31, Tryd.ntmps31
    go_wp2
    go_ret2
    exact ⟨rfl, rfl⟩
  rw [decide_eq_false h2] at q2
  have q3 : (s.toList == [108, 105, 109, 105, 116]) = decide (s = ⟨#[108, 105, 109, 105, 116]⟩) := by
    have q := eqK s ⟨#[108, 105, 109, 105, 116]⟩
    rw [ByteArray.toList_eq ⟨#[108, 105, 109, 105, 116]⟩] at q
    exact q
  by_cases h3 : s = ⟨#[108, 105, 109, 105, 116]⟩
  · rw [if_neg h0, if_neg h1, if_neg h2, if_pos h3]
    rw [decide_eq_true h3] at q3
    clear h0 h1 h2 h3
    go_enter Tryd.func31, Tryd.ntmps31
    go_wp2
    go_ret2
    exact ⟨rfl, rfl⟩
  rw [decide_eq_false h3] at q3
  have q4 : (s.toList == [109, 111, 115, 116]) = decide (s = ⟨#[109, 111, 115, 116]⟩) := by
    have q := eqK s ⟨#[109, 111, 115, 116]⟩
    rw [ByteArray.toList_eq ⟨#[109, 111, 115, 116]⟩] at q
    exact q
  by_cases h4 : s = ⟨#[109, 111, 115, 116]⟩
  · rw [if_neg h0, if_neg h1, if_neg h2, if_neg h3, if_pos h4]
    rw [decide_eq_true h4] at q4
    clear h0 h1 h2 h3 h4
    go_enter Tryd.func31, Tryd.ntmps31
    go_wp2
    go_ret2
    exact ⟨rfl, rfl⟩
  rw [decide_eq_false h4] at q4
  have q5 : (s.toList == [108, 101, 97, 115, 116]) = decide (s = ⟨#[108, 101, 97, 115, 116]⟩) := by
    have q := eqK s ⟨#[108, 101, 97, 115, 116]⟩
    rw [ByteArray.toList_eq ⟨#[108, 101, 97, 115, 116]⟩] at q
    exact q
  by_cases h5 : s = ⟨#[108, 101, 97, 115, 116]⟩
  · rw [if_neg h0, if_neg h1, if_neg h2, if_neg h3, if_neg h4, if_pos h5]
    rw [decide_eq_true h5] at q5
    clear h0 h1 h2 h3 h4 h5
    go_enter Tryd.func31, Tryd.ntmps31
    go_wp2
    go_ret2
    exact ⟨rfl, rfl⟩
  rw [decide_eq_false h5] at q5
  rw [if_neg h0, if_neg h1, if_neg h2, if_neg h3, if_neg h4, if_neg h5]
  clear h0 h1 h2 h3 h4 h5
  go_enter Tryd.func31, Tryd.ntmps31
  go_wp2
  go_ret2
  exact ⟨rfl, rfl⟩
set_option maxHeartbeats 2000000 in
theorem deed15 (s : ByteArray) (w : World) : Calls Tryd.prog 39 #[.string s] w fun e w' => e = .returned (.tuple #[.int .i64 (deedU s).1, .string (strOfNums (deedU s).2)]) ∧ w' = w := by
  unfold deedU
  have q0 : (s.toList == [97, 100, 100]) = decide (s = ⟨#[97, 100, 100]⟩) := by
    have q := eqK s ⟨#[97, 100, 100]⟩
    rw [ByteArray.toList_eq ⟨#[97, 100, 100]⟩] at q
    exact q
  by_cases h0 : s = ⟨#[97, 100, 100]⟩
  · rw [if_pos h0]
    rw [decide_eq_true h0] at q0
    clear h0
    go_enter Tryd.func39, Tryd.ntmps39
    go_wp2
    go_ret2
    exact ⟨rfl, rfl⟩
  rw [decide_eq_false h0] at q0
  have q1 : (s.toList == [100, 114, 111, 112]) = decide (s = ⟨#[100, 114, 111, 112]⟩) := by
    have q := eqK s ⟨#[100, 114, 111, 112]⟩
    rw [ByteArray.toList_eq ⟨#[100, 114, 111, 112]⟩] at q
    exact q
  by_cases h1 : s = ⟨#[100, 114, 111, 112]⟩
  · rw [if_neg h0, if_pos h1]
    rw [decide_eq_true h1] at q1
    clear h0 h1
    go_enter Tryd.func39, Tryd.ntmps39
    go_wp2
    go_ret2
    exact ⟨rfl, rfl⟩
  rw [decide_eq_false h1] at q1
  have q2 : (s.toList == [112, 117, 116]) = decide (s = ⟨#[112, 117, 116]⟩) := by
    have q := eqK s ⟨#[112, 117, 116]⟩
    rw [ByteArray.toList_eq ⟨#[112, 117, 116]⟩] at q
    exact q
  by_cases h2 : s = ⟨#[112, 117, 116]⟩
  · rw [if_neg h0, if_neg h1, if_pos h2]
    rw [decide_eq_true h2] at q2
    clear h0 h1 h2
    go_enter Tryd.func39, Tryd.ntmps39
    go_wp2
    go_ret2
    exact ⟨rfl, rfl⟩
  rw [decide_eq_false h2] at q2
  have q3 : (s.toList == [117, 112]) = decide (s = ⟨#[117, 112]⟩) := by
    have q := eqK s ⟨#[117, 112]⟩
    rw [ByteArray.toList_eq ⟨#[117, 112]⟩] at q
    exact q
  by_cases h3 : s = ⟨#[117, 112]⟩
  · rw [if_neg h0, if_neg h1, if_neg h2, if_pos h3]
    rw [decide_eq_true h3] at q3
    clear h0 h1 h2 h3
    go_enter Tryd.func39, Tryd.ntmps39
    go_wp2
    go_ret2
    exact ⟨rfl, rfl⟩
  rw [decide_eq_false h3] at q3
  have q4 : (s.toList == [100, 111, 119, 110]) = decide (s = ⟨#[100, 111, 119, 110]⟩) := by
    have q := eqK s ⟨#[100, 111, 119, 110]⟩
    rw [ByteArray.toList_eq ⟨#[100, 111, 119, 110]⟩] at q
    exact q
  by_cases h4 : s = ⟨#[100, 111, 119, 110]⟩
  · rw [if_neg h0, if_neg h1, if_neg h2, if_neg h3, if_pos h4]
    rw [decide_eq_true h4] at q4
    clear h0 h1 h2 h3 h4
    go_enter Tryd.func39, Tryd.ntmps39
    go_wp2
    go_ret2
    exact ⟨rfl, rfl⟩
  rw [decide_eq_false h4] at q4
  rw [if_neg h0, if_neg h1, if_neg h2, if_neg h3, if_neg h4]
  clear h0 h1 h2 h3 h4
  go_enter Tryd.func39, Tryd.ntmps39
  go_wp2
  go_ret2
  exact ⟨rfl, rfl⟩
theorem frm_go {l : List Tk} {i k : Nat} {cs : List Int} {c : Int} (hc : cs[k]? = some c) : frmU l (i + k) (cs.drop k) = if (if c = 110 then namU l (i + k) else isU l (i + k) 2) = true then frmU l (i + (k + 1)) (cs.drop (k + 1)) + 1 else 0 := by
  rw [drop_at hc, frmU]
  rfl
set_option maxHeartbeats 4000000 in
theorem names15 (a : Option Addr) (n cap : Nat) (l : List Tk) (i : Nat) (f : ByteArray) (w : World) (hA : KS w a n l) (hi : i ≤ 50000) (hf : f.size ≤ 10) (hc : ∀ c ∈ bytesL f, c = 110 ∨ c = 100) : Calls Tryd.prog 32 #[.slice a n cap, .int .i64 i, .string f] w fun e w' => e = .returned (.int .i64 (frmU l i (bytesL f))) ∧ Below w.heap.size w w' := by
  have HK0 := hide hA
  have HC := hide hc
  obtain ⟨m, hm⟩ : ∃ m, f.size = m := ⟨_, rfl⟩
  clear hA hc
  go_enter Tryd.func32, Tryd.ntmps32
  go_wp2
  go_loopw [7] (fun v wr => ∃ k : Nat, k ≤ m ∧ v = .int .i64 k ∧ Hid (frmU l i (bytesL f) = k + frmU l (i + k) ((bytesL f).drop k)) ∧ Hid (KS wr a n l) ∧ Hid (Below w.heap.size w wr)) (fun v _ => m - (intOf v).toNat)
  case atStart => exact ⟨0, by omega, rfl, (show _ = _ by simp), HK0, Below.refl _ _⟩
  case round =>
    obtain ⟨k, hk, rfl, HF, HK, HB⟩ := hrel
    by_cases hlt : k < m
    · have hk0 : (0 : Int) ≤ (k : Int) := by omega
      have hk1 : (k : Int) < (m : Int) := by omega
      have hat := bytesL_at (s := f) (i := k) (by rw [hm]; exact hlt)
      have hix : ∀ h : k < f.size, ((f[k]'h).toNat : Int) = byS f k := fun h => byS_is h
      have hcc := HC.out _ (List.mem_of_getElem? hat)
      have hg := frm_go (l := l) (i := i) hat
      have HNM := hide (fun W h => name15 a n cap l (i + k) W h (by omega))
      have HIS := hide (fun W h => is15 a n cap l (i + k) 2 W h (by omega))
      have hik : ((i + k : Nat) : Int) = (i : Int) + (k : Int) := by omega
      have hwr : IntKind.i64.wrap ((i : Int) + (k : Int)) = (i : Int) + (k : Int) := by rw [IntKind.wrap_i64]; omega
      rw [hik] at HNM HIS
      generalize byS f k = c at hat hix hcc hg
      rcases hcc with rfl | rfl
      · rw [if_pos rfl] at hg
        rcases hnm : namU l (i + k) with _ | _
        · rw [hnm, if_neg (by decide)] at hg
          rw [hnm] at HNM
          have HF1 := hide hg
          clear hg hat hnm HIS
          go_wp2_with (go_at_call 29; refine (HNM.out _ HK.out).mono ?_; rintro e wn ⟨rfl, hb⟩; replace HK := hide (HK.out.below hb); replace HB := hide (bel_next HB.out hb); clear hb)
          go_ret
          exact ⟨by rw [HF.out, HF1.out]; simp, HB.out⟩
        · rw [hnm, if_pos rfl] at hg
          rw [hnm] at HNM
          have HF1 : Hid (frmU l i (bytesL f) = (k + 1 : Nat) + frmU l (i + (k + 1)) ((bytesL f).drop (k + 1))) := by unfold Hid; rw [HF.out, hg]; omega
          clear hg hat hnm HIS
          go_wp2_with (go_at_call 29; refine (HNM.out _ HK.out).mono ?_; rintro e wn ⟨rfl, hb⟩; replace HK := hide (HK.out.below hb); replace HB := hide (bel_next HB.out hb); clear hb)
          go_roundw
          case rel => exact ⟨k + 1, by omega, by go_num, HF1, HK, HB⟩
          case measure => simp [intOf]; omega
      · rw [if_neg (show ¬ (100 : Int) = 110 by decide)] at hg
        rcases hnm : isU l (i + k) 2 with _ | _
        · rw [hnm, if_neg (by decide)] at hg
          rw [hnm] at HIS
          have HF1 := hide hg
          clear hg hat hnm HNM
          go_wp2_with (go_at_call 18; refine (HIS.out _ HK.out).mono ?_; rintro e wi ⟨rfl, hw9⟩; have hw8 := hw9.symm; subst hw8; clear hw9)
          go_ret
          exact ⟨by rw [HF.out, HF1.out]; simp, HB.out⟩
        · rw [hnm, if_pos rfl] at hg
          rw [hnm] at HIS
          have HF1 : Hid (frmU l i (bytesL f) = (k + 1 : Nat) + frmU l (i + (k + 1)) ((bytesL f).drop (k + 1))) := by unfold Hid; rw [HF.out, hg]; omega
          clear hg hat hnm HNM
          go_wp2_with (go_at_call 18; refine (HIS.out _ HK.out).mono ?_; rintro e wi ⟨rfl, hw9⟩; have hw8 := hw9.symm; subst hw8; clear hw9)
          go_roundw
          case rel => exact ⟨k + 1, by omega, by go_num, HF1, HK, HB⟩
          case measure => simp [intOf]; omega
    · obtain rfl : k = m := by omega
      have hk1 : ¬ (k : Int) < (k : Int) := by omega
      have HF1 : Hid (frmU l (i + k) ((bytesL f).drop k) = 0) := by
        unfold Hid
        rw [List.drop_eq_nil_of_le (by rw [bytesL_sz]; omega)]
        rfl
      go_wp2
      go_ret
      exact ⟨by rw [HF.out, HF1.out]; simp, HB.out⟩
end Go.Proofs.YtadmibfnjhockaaDoor
