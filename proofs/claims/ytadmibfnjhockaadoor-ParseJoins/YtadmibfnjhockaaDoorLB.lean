/- The program's letters, digits and Word; what a rune of a text is (layer 14). -/
import Derived.Test.YtadmibfnjhockaaDoorL6
import Derived.Laws.RangeAny
import Derived.Lib.OthersKept
namespace Go.Proofs.YtadmibfnjhockaaDoor
open Go.RowKit Go.Lib
set_option linter.unusedVariables false
theorem isLetter14 (c : Int) (w : World) : Calls Tryd.prog 47 #[.int .i32 c] w fun e w' => e = .returned (.bool (isLt c)) ∧ w' = w := by
  unfold isLt
  by_cases h1 : 97 ≤ c
  · by_cases h2 : c ≤ 122
    · go_enter Tryd.func47, Tryd.ntmps47
      go_wp2
      go_ret
      exact ⟨by rw [decide_eq_true ⟨h1, h2⟩]; rfl, rfl⟩
    · go_enter Tryd.func47, Tryd.ntmps47
      go_wp2
      go_ret
      exact ⟨by rw [decide_eq_false (by omega)]; rfl, rfl⟩
  · go_enter Tryd.func47, Tryd.ntmps47
    go_wp2
    go_ret
    exact ⟨by rw [decide_eq_false (by omega)]; rfl, rfl⟩
theorem isDigit14 (c : Int) (w : World) : Calls Tryd.prog 48 #[.int .i32 c] w fun e w' => e = .returned (.bool (isDg c)) ∧ w' = w := by
  unfold isDg
  by_cases h1 : 48 ≤ c
  · by_cases h2 : c ≤ 57
    · go_enter Tryd.func48, Tryd.ntmps48
      go_wp2
      go_ret
      exact ⟨by rw [decide_eq_true ⟨h1, h2⟩]; rfl, rfl⟩
    · go_enter Tryd.func48, Tryd.ntmps48
      go_wp2
      go_ret
      exact ⟨by rw [decide_eq_false (by omega)]; rfl, rfl⟩
  · go_enter Tryd.func48, Tryd.ntmps48
    go_wp2
    go_ret
    exact ⟨by rw [decide_eq_false (by omega)]; rfl, rfl⟩
theorem isPart14 (c : Int) (w : World) : Calls Tryd.prog 40 #[.int .i32 c] w fun e w' => e = .returned (.bool (isWd c)) ∧ w' = w := by
  have HL := hide (fun W => isLetter14 c W)
  have HD := hide (fun W => isDigit14 c W)
  rcases hl : isLt c with _ | _
  · rw [hl] at HL
    rcases hd : isDg c with _ | _
    · rw [hd] at HD
      by_cases h45 : c = 45
      · have HW : Hid (isWd c = true) := by unfold Hid isWd; rw [h45]; rfl
        have h46 : (c == 45) = true := by simpa using h45
        clear hl hd h45
        go_enter Tryd.func40, Tryd.ntmps40
        go_wp2_with (first
          | (go_at_call 47; refine (HL.out _).mono ?_; rintro e wl ⟨rfl, hw9⟩; have hw8 := hw9.symm; subst hw8; clear hw9)
          | (go_at_call 48; refine (HD.out _).mono ?_; rintro e wl ⟨rfl, hw9⟩; have hw8 := hw9.symm; subst hw8; clear hw9))
        go_ret
        exact ⟨by rw [HW.out]; rfl, rfl⟩
      · have HW : Hid (isWd c = false) := by unfold Hid isWd; rw [hl, hd, decide_eq_false h45]; rfl
        have h46 : (c == 45) = false := by simpa using h45
        clear hl hd h45
        go_enter Tryd.func40, Tryd.ntmps40
        go_wp2_with (first
          | (go_at_call 47; refine (HL.out _).mono ?_; rintro e wl ⟨rfl, hw9⟩; have hw8 := hw9.symm; subst hw8; clear hw9)
          | (go_at_call 48; refine (HD.out _).mono ?_; rintro e wl ⟨rfl, hw9⟩; have hw8 := hw9.symm; subst hw8; clear hw9))
        go_ret
        exact ⟨by rw [HW.out]; rfl, rfl⟩
    · rw [hd] at HD
      have HW : Hid (isWd c = true) := by unfold Hid isWd; rw [hl, hd]; rfl
      clear hl hd
      go_enter Tryd.func40, Tryd.ntmps40
      go_wp2_with (first
        | (go_at_call 47; refine (HL.out _).mono ?_; rintro e wl ⟨rfl, hw9⟩; have hw8 := hw9.symm; subst hw8; clear hw9)
        | (go_at_call 48; refine (HD.out _).mono ?_; rintro e wl ⟨rfl, hw9⟩; have hw8 := hw9.symm; subst hw8; clear hw9))
      go_ret
      exact ⟨by rw [HW.out]; rfl, rfl⟩
  · rw [hl] at HL
    have HW : Hid (isWd c = true) := by unfold Hid isWd; rw [hl]; rfl
    clear hl
    go_enter Tryd.func40, Tryd.ntmps40
    go_wp2_with (go_at_call 47; refine (HL.out _).mono ?_; rintro e wl ⟨rfl, hw9⟩; have hw8 := hw9.symm; subst hw8; clear hw9)
    go_ret
    exact ⟨by rw [HW.out]; rfl, rfl⟩
/-! A rune of a text -/
theorem get_byS {s : ByteArray} {i : Nat} (h : i < s.size) : ((s.get! i).toNat : Int) = byS s i := by
  have e := get_at s i h
  rw [Nat.add_zero] at e
  rw [e]
  exact byS_is h
theorem cont_128 {n : Nat} (h : n / 64 = 2) : 128 ≤ n := by omega
theorem decode_wide (s : ByteArray) (pos : Nat) (h : pos < s.size) (ha : 128 ≤ (s[pos]'h).toNat) : ∀ k, k < (Utf8.decode s pos).2 → pos + k < s.size ∧ 128 ≤ (s.get! (pos + k)).toNat := by
  have hn : ¬ (s[pos]'h).toNat < 128 := by omega
  have e0 := get_at s pos h
  have z : ∀ k, k < 1 → pos + k < s.size ∧ 128 ≤ (s.get! (pos + k)).toNat := fun k hk => by
    obtain rfl : k = 0 := by omega
    rw [e0]
    exact ⟨by omega, ha⟩
  simp only [Utf8.decode, e0, hn, if_false]
  split
  · rename_i h2
    simp only [Bool.and_eq_true, beq_iff_eq, decide_eq_true_eq] at h2
    split
    · intro k hk
      rcases k with _ | _ | k
      · exact z 0 (by decide)
      · exact ⟨h2.2.1, cont_128 h2.2.2⟩
      · exfalso; omega
    · exact z
  · split
    · rename_i h3
      simp only [Bool.and_eq_true, beq_iff_eq, decide_eq_true_eq] at h3
      split
      · intro k hk
        rcases k with _ | _ | _ | k
        · exact z 0 (by decide)
        · exact ⟨h3.1.2.1, cont_128 h3.1.2.2⟩
        · exact ⟨h3.2.1, cont_128 h3.2.2⟩
        · exfalso; omega
      · exact z
    · split
      · rename_i h4
        simp only [Bool.and_eq_true, beq_iff_eq, decide_eq_true_eq] at h4
        split
        · intro k hk
          rcases k with _ | _ | _ | _ | k
          · exact z 0 (by decide)
          · exact ⟨h4.1.1.2.1, cont_128 h4.1.1.2.2⟩
          · exact ⟨h4.1.2.1, cont_128 h4.1.2.2⟩
          · exact ⟨h4.2.1, cont_128 h4.2.2⟩
          · exfalso; omega
        · exact z
      · exact z
theorem rune14 (s : ByteArray) (i : Nat) (h : i < s.size) : (byS s i < 128 ∧ Utf8.decode s i = ((byS s i).toNat, 1)) ∨ (128 ≤ byS s i ∧ 128 ≤ (Utf8.decode s i).1 ∧ (Utf8.decode s i).1 ≤ 2147483647 ∧ 1 ≤ (Utf8.decode s i).2 ∧ ∀ k, k < (Utf8.decode s i).2 → i + k < s.size ∧ 128 ≤ byS s (i + k)) := by
  have hb := byS_is h
  by_cases h1 : (s[i]'h).toNat < 128
  · left
    refine ⟨by omega, ?_⟩
    rw [decode_ascii s i h h1]
    congr 1
    omega
  · right
    have h2 := decode_high s i h (by omega)
    refine ⟨by omega, h2.1, decode_le s i, h2.2, fun k hk => ?_⟩
    have q := decode_wide s i h (by omega) k hk
    refine ⟨q.1, ?_⟩
    rw [← get_byS q.1]
    omega
/-- Nothing that no line feed is among ends a remark. -/
theorem dropW_skip (l : List Int) (i : Nat) : ∀ k : Nat, (∀ j, j < k → ∃ c, l[i + j]? = some c ∧ c ≠ 10) → (l.drop i).dropWhile (fun x => decide (x ≠ 10)) = (l.drop (i + k)).dropWhile (fun x => decide (x ≠ 10))
  | 0, _ => rfl
  | k + 1, h => by
    rw [dropW_skip l i k (fun j hj => h j (by omega))]
    obtain ⟨c, hc, h10⟩ := h k (by omega)
    rw [dropW_go hc (by simpa using h10)]
    rfl
set_option maxHeartbeats 4000000 in
theorem WordP14 (s : ByteArray) (w : World) (hs : s.size ≤ 10000) : Calls Tryd.prog 49 #[.string s] w fun e w' => e = .returned (.bool (wordB (bytesL s))) ∧ Below w.heap.size w w' := by
  obtain ⟨n, hn⟩ : ∃ n, s.size = n := ⟨_, rfl⟩
  have HN := hide hn
  have hk0 : Hid ((w.iter s 0).heap[w.heap.size]? = some (.stringIter s 0)) := World.iter_heap w s 0
  have hb0 : Hid (Below w.heap.size w (w.iter s 0)) := (Below.refl _ w).alloc (Nat.le_refl _) _
  go_enter Tryd.func49, Tryd.ntmps49
  go_wp2
  go_loopw [3, 4] (fun _ _ wr => ∃ i : Nat, i ≤ n ∧ Hid (∀ (k : Nat) c, k < i → (bytesL s)[k]? = some c → okW14 k c = true) ∧ Hid (wr.heap[w.heap.size]? = some (.stringIter s i)) ∧ Hid (Below w.heap.size w wr)) (fun _ _ wr => n - wr.iterPos w.heap.size)
  case atStart => exact ⟨0, by omega, fun k c h => by omega, hk0, hb0⟩
  case round =>
    obtain ⟨i, hi, HF, HK, HB⟩ := hrel
    clear hk0 hb0
    have HMU : Hid (wr.iterPos w.heap.size = i) := by unfold Hid; simp [World.iterPos, HK.out]
    by_cases hlt : i < n
    · have hls : i < s.size := by rw [hn]; exact hlt
      have HAT := hide (bytesL_at hls)
      have hnext0 := fun ty => run_next_any_at (P := Tryd.prog) wr w.heap.size s i ty HK.out hls
      rcases rune14 s i hls with ⟨h1, h2⟩ | ⟨h1, h2, _, h4, _⟩
      · have hc : (((byS s i).toNat : Nat) : Int) = byS s i := by have := byS_bd s i; omega
        have hnext : ∀ ty, (Instr.next (.pointer (some ⟨w.heap.size, 0, none⟩)) true ty).run Tryd.prog wr = .ok (.tuple #[.bool true, .int .i64 i, .int .i32 (byS s i)]) (wr.iterAt w.heap.size s (i + 1)) := fun ty => by
          have q := hnext0 ty
          rw [h2] at q
          rw [q, ← hc]
          rfl
        have HK1 := hide (iterAt_heap wr w.heap.size s i (i + 1) HK.out)
        have HB1 := hide (below_iterAt HB.out (Nat.le_refl _) s (i + 1))
        generalize wr.iterAt w.heap.size s (i + 1) = W1 at hnext HK1 HB1
        clear hnext0 h1 h2 hc
        generalize byS s i = c at hnext HAT
        have step : okW14 i c = true → Hid (∀ (k : Nat) c, k < i + 1 → (bytesL s)[k]? = some c → okW14 k c = true) := fun h k x hk hx => by
          by_cases e : k = i
          · subst e
            rw [HAT.out] at hx
            cases hx
            exact h
          · exact HF.out k x (by omega) hx
        have HLQ := hide (fun W => isLetter14 c W)
        have HDQ := hide (fun W => isDigit14 c W)
        rcases hl : isLt c with _ | _
        · rw [hl] at HLQ
          rcases hd : isDg c with _ | _
          · rw [hd] at HDQ
            have HW := hide (word_far HAT.out (by unfold okW14; rw [hl, hd]; rfl))
            clear hl hd step HN hls
            by_cases h0 : i = 0
            · have h01 : ((i : Int) == 0) = true := by rw [h0]; rfl
              clear h0
              go_wp2_with (first | (go_at_call 47; refine (HLQ.out _).mono ?_; rintro e wl ⟨rfl, hw9⟩; have hw8 := hw9.symm; subst hw8; clear hw9))
              go_ret
              exact ⟨by rw [HW.out]; rfl, HB1.out⟩
            · have h01 : ((i : Int) == 0) = false := by simpa using h0
              clear h0
              go_wp2_with (first | (go_at_call 47; refine (HLQ.out _).mono ?_; rintro e wl ⟨rfl, hw9⟩; have hw8 := hw9.symm; subst hw8; clear hw9) | (go_at_call 48; refine (HDQ.out _).mono ?_; rintro e wl ⟨rfl, hw9⟩; have hw8 := hw9.symm; subst hw8; clear hw9))
              go_ret
              exact ⟨by rw [HW.out]; rfl, HB1.out⟩
          · rw [hd] at HDQ
            by_cases h0 : i = 0
            · have HW := hide (word_far HAT.out (by unfold okW14; rw [hl, h0]; simp))
              have h01 : ((i : Int) == 0) = true := by rw [h0]; rfl
              clear hl hd step h0 hls
              go_wp2_with (first | (go_at_call 47; refine (HLQ.out _).mono ?_; rintro e wl ⟨rfl, hw9⟩; have hw8 := hw9.symm; subst hw8; clear hw9))
              go_ret
              exact ⟨by rw [HW.out]; rfl, HB1.out⟩
            · have HS1 := step (by unfold okW14; rw [hd]; simp; omega)
              have h01 : ((i : Int) == 0) = false := by simpa using h0
              clear hl hd step h0 hls
              go_wp2_with (first | (go_at_call 47; refine (HLQ.out _).mono ?_; rintro e wl ⟨rfl, hw9⟩; have hw8 := hw9.symm; subst hw8; clear hw9) | (go_at_call 48; refine (HDQ.out _).mono ?_; rintro e wl ⟨rfl, hw9⟩; have hw8 := hw9.symm; subst hw8; clear hw9))
              go_roundw
              case rel => exact ⟨i + 1, by omega, HS1, HK1, HB1⟩
              case measure =>
                have hmu2 : W1.iterPos w.heap.size = i + 1 := by simp [World.iterPos, HK1.out]
                rw [HMU.out, hmu2]
                omega
        · rw [hl] at HLQ
          have HS1 := step (by unfold okW14; rw [hl]; rfl)
          clear hl step hls
          go_wp2_with (first | (go_at_call 47; refine (HLQ.out _).mono ?_; rintro e wl ⟨rfl, hw9⟩; have hw8 := hw9.symm; subst hw8; clear hw9))
          go_roundw
          case rel => exact ⟨i + 1, by omega, HS1, HK1, HB1⟩
          case measure =>
            have hmu2 : W1.iterPos w.heap.size = i + 1 := by simp [World.iterPos, HK1.out]
            rw [HMU.out, hmu2]
            omega
      · have HW := hide (word_far HAT.out (by unfold okW14 isLt isDg; rw [decide_eq_false (by omega), decide_eq_false (by omega)]; rfl))
        obtain ⟨R, hR⟩ : ∃ R : Int, (((Utf8.decode s i).1 : Nat) : Int) = R := ⟨_, rfl⟩
        obtain ⟨K, hK⟩ : ∃ K : Nat, (Utf8.decode s i).2 = K := ⟨_, rfl⟩
        rw [hR, hK] at hnext0
        have HLQ := hide (fun W => isLetter14 R W)
        have HDQ := hide (fun W => isDigit14 R W)
        rw [show isLt R = false by unfold isLt; rw [decide_eq_false (by omega)]] at HLQ
        rw [show isDg R = false by unfold isDg; rw [decide_eq_false (by omega)]] at HDQ
        have HB1 := hide (below_iterAt HB.out (Nat.le_refl _) s (i + K))
        generalize wr.iterAt w.heap.size s (i + K) = W1 at hnext0 HB1
        clear h1 h2 h4 hR hK HN hls
        by_cases h0 : i = 0
        · have h01 : ((i : Int) == 0) = true := by rw [h0]; rfl
          clear h0
          go_wp2_with (first | (go_at_call 47; refine (HLQ.out _).mono ?_; rintro e wl ⟨rfl, hw9⟩; have hw8 := hw9.symm; subst hw8; clear hw9))
          go_ret
          exact ⟨by rw [HW.out]; rfl, HB1.out⟩
        · have h01 : ((i : Int) == 0) = false := by simpa using h0
          clear h0
          go_wp2_with (first | (go_at_call 47; refine (HLQ.out _).mono ?_; rintro e wl ⟨rfl, hw9⟩; have hw8 := hw9.symm; subst hw8; clear hw9) | (go_at_call 48; refine (HDQ.out _).mono ?_; rintro e wl ⟨rfl, hw9⟩; have hw8 := hw9.symm; subst hw8; clear hw9))
          go_ret
          exact ⟨by rw [HW.out]; rfl, HB1.out⟩
    · obtain rfl : i = n := by omega
      have hnext0 := fun ty => run_next_end_at (P := Tryd.prog) wr w.heap.size s i ty HK.out (by omega)
      have HW := hide (word_all (l := bytesL s) (fun k c hc => HF.out k c (by have := (List.getElem?_eq_some_iff.1 hc).1; rw [bytesL_sz, hn] at this; exact this) hc))
      rw [bytesL_sz, hn] at HW
      by_cases h1 : 1 ≤ i
      · have h11 : (1 : Int) ≤ (i : Int) := by omega
        by_cases h2 : i ≤ 16
        · have h21 : (i : Int) ≤ 16 := by omega
          go_wp2
          go_ret
          exact ⟨by rw [HW.out, decide_eq_true ⟨h1, h2⟩]; rfl, HB.out⟩
        · have h21 : ¬ (i : Int) ≤ 16 := by omega
          go_wp2
          go_ret
          exact ⟨by rw [HW.out, decide_eq_false (by omega)]; rfl, HB.out⟩
      · have h11 : ¬ (1 : Int) ≤ (i : Int) := by omega
        go_wp2
        go_ret
        exact ⟨by rw [HW.out, decide_eq_false (by omega)]; rfl, HB.out⟩
end Go.Proofs.YtadmibfnjhockaaDoor
