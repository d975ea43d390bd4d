/- Word of the document (layer 14). -/
import Derived.Test.YtadmibfnjhockaaDoorL2
import Derived.Deep.CutBlock
import Derived.Deep.CutRange
namespace Go.Proofs.YtadmibfnjhockaaDoor
open Go.RowKit Go.Lib
set_option linter.unusedVariables false
theorem byS_is {s : ByteArray} {i : Nat} (h : i < s.size) : ((s[i]'h).toNat : Int) = byS s i := by
  obtain ⟨⟨l⟩⟩ := s
  have hl : i < l.length := h
  unfold byS
  rw [List.getD_eq_getElem?_getD, show ({ data := { toList := l } } : ByteArray).data.toList = l from rfl, List.getElem?_eq_getElem hl]
  rfl
theorem byS_bd (s : ByteArray) (i : Nat) : 0 ≤ byS s i ∧ byS s i ≤ 255 := by
  unfold byS
  have := (s.data.toList.getD i 0).toNat_lt
  omega
set_option maxHeartbeats 2000000 in
theorem Word14 (s : ByteArray) (w : World) (hs : s.size ≤ 10000) : Calls Tryd.prog 21 #[.string s] w fun e w' => e = .returned (.bool (wordB (bytesL s))) ∧ w' = w := by
  obtain ⟨n, hn⟩ : ∃ n, s.size = n := ⟨_, rfl⟩
  have HN := hide hn
  go_enter Tryd.func21, Tryd.ntmps21
  go_wp2
  go_loopw [3] (fun v wr => ∃ i : Nat, i ≤ n ∧ v = .int .i64 i ∧ Hid (∀ (k : Nat) c, k < i → (bytesL s)[k]? = some c → okW14 k c = true) ∧ wr = w) (fun v _ => n - (intOf v).toNat)
  case atStart => exact ⟨0, by omega, rfl, fun k c h => by omega, rfl⟩
  case round =>
    obtain ⟨i, hi, rfl, HF, hww⟩ := hrel
    have hww2 := hww.symm
    subst hww2
    clear hww
    by_cases hlt : i < n
    · have hi0 : (0 : Int) ≤ (i : Int) := by omega
      have hi1 : (i : Int) < (n : Int) := by omega
      have HAT := hide (bytesL_at (s := s) (i := i) (by rw [hn]; exact hlt))
      have hix : ∀ h : i < s.size, ((s[i]'h).toNat : Int) = byS s i := fun h => byS_is h
      generalize byS s i = c at *
      have step : okW14 i c = true → Hid (∀ (k : Nat) c, k < i + 1 → (bytesL s)[k]? = some c → okW14 k c = true) := fun h k x hk hx => by
        by_cases e : k = i
        · subst e
          rw [HAT.out] at hx
          cases hx
          exact h
        · exact HF.out k x (by omega) hx
      rcases hl : isLt c with _ | _
      · have HL := hide hl
        rcases hd : isDg c with _ | _
        · have HD := hide hd
          have HW := hide (word_far HAT.out (by unfold okW14; rw [hl, hd]; rfl))
          clear hl hd step
          go_wp2_with (first
            | (go_at_call 25; refine (letter14 c _).mono ?_; rintro e wl ⟨rfl, hw9⟩; have hw8 := hw9.symm; subst hw8; clear hw9; rw [HL.out])
            | (go_at_call 26; refine (digit14 c _).mono ?_; rintro e wl ⟨rfl, hw9⟩; have hw8 := hw9.symm; subst hw8; clear hw9; rw [HD.out]))
          go_ret
          exact ⟨by rw [HW.out]; rfl, rfl⟩
        · have HD := hide hd
          by_cases h0 : i = 0
          · have HW := hide (word_far HAT.out (by unfold okW14; rw [hl, h0]; simp))
            have h01 : (i : Int) = 0 := by omega
            have h02 : ¬ (0 : Int) < (i : Int) := by omega
            have h03 : ¬ 0 < i := by omega
            clear hl hd step h0 h01
            go_wp2_with (first
              | (go_at_call 25; refine (letter14 c _).mono ?_; rintro e wl ⟨rfl, hw9⟩; have hw8 := hw9.symm; subst hw8; clear hw9; rw [HL.out])
              | (go_at_call 26; refine (digit14 c _).mono ?_; rintro e wl ⟨rfl, hw9⟩; have hw8 := hw9.symm; subst hw8; clear hw9; rw [HD.out]))
            go_ret
            exact ⟨by rw [HW.out]; rfl, rfl⟩
          · have HS1 := step (by unfold okW14; rw [hd]; simp; omega)
            have h02 : (0 : Int) < (i : Int) := by omega
            have h03 : 0 < i := by omega
            clear hl hd step h0
            go_wp2_with (first
              | (go_at_call 25; refine (letter14 c _).mono ?_; rintro e wl ⟨rfl, hw9⟩; have hw8 := hw9.symm; subst hw8; clear hw9; rw [HL.out])
              | (go_at_call 26; refine (digit14 c _).mono ?_; rintro e wl ⟨rfl, hw9⟩; have hw8 := hw9.symm; subst hw8; clear hw9; rw [HD.out]))
            go_roundw
            case rel => exact ⟨i + 1, by omega, by go_num, HS1, by trivial⟩
            case measure => simp [intOf]; omega
      · have HL := hide hl
        have HS1 := step (by unfold okW14; rw [hl]; rfl)
        clear hl step
        go_wp2_with (go_at_call 25; refine (letter14 c _).mono ?_; rintro e wl ⟨rfl, hw9⟩; have hw8 := hw9.symm; subst hw8; clear hw9; rw [HL.out])
        go_roundw
        case rel => exact ⟨i + 1, by omega, by go_num, HS1, by trivial⟩
        case measure => simp [intOf]; omega
    · obtain rfl : i = n := by omega
      have HW := hide (word_all (l := bytesL s) (fun k c hc => HF.out k c (by have := (List.getElem?_eq_some_iff.1 hc).1; rw [bytesL_sz, hn] at this; exact this) hc))
      rw [bytesL_sz, hn] at HW
      by_cases h1 : 1 ≤ i
      · have h11 : (1 : Int) ≤ (i : Int) := by omega
        by_cases h2 : i ≤ 16
        · have h21 : (i : Int) ≤ 16 := by omega
          go_wp2
          go_ret
          exact ⟨by rw [HW.out, decide_eq_true ⟨h1, h2⟩]; rfl, rfl⟩
        · have h21 : ¬ (i : Int) ≤ 16 := by omega
          go_wp2
          go_ret
          exact ⟨by rw [HW.out, decide_eq_false (by omega)]; rfl, rfl⟩
      · have h11 : ¬ (1 : Int) ≤ (i : Int) := by omega
        go_wp2
        go_ret
        exact ⟨by rw [HW.out, decide_eq_false (by omega)]; rfl, rfl⟩
end Go.Proofs.YtadmibfnjhockaaDoor
