/- letter, digit and Word of the document (layer 14). -/
import Derived.Test.YtadmibfnjhockaaDoorL1
namespace Go.Proofs.YtadmibfnjhockaaDoor
open Go.RowKit Go.Lib
set_option linter.unusedVariables false
/-- A byte of a text. -/
def byS (s : ByteArray) (i : Nat) : Int := ((s.data.toList.getD i 0).toNat : Int)
theorem bytesL_at {s : ByteArray} {i : Nat} (h : i < s.size) : (bytesL s)[i]? = some (byS s i) := by
  have h2 : i < s.data.toList.length := by simpa using h
  unfold bytesL byS
  rw [List.getElem?_map, List.getElem?_eq_getElem h2, List.getD_eq_getElem?_getD, List.getElem?_eq_getElem h2]
  rfl
theorem bytesL_sz (s : ByteArray) : (bytesL s).length = s.size := by unfold bytesL; rw [List.length_map]; rfl
theorem letter14 (c : Int) (w : World) : Calls Tryd.prog 25 #[.int .u8 c] w fun e w' => e = .returned (.bool (isLt c)) ∧ w' = w := by
  unfold isLt
  by_cases h1 : 97 ≤ c
  · by_cases h2 : c ≤ 122
    · go_enter Tryd.func25, Tryd.ntmps25
      go_wp2
      go_ret
      exact ⟨by rw [decide_eq_true ⟨h1, h2⟩]; rfl, rfl⟩
    · go_enter Tryd.func25, Tryd.ntmps25
      go_wp2
      go_ret
      exact ⟨by rw [decide_eq_false (by omega)]; rfl, rfl⟩
  · go_enter Tryd.func25, Tryd.ntmps25
    go_wp2
    go_ret
    exact ⟨by rw [decide_eq_false (by omega)]; rfl, rfl⟩
theorem digit14 (c : Int) (w : World) : Calls Tryd.prog 26 #[.int .u8 c] w fun e w' => e = .returned (.bool (isDg c)) ∧ w' = w := by
  unfold isDg
  by_cases h1 : 48 ≤ c
  · by_cases h2 : c ≤ 57
    · go_enter Tryd.func26, Tryd.ntmps26
      go_wp2
      go_ret
      exact ⟨by rw [decide_eq_true ⟨h1, h2⟩]; rfl, rfl⟩
    · go_enter Tryd.func26, Tryd.ntmps26
      go_wp2
      go_ret
      exact ⟨by rw [decide_eq_false (by omega)]; rfl, rfl⟩
  · go_enter Tryd.func26, Tryd.ntmps26
    go_wp2
    go_ret
    exact ⟨by rw [decide_eq_false (by omega)]; rfl, rfl⟩
/-- A word, as it is gone through. -/
def okW14 (i : Nat) (c : Int) : Bool := isLt c || (isDg c && decide (0 < i))
theorem word_far {l : List Int} {i : Nat} {c : Int} (hc : l[i]? = some c) (h : okW14 i c = false) : wordB l = false := by
  match l, hc with
  | x :: t, hc =>
    rcases hw : wordB (x :: t) with _ | _
    · rfl
    unfold wordB at hw
    simp only [Bool.and_eq_true, List.all_eq_true] at hw
    unfold okW14 at h
    rw [Bool.or_eq_false_iff] at h
    match i, hc with
    | 0, hc =>
      simp only [List.getElem?_cons_zero, Option.some.injEq] at hc
      subst hc
      rw [hw.1.1] at h
      cases h.1
    | i + 1, hc =>
      simp only [List.getElem?_cons_succ] at hc
      have q := hw.1.2 c (List.mem_of_getElem? hc)
      rw [h.1] at q
      simp at h
      simp [h.2] at q
theorem word_all {l : List Int} (h : ∀ (i : Nat) c, l[i]? = some c → okW14 i c = true) : wordB l = decide (1 ≤ l.length ∧ l.length ≤ 16) := by
  match l with
  | [] => rfl
  | x :: t =>
    have h0 := h 0 x rfl
    unfold okW14 at h0
    simp at h0
    have h1 : t.all (fun c => isLt c || isDg c) = true := by
      rw [List.all_eq_true]
      intro c hc
      obtain ⟨i, hi⟩ := List.mem_iff_getElem?.1 hc
      have q := h (i + 1) c hi
      unfold okW14 at q
      simpa using q
    unfold wordB
    simp only [h0, h1, Bool.true_and, List.length_cons]
    rw [Bool.eq_iff_iff, decide_eq_true_iff, decide_eq_true_iff]
    omega
end Go.Proofs.YtadmibfnjhockaaDoor
