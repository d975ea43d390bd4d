/- Texts of this claim, joined: OB. -/
import Derived.Test.YtomppblgalepjaaGreatDoorJ19
import Derived.Test.YtomppblgalepjaaGreatDoorJ3
/- The program's names (layer 16). -/
namespace Go.Proofs.YtomppblgalepjaaGreatDoor
open Go.RowKit Go.Lib
set_option linter.unusedVariables false
theorem nameB_kept {s : ByteArray} (h : keptB s = true) : nameB s = false := by
 unfold nameB
 rw [h, Bool.not_true, Bool.and_false]
theorem nameB_far {s : ByteArray} (h : wordB (bytesL s) = false) : nameB s = false := by
 unfold nameB
 rw [h, Bool.false_and]
theorem nameB_all {s : ByteArray} (h : wordB (bytesL s) = true) (hk : keptB s = false) : nameB s = true := by
 unfold nameB
 rw [h, hk]
 rfl
theorem wordB_size {l : List Int} (h : ¬ (1 ≤ l.length ∧ l.length ≤ 16)) : wordB l = false := by
 match l, h with
 | [], _ => rfl
 | c :: t, h =>
  have e : decide (t.length < 16) = false := decide_eq_false (by simp only [List.length_cons] at h; omega)
  unfold wordB
  simp only [e, Bool.and_false]
set_option maxHeartbeats 4000000 in
theorem mayName16 (s : ByteArray) (w : World) (hs : s.size ≤ maxLen) : Calls Tryz.prog 75 #[.string s] w fun e w' => e = .returned (.bool (nameB s)) ∧ Below w.heap.size w w' := by
 obtain ⟨n, hn⟩ : ∃ n, s.size = n := ⟨_, rfl⟩
 unfold maxLen at hs
 have HN := hide hn
 by_cases h1 : n < 1
 ·have HR := hide (nameB_far (s := s) (wordB_size (by rw [bytesL_sz]; omega)))
  have h11 : (n : Int) < 1 := by omega
  go_enter Tryz.func75, Tryz.ntmps75
  go_wp2
  go_ret
  exact ⟨by rw [HR.out]; rfl, Below.refl _ _⟩
 have h11 : ¬ (n : Int) < 1 := by omega
 by_cases h2 : 16 < n
 ·have HR := hide (nameB_far (s := s) (wordB_size (by rw [bytesL_sz]; omega)))
  have h21 : (n : Int) > 16 := by omega
  go_enter Tryz.func75, Tryz.ntmps75
  go_wp2
  go_ret
  exact ⟨by rw [HR.out]; rfl, Below.refl _ _⟩
 have h21 : ¬ (n : Int) > 16 := by omega
 have HKP := hide (fun W => KeptP15 s W)
 rcases hk : keptB s with _ | _
 ·rw [hk] at HKP
  have HKE := hide hk
  clear hk
  have hk0 : Hid ((w.iter s 0).heap[w.heap.size]? = some (.stringIter s 0)) := World.iter_heap w s 0
  have hb0 : Hid (Below w.heap.size w (w.iter s 0)) := (Below.refl _ w).alloc (Nat.le_refl _) _
  go_enter Tryz.func75, Tryz.ntmps75
  go_wp2_with (go_at_call 87; refine (HKP.out _).mono ?_; rintro e wk ⟨rfl, hw9⟩; have hw8 := hw9.symm; subst hw8; clear hw9)
  go_loopw [3, 4] (fun _ _ wr => ∃ i : Nat, i ≤ n ∧ Hid (∀ (k : Nat) c, k < i → (bytesL s)[k]? = some c → okW14 k c = true) ∧ Hid (wr.heap[w.heap.size]? = some (.stringIter s i)) ∧ Hid (Below w.heap.size w wr)) (fun _ _ wr => n - wr.iterPos w.heap.size)
  case atStart => exact ⟨0, by omega, fun k c h => by omega, hk0, hb0⟩
  case round =>
   obtain ⟨i, hi, HF, HK, HB⟩ := hrel
   clear hk0 hb0
   have HMU : Hid (wr.iterPos w.heap.size = i) := by unfold Hid; simp [World.iterPos, HK.out]
   by_cases hlt : i < n
   ·have hls : i < s.size := by rw [hn]; exact hlt
    have HAT := hide (bytesL_at hls)
    have hnext0 := fun ty => run_next_any_at (P := Tryz.prog) wr w.heap.size s i ty HK.out hls
    rcases rune14 s i hls with ⟨h1, h2⟩ | ⟨h1, h2, _, h4, _⟩
    ·have hc : (((byS s i).toNat : Nat) : Int) = byS s i := by have := byS_bd s i; omega
     have hnext : ∀ ty, (Instr.next (.pointer (some ⟨w.heap.size, 0, none⟩)) true ty).run Tryz.prog wr = .ok (.tuple #[.bool true, .int .i64 i, .int .i32 (byS s i)]) (wr.iterAt w.heap.size s (i + 1)) := fun ty => by
      have q := hnext0 ty
      rw [h2] at q
      rw [q, ← hc]
      rfl
     have HK1 := hide (iterAt_heap wr w.heap.size s i (i + 1) HK.out)
     have HB1 := hide (below_iterAt HB.out (Nat.le_refl _) s (i + 1))
     generalize wr.iterAt w.heap.size s (i + 1) = W1 at hnext HK1 HB1
     clear hnext0 h1 h2 hc hls
     generalize byS s i = c at hnext HAT
     have step : okW14 i c = true → Hid (∀ (k : Nat) c, k < i + 1 → (bytesL s)[k]? = some c → okW14 k c = true) := fun h k x hk hx => by
      by_cases e : k = i
      ·subst e
       rw [HAT.out] at hx
       cases hx
       exact h
      ·exact HF.out k x (by omega) hx
     by_cases c1 : 97 ≤ c
     ·have c3 : 48 ≤ c := by omega
      have c4 : ¬ c ≤ 57 := by omega
      by_cases c2 : c ≤ 122
      ·have HS1 := step (by unfold okW14 isLt; rw [decide_eq_true ⟨c1, c2⟩]; rfl)
       clear step
       go_wp2
       go_roundw
       case rel => exact ⟨i + 1, by omega, HS1, HK1, HB1⟩
       case measure =>
        have hmu2 : W1.iterPos w.heap.size = i + 1 := by simp [World.iterPos, HK1.out]
        rw [HMU.out, hmu2]
        omega
      ·have HW := hide (nameB_far (word_far HAT.out (by unfold okW14 isLt isDg; rw [decide_eq_false (by omega), decide_eq_false (by omega)]; rfl)))
       clear step
       by_cases h0 : i = 0
       ·have h01 : ((i : Int) == 0) = true := by rw [h0]; rfl
        clear h0
        go_wp2
        go_ret
        exact ⟨by rw [HW.out]; rfl, HB1.out⟩
       ·have h01 : ((i : Int) == 0) = false := by simpa using h0
        clear h0
        go_wp2
        go_ret
        exact ⟨by rw [HW.out]; rfl, HB1.out⟩
     ·by_cases c3 : 48 ≤ c
      ·by_cases c4 : c ≤ 57
       ·by_cases h0 : i = 0
        ·have HW := hide (nameB_far (word_far HAT.out (by unfold okW14 isLt; rw [decide_eq_false (by omega), h0]; simp)))
         have h01 : ((i : Int) == 0) = true := by rw [h0]; rfl
         clear h0 step
         go_wp2
         go_ret
         exact ⟨by rw [HW.out]; rfl, HB1.out⟩
        ·have HS1 := step (by unfold okW14 isDg; rw [decide_eq_true ⟨c3, c4⟩]; simp; omega)
         have h01 : ((i : Int) == 0) = false := by simpa using h0
         clear h0 step
         go_wp2
         go_roundw
         case rel => exact ⟨i + 1, by omega, HS1, HK1, HB1⟩
         case measure =>
          have hmu2 : W1.iterPos w.heap.size = i + 1 := by simp [World.iterPos, HK1.out]
          rw [HMU.out, hmu2]
          omega
       ·have HW := hide (nameB_far (word_far HAT.out (by unfold okW14 isLt isDg; rw [decide_eq_false (by omega), decide_eq_false (by omega)]; rfl)))
        clear step
        by_cases h0 : i = 0
        ·have h01 : ((i : Int) == 0) = true := by rw [h0]; rfl
         clear h0
         go_wp2
         go_ret
         exact ⟨by rw [HW.out]; rfl, HB1.out⟩
        ·have h01 : ((i : Int) == 0) = false := by simpa using h0
         clear h0
         go_wp2
         go_ret
         exact ⟨by rw [HW.out]; rfl, HB1.out⟩
      ·have HW := hide (nameB_far (word_far HAT.out (by unfold okW14 isLt isDg; rw [decide_eq_false (by omega), decide_eq_false (by omega)]; rfl)))
       clear step
       by_cases h0 : i = 0
       ·have h01 : ((i : Int) == 0) = true := by rw [h0]; rfl
        clear h0
        go_wp2
        go_ret
        exact ⟨by rw [HW.out]; rfl, HB1.out⟩
       ·have h01 : ((i : Int) == 0) = false := by simpa using h0
        clear h0
        go_wp2
        go_ret
        exact ⟨by rw [HW.out]; rfl, HB1.out⟩
    ·have HW := hide (nameB_far (word_far HAT.out (by unfold okW14 isLt isDg; rw [decide_eq_false (by omega), decide_eq_false (by omega)]; rfl)))
     obtain ⟨R, hR⟩ : ∃ R : Int, (((Utf8.decode s i).1 : Nat) : Int) = R := ⟨_, rfl⟩
     obtain ⟨K, hK⟩ : ∃ K : Nat, (Utf8.decode s i).2 = K := ⟨_, rfl⟩
     rw [hR, hK] at hnext0
     have c1 : 97 ≤ R := by omega
     have c2 : ¬ R ≤ 122 := by omega
     have c3 : 48 ≤ R := by omega
     have c4 : ¬ R ≤ 57 := by omega
     have HB1 := hide (below_iterAt HB.out (Nat.le_refl _) s (i + K))
     generalize wr.iterAt w.heap.size s (i + K) = W1 at hnext0 HB1
     clear h1 h2 h4 hR hK hls
     by_cases h0 : i = 0
     ·have h01 : ((i : Int) == 0) = true := by rw [h0]; rfl
      clear h0
      go_wp2
      go_ret
      exact ⟨by rw [HW.out]; rfl, HB1.out⟩
     ·have h01 : ((i : Int) == 0) = false := by simpa using h0
      clear h0
      go_wp2
      go_ret
      exact ⟨by rw [HW.out]; rfl, HB1.out⟩
   ·obtain rfl : i = n := by omega
    have hnext0 := fun ty => run_next_end_at (P := Tryz.prog) wr w.heap.size s i ty HK.out (by omega)
    have HW := hide (word_all (l := bytesL s) (fun k c hc => HF.out k c (by have := (List.getElem?_eq_some_iff.1 hc).1; rw [bytesL_sz, hn] at this; exact this) hc))
    rw [bytesL_sz, hn, decide_eq_true (by omega)] at HW
    have HR := hide (nameB_all HW.out HKE.out)
    go_wp2
    go_ret
    exact ⟨by rw [HR.out]; rfl, HB.out⟩
 ·rw [hk] at HKP
  have HR := hide (nameB_kept hk)
  clear hk
  go_enter Tryz.func75, Tryz.ntmps75
  go_wp2_with (go_at_call 87; refine (HKP.out _).mono ?_; rintro e wk ⟨rfl, hw9⟩; have hw8 := hw9.symm; subst hw8; clear hw9)
  go_ret
  exact ⟨by rw [HR.out]; rfl, Below.refl _ _⟩
end Go.Proofs.YtomppblgalepjaaGreatDoor

