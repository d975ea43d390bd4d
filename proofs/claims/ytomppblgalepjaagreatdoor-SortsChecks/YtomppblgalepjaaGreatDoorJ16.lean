/- Texts of this claim, joined: LB, LD. -/
import Derived.Laws.RangeAny
import Derived.Lib.OthersKept
import Derived.Test.YtomppblgalepjaaGreatDoorJ4
/- The program's letters, digits and Word; what a rune of a text is (layer 14). -/
namespace Go.Proofs.YtomppblgalepjaaGreatDoor
open Go.RowKit Go.Lib
set_option linter.unusedVariables false
theorem isLetter14 (c : Int) (w : World) : Calls Tryz.prog 96 #[.int .i32 c] w fun e w' => e = .returned (.bool (isLt c)) ∧ w' = w := by
 unfold isLt
 by_cases h1 : 97 ≤ c
 ·by_cases h2 : c ≤ 122
  ·go_enter Tryz.func96, Tryz.ntmps96
   go_wp2
   go_ret
   exact ⟨by rw [decide_eq_true ⟨h1, h2⟩]; rfl, rfl⟩
  ·go_enter Tryz.func96, Tryz.ntmps96
   go_wp2
   go_ret
   exact ⟨by rw [decide_eq_false (by omega)]; rfl, rfl⟩
 ·go_enter Tryz.func96, Tryz.ntmps96
  go_wp2
  go_ret
  exact ⟨by rw [decide_eq_false (by omega)]; rfl, rfl⟩
theorem isDigit14 (c : Int) (w : World) : Calls Tryz.prog 97 #[.int .i32 c] w fun e w' => e = .returned (.bool (isDg c)) ∧ w' = w := by
 unfold isDg
 by_cases h1 : 48 ≤ c
 ·by_cases h2 : c ≤ 57
  ·go_enter Tryz.func97, Tryz.ntmps97
   go_wp2
   go_ret
   exact ⟨by rw [decide_eq_true ⟨h1, h2⟩]; rfl, rfl⟩
  ·go_enter Tryz.func97, Tryz.ntmps97
   go_wp2
   go_ret
   exact ⟨by rw [decide_eq_false (by omega)]; rfl, rfl⟩
 ·go_enter Tryz.func97, Tryz.ntmps97
  go_wp2
  go_ret
  exact ⟨by rw [decide_eq_false (by omega)]; rfl, rfl⟩
theorem isPart14 (c : Int) (w : World) : Calls Tryz.prog 89 #[.int .i32 c] w fun e w' => e = .returned (.bool (isWd c)) ∧ w' = w := by
 have HL := hide (fun W => isLetter14 c W)
 have HD := hide (fun W => isDigit14 c W)
 rcases hl : isLt c with _ | _
 ·rw [hl] at HL
  rcases hd : isDg c with _ | _
  ·rw [hd] at HD
   by_cases h45 : c = 45
   ·have HW : Hid (isWd c = true) := by unfold Hid isWd; rw [h45]; rfl
    have h46 : (c == 45) = true := by simpa using h45
    clear hl hd h45
    go_enter Tryz.func89, Tryz.ntmps89
    go_wp2_with (first
     | (go_at_call 96; refine (HL.out _).mono ?_; rintro e wl ⟨rfl, hw9⟩; have hw8 := hw9.symm; subst hw8; clear hw9)
     | (go_at_call 97; refine (HD.out _).mono ?_; rintro e wl ⟨rfl, hw9⟩; have hw8 := hw9.symm; subst hw8; clear hw9))
    go_ret
    exact ⟨by rw [HW.out]; rfl, rfl⟩
   ·have HW : Hid (isWd c = false) := by unfold Hid isWd; rw [hl, hd, decide_eq_false h45]; rfl
    have h46 : (c == 45) = false := by simpa using h45
    clear hl hd h45
    go_enter Tryz.func89, Tryz.ntmps89
    go_wp2_with (first
     | (go_at_call 96; refine (HL.out _).mono ?_; rintro e wl ⟨rfl, hw9⟩; have hw8 := hw9.symm; subst hw8; clear hw9)
     | (go_at_call 97; refine (HD.out _).mono ?_; rintro e wl ⟨rfl, hw9⟩; have hw8 := hw9.symm; subst hw8; clear hw9))
    go_ret
    exact ⟨by rw [HW.out]; rfl, rfl⟩
  ·rw [hd] at HD
   have HW : Hid (isWd c = true) := by unfold Hid isWd; rw [hl, hd]; rfl
   clear hl hd
   go_enter Tryz.func89, Tryz.ntmps89
   go_wp2_with (first
    | (go_at_call 96; refine (HL.out _).mono ?_; rintro e wl ⟨rfl, hw9⟩; have hw8 := hw9.symm; subst hw8; clear hw9)
    | (go_at_call 97; refine (HD.out _).mono ?_; rintro e wl ⟨rfl, hw9⟩; have hw8 := hw9.symm; subst hw8; clear hw9))
   go_ret
   exact ⟨by rw [HW.out]; rfl, rfl⟩
 ·rw [hl] at HL
  have HW : Hid (isWd c = true) := by unfold Hid isWd; rw [hl]; rfl
  clear hl
  go_enter Tryz.func89, Tryz.ntmps89
  go_wp2_with (go_at_call 96; refine (HL.out _).mono ?_; rintro e wl ⟨rfl, hw9⟩; have hw8 := hw9.symm; subst hw8; clear hw9)
  go_ret
  exact ⟨by rw [HW.out]; rfl, rfl⟩
/-! A rune of a text -/
theorem get_byS {s : ByteArray} {i : Nat} (h : i < s.size) : ((s.get! i).toNat : Int) = byS s i := by
 have e := get_at s i h
 rw [Nat.add_zero] at e
 rw [e]
 exact byS_is h
theorem cont_128 {n : Nat} (h : n / 64 = 2) : 128 ≤ n := by omega
theorem decode_wide (s : ByteArray) (pos : Nat) (h : pos < s.size) (ha : 128 ≤ (s[pos]'h).toNat) : ∀ k, k < (Utf8.decode s pos).2 → pos + k < s.size ∧ 128 ≤ (s.get! (pos + k)).toNat := by
 have hn : ¬ (s[pos]'h).toNat < 128 := by omega
 have e0 := get_at s pos h
 have z : ∀ k, k < 1 → pos + k < s.size ∧ 128 ≤ (s.get! (pos + k)).toNat := fun k hk => by
  obtain rfl : k = 0 := by omega
  rw [e0]
  exact ⟨by omega, ha⟩
 simp only [Utf8.decode, e0, hn, if_false]
 split
 ·rename_i h2
  simp only [Bool.and_eq_true, beq_iff_eq, decide_eq_true_eq] at h2
  split
  ·intro k hk
   rcases k with _ | _ | k
   ·exact z 0 (by decide)
   ·exact ⟨h2.2.1, cont_128 h2.2.2⟩
   ·exfalso; omega
  ·exact z
 ·split
  ·rename_i h3
   simp only [Bool.and_eq_true, beq_iff_eq, decide_eq_true_eq] at h3
   split
   ·intro k hk
    rcases k with _ | _ | _ | k
    ·exact z 0 (by decide)
    ·exact ⟨h3.1.2.1, cont_128 h3.1.2.2⟩
    ·exact ⟨h3.2.1, cont_128 h3.2.2⟩
    ·exfalso; omega
   ·exact z
  ·split
   ·rename_i h4
    simp only [Bool.and_eq_true, beq_iff_eq, decide_eq_true_eq] at h4
    split
    ·intro k hk
     rcases k with _ | _ | _ | _ | k
     ·exact z 0 (by decide)
     ·exact ⟨h4.1.1.2.1, cont_128 h4.1.1.2.2⟩
     ·exact ⟨h4.1.2.1, cont_128 h4.1.2.2⟩
     ·exact ⟨h4.2.1, cont_128 h4.2.2⟩
     ·exfalso; omega
    ·exact z
   ·exact z
theorem rune14 (s : ByteArray) (i : Nat) (h : i < s.size) : (byS s i < 128 ∧ Utf8.decode s i = ((byS s i).toNat, 1)) ∨ (128 ≤ byS s i ∧ 128 ≤ (Utf8.decode s i).1 ∧ (Utf8.decode s i).1 ≤ 2147483647 ∧ 1 ≤ (Utf8.decode s i).2 ∧ ∀ k, k < (Utf8.decode s i).2 → i + k < s.size ∧ 128 ≤ byS s (i + k)) := by
 have hb := byS_is h
 by_cases h1 : (s[i]'h).toNat < 128
 ·left
  refine ⟨by omega, ?_⟩
  rw [decode_ascii s i h h1]
  congr 1
  omega
 ·right
  have h2 := decode_high s i h (by omega)
  refine ⟨by omega, h2.1, decode_le s i, h2.2, fun k hk => ?_⟩
  have q := decode_wide s i h (by omega) k hk
  refine ⟨q.1, ?_⟩
  rw [← get_byS q.1]
  omega
theorem dropW_skip (l : List Int) (i : Nat) : ∀ k : Nat, (∀ j, j < k → ∃ c, l[i + j]? = some c ∧ c ≠ 10) → (l.drop i).dropWhile (fun x => decide (x ≠ 10)) = (l.drop (i + k)).dropWhile (fun x => decide (x ≠ 10))
 | 0, _ => rfl
 | k + 1, h => by
  rw [dropW_skip l i k (fun j hj => h j (by omega))]
  obtain ⟨c, hc, h10⟩ := h k (by omega)
  rw [dropW_go hc (by simpa using h10)]
  rfl
set_option maxHeartbeats 4000000 in
theorem WordP14 (s : ByteArray) (w : World) (hs : s.size ≤ 10000) : Calls Tryz.prog 98 #[.string s] w fun e w' => e = .returned (.bool (wordB (bytesL s))) ∧ Below w.heap.size w w' := by
 obtain ⟨n, hn⟩ : ∃ n, s.size = n := ⟨_, rfl⟩
 have HN := hide hn
 have hk0 : Hid ((w.iter s 0).heap[w.heap.size]? = some (.stringIter s 0)) := World.iter_heap w s 0
 have hb0 : Hid (Below w.heap.size w (w.iter s 0)) := (Below.refl _ w).alloc (Nat.le_refl _) _
 go_enter Tryz.func98, Tryz.ntmps98
 go_wp2
 go_loopw [3, 4] (fun _ _ wr => ∃ i : Nat, i ≤ n ∧ Hid (∀ (k : Nat) c, k < i → (bytesL s)[k]? = some c → okW14 k c = true) ∧ Hid (wr.heap[w.heap.size]? = some (.stringIter s i)) ∧ Hid (Below w.heap.size w wr)) (fun _ _ wr => n - wr.iterPos w.heap.size)
 case atStart => exact ⟨0, by omega, fun k c h => by omega, hk0, hb0⟩
 case round =>
  obtain ⟨i, hi, HF, HK, HB⟩ := hrel
  clear hk0 hb0
  have HMU : Hid (wr.iterPos w.heap.size = i) := by unfold Hid; simp [World.iterPos, HK.out]
  by_cases hlt : i < n
  ·have hls : i < s.size := by rw [hn]; exact hlt
   have HAT := hide (bytesL_at hls)
   have hnext0 := fun ty => run_next_any_at (P := Tryz.prog) wr w.heap.size s i ty HK.out hls
   rcases rune14 s i hls with ⟨h1, h2⟩ | ⟨h1, h2, _, h4, _⟩
   ·have hc : (((byS s i).toNat : Nat) : Int) = byS s i := by have := byS_bd s i; omega
    have hnext : ∀ ty, (Instr.next (.pointer (some ⟨w.heap.size, 0, none⟩)) true ty).run Tryz.prog wr = .ok (.tuple #[.bool true, .int .i64 i, .int .i32 (byS s i)]) (wr.iterAt w.heap.size s (i + 1)) := fun ty => by
     have q := hnext0 ty
     rw [h2] at q
     rw [q, ← hc]
     rfl
    have HK1 := hide (iterAt_heap wr w.heap.size s i (i + 1) HK.out)
    have HB1 := hide (below_iterAt HB.out (Nat.le_refl _) s (i + 1))
    generalize wr.iterAt w.heap.size s (i + 1) = W1 at hnext HK1 HB1
    clear hnext0 h1 h2 hc
    generalize byS s i = c at hnext HAT
    have step : okW14 i c = true → Hid (∀ (k : Nat) c, k < i + 1 → (bytesL s)[k]? = some c → okW14 k c = true) := fun h k x hk hx => by
     by_cases e : k = i
     ·subst e
      rw [HAT.out] at hx
      cases hx
      exact h
     ·exact HF.out k x (by omega) hx
    have HLQ := hide (fun W => isLetter14 c W)
    have HDQ := hide (fun W => isDigit14 c W)
    rcases hl : isLt c with _ | _
    ·rw [hl] at HLQ
     rcases hd : isDg c with _ | _
     ·rw [hd] at HDQ
      have HW := hide (word_far HAT.out (by unfold okW14; rw [hl, hd]; rfl))
      clear hl hd step HN hls
      by_cases h0 : i = 0
      ·have h01 : ((i : Int) == 0) = true := by rw [h0]; rfl
       clear h0
       go_wp2_with (first | (go_at_call 96; refine (HLQ.out _).mono ?_; rintro e wl ⟨rfl, hw9⟩; have hw8 := hw9.symm; subst hw8; clear hw9))
       go_ret
       exact ⟨by rw [HW.out]; rfl, HB1.out⟩
      ·have h01 : ((i : Int) == 0) = false := by simpa using h0
       clear h0
       go_wp2_with (first | (go_at_call 96; refine (HLQ.out _).mono ?_; rintro e wl ⟨rfl, hw9⟩; have hw8 := hw9.symm; subst hw8; clear hw9) | (go_at_call 97; refine (HDQ.out _).mono ?_; rintro e wl ⟨rfl, hw9⟩; have hw8 := hw9.symm; subst hw8; clear hw9))
       go_ret
       exact ⟨by rw [HW.out]; rfl, HB1.out⟩
     ·rw [hd] at HDQ
      by_cases h0 : i = 0
      ·have HW := hide (word_far HAT.out (by unfold okW14; rw [hl, h0]; simp))
       have h01 : ((i : Int) == 0) = true := by rw [h0]; rfl
       clear hl hd step h0 hls
       go_wp2_with (first | (go_at_call 96; refine (HLQ.out _).mono ?_; rintro e wl ⟨rfl, hw9⟩; have hw8 := hw9.symm; subst hw8; clear hw9))
       go_ret
       exact ⟨by rw [HW.out]; rfl, HB1.out⟩
      ·have HS1 := step (by unfold okW14; rw [hd]; simp; omega)
       have h01 : ((i : Int) == 0) = false := by simpa using h0
       clear hl hd step h0 hls
       go_wp2_with (first | (go_at_call 96; refine (HLQ.out _).mono ?_; rintro e wl ⟨rfl, hw9⟩; have hw8 := hw9.symm; subst hw8; clear hw9) | (go_at_call 97; refine (HDQ.out _).mono ?_; rintro e wl ⟨rfl, hw9⟩; have hw8 := hw9.symm; subst hw8; clear hw9))
       go_roundw
       case rel => exact ⟨i + 1, by omega, HS1, HK1, HB1⟩
       case measure =>
        have hmu2 : W1.iterPos w.heap.size = i + 1 := by simp [World.iterPos, HK1.out]
        rw [HMU.out, hmu2]
        omega
    ·rw [hl] at HLQ
     have HS1 := step (by unfold okW14; rw [hl]; rfl)
     clear hl step hls
     go_wp2_with (first | (go_at_call 96; refine (HLQ.out _).mono ?_; rintro e wl ⟨rfl, hw9⟩; have hw8 := hw9.symm; subst hw8; clear hw9))
     go_roundw
     case rel => exact ⟨i + 1, by omega, HS1, HK1, HB1⟩
     case measure =>
      have hmu2 : W1.iterPos w.heap.size = i + 1 := by simp [World.iterPos, HK1.out]
      rw [HMU.out, hmu2]
      omega
   ·have HW := hide (word_far HAT.out (by unfold okW14 isLt isDg; rw [decide_eq_false (by omega), decide_eq_false (by omega)]; rfl))
    obtain ⟨R, hR⟩ : ∃ R : Int, (((Utf8.decode s i).1 : Nat) : Int) = R := ⟨_, rfl⟩
    obtain ⟨K, hK⟩ : ∃ K : Nat, (Utf8.decode s i).2 = K := ⟨_, rfl⟩
    rw [hR, hK] at hnext0
    have HLQ := hide (fun W => isLetter14 R W)
    have HDQ := hide (fun W => isDigit14 R W)
    rw [show isLt R = false by unfold isLt; rw [decide_eq_false (by omega)]] at HLQ
    rw [show isDg R = false by unfold isDg; rw [decide_eq_false (by omega)]] at HDQ
    have HB1 := hide (below_iterAt HB.out (Nat.le_refl _) s (i + K))
    generalize wr.iterAt w.heap.size s (i + K) = W1 at hnext0 HB1
    clear h1 h2 h4 hR hK HN hls
    by_cases h0 : i = 0
    ·have h01 : ((i : Int) == 0) = true := by rw [h0]; rfl
     clear h0
     go_wp2_with (first | (go_at_call 96; refine (HLQ.out _).mono ?_; rintro e wl ⟨rfl, hw9⟩; have hw8 := hw9.symm; subst hw8; clear hw9))
     go_ret
     exact ⟨by rw [HW.out]; rfl, HB1.out⟩
    ·have h01 : ((i : Int) == 0) = false := by simpa using h0
     clear h0
     go_wp2_with (first | (go_at_call 96; refine (HLQ.out _).mono ?_; rintro e wl ⟨rfl, hw9⟩; have hw8 := hw9.symm; subst hw8; clear hw9) | (go_at_call 97; refine (HDQ.out _).mono ?_; rintro e wl ⟨rfl, hw9⟩; have hw8 := hw9.symm; subst hw8; clear hw9))
     go_ret
     exact ⟨by rw [HW.out]; rfl, HB1.out⟩
  ·obtain rfl : i = n := by omega
   have hnext0 := fun ty => run_next_end_at (P := Tryz.prog) wr w.heap.size s i ty HK.out (by omega)
   have HW := hide (word_all (l := bytesL s) (fun k c hc => HF.out k c (by have := (List.getElem?_eq_some_iff.1 hc).1; rw [bytesL_sz, hn] at this; exact this) hc))
   rw [bytesL_sz, hn] at HW
   by_cases h1 : 1 ≤ i
   ·have h11 : (1 : Int) ≤ (i : Int) := by omega
    by_cases h2 : i ≤ 16
    ·have h21 : (i : Int) ≤ 16 := by omega
     go_wp2
     go_ret
     exact ⟨by rw [HW.out, decide_eq_true ⟨h1, h2⟩]; rfl, HB.out⟩
    ·have h21 : ¬ (i : Int) ≤ 16 := by omega
     go_wp2
     go_ret
     exact ⟨by rw [HW.out, decide_eq_false (by omega)]; rfl, HB.out⟩
   ·have h11 : ¬ (1 : Int) ≤ (i : Int) := by omega
    go_wp2
    go_ret
    exact ⟨by rw [HW.out, decide_eq_false (by omega)]; rfl, HB.out⟩
end Go.Proofs.YtomppblgalepjaaGreatDoor

/- The program's reading of a text, rune by rune, against the document's (layer 14), in plain mathematics. -/
namespace Go.Proofs.YtomppblgalepjaaGreatDoor
set_option linter.unusedVariables false
def ptS (out : List Tk) (tk : Tk) : Int × List Tk := if out.length = 800 then (7, out) else (0, out ++ [tk])
def epS (out : List Tk) (ln : Int) (pt : List Int) : Int × List Tk := if pt = [] then (0, out) else match tokW pt ln with
 | none => (2, out)
 | some tk => ptS out tk
def mkS (out : List Tk) (ln : Int) (rm : Bool) (r : Int) : Int × List Tk × Int × Bool :=
 if r = 32 ∨ r = 9 then (0, out, ln, rm)
 else if r = 35 then (0, out, ln, true)
 else if r = 58 then ((ptS out (3, ⟨#[]⟩, 0, ln)).1, (ptS out (3, ⟨#[]⟩, 0, ln)).2, ln, rm)
 else if r = 44 then ((ptS out (4, ⟨#[]⟩, 0, ln)).1, (ptS out (4, ⟨#[]⟩, 0, ln)).2, ln, rm)
 else if r = 10 then (if out.length = 800 then (7, out, ln, rm) else (0, out ++ [(5, ⟨#[]⟩, 0, ln)], ln + 1, false))
 else (2, out, ln, rm)
def nextS (out : List Tk) (ln : Int) (pt : List Int) (rm : Bool) (r : Int) : Int × List Tk × Int × List Int × Bool :=
 if rm = true ∧ r ≠ 10 then (0, out, ln, pt, rm)
 else if isWd r = true then (0, out, ln, pt ++ [r], rm)
 else if (epS out ln pt).1 = 0 then ((mkS (epS out ln pt).2 ln rm r).1, (mkS (epS out ln pt).2 ln rm r).2.1, (mkS (epS out ln pt).2 ln rm r).2.2.1, [], (mkS (epS out ln pt).2 ln rm r).2.2.2)
 else ((epS out ln pt).1, (epS out ln pt).2, ln, [], rm)
def endS (out : List Tk) (ln : Int) (pt : List Int) : Int × List Tk := if (epS out ln pt).1 = 0 then ptS (epS out ln pt).2 (0, ⟨#[]⟩, 0, ln) else epS out ln pt
def lexC (out : List Tk) (ln : Int) (pt : List Int) (rm : Bool) (l : List Int) : LxR := lexS (pt ++ (if rm = true then l.dropWhile (fun x => decide (x ≠ 10)) else l)) ln out
def GoodR (out : List Tk) (pt : List Int) (rm : Bool) : Prop := out.length ≤ 800 ∧ (∀ c ∈ pt, isWd c = true) ∧ (rm = true → pt = [])
theorem ptS_len {out : List Tk} (h : out.length ≤ 800) (tk : Tk) : (ptS out tk).2.length ≤ 800 := by
 unfold ptS
 split
 ·exact h
 ·simp only [List.length_append, List.length_singleton]; omega
theorem push_is {out : List Tk} (h : out.length ≤ 800) (tk : Tk) (ln2 : Int) (k : Int → List Tk → LxR) : pushT out tk ln2 k = if (ptS out tk).1 = 0 then k ln2 (ptS out tk).2 else .error (tk.2.2.2, (ptS out tk).1) := by
 unfold ptS
 by_cases h8 : out.length = 800
 ·rw [if_pos h8, push_big (by omega)]
  rfl
 ·rw [if_neg h8, push_ok (by omega)]
  rfl
theorem epS_len {out : List Tk} (h : out.length ≤ 800) (ln : Int) (pt : List Int) : (epS out ln pt).2.length ≤ 800 := by
 unfold epS
 split
 ·exact h
 ·split
  ·exact h
  ·exact ptS_len h _
theorem epS_none {out : List Tk} {ln : Int} {pt : List Int} (hp : pt ≠ []) (h : tokW pt ln = none) : epS out ln pt = (2, out) := by
 unfold epS
 rw [if_neg hp, h]
theorem epS_some {out : List Tk} {ln : Int} {pt : List Int} (hp : pt ≠ []) {tk : Tk} (h : tokW pt ln = some tk) : epS out ln pt = ptS out tk := by
 unfold epS
 rw [if_neg hp, h]
theorem ep_is {out : List Tk} (h : out.length ≤ 800) (ln : Int) {pt : List Int} (hp : ∀ c ∈ pt, isWd c = true) {m : List Int} (hm : m = [] ∨ ∃ c t, m = c :: t ∧ isWd c = false) : lexS (pt ++ m) ln out = if (epS out ln pt).1 = 0 then lexS m ln (epS out ln pt).2 else .error (ln, (epS out ln pt).1) := by
 match pt, hp with
 | [], hp => rfl
 | c :: t, hp =>
  have hc := hp c (List.mem_cons_self ..)
  have ht := takeW_all (l := t) (fun x hx => hp x (List.mem_cons_of_mem _ hx)) hm
  rw [List.cons_append]
  cases hk : tokW (c :: t) ln with
  | none =>
   rw [lexS_none hc _ ln out (by rw [ht.1]; exact hk), epS_none (by simp) hk]
   rfl
  | some tk =>
   rw [lexS_word hc _ ln out (by rw [ht.1]; exact hk), ht.2, push_is h, tokW_line hk, epS_some (by simp) hk]
theorem mkS_blank {out : List Tk} {ln : Int} {rm : Bool} {r : Int} (h : r = 32 ∨ r = 9) : mkS out ln rm r = (0, out, ln, rm) := by unfold mkS; rw [if_pos h]
theorem mkS_hash {out : List Tk} {ln : Int} {rm : Bool} : mkS out ln rm 35 = (0, out, ln, true) := by unfold mkS; rw [if_neg (by decide), if_pos rfl]
theorem mkS_colon {out : List Tk} {ln : Int} {rm : Bool} : mkS out ln rm 58 = ((ptS out (3, ⟨#[]⟩, 0, ln)).1, (ptS out (3, ⟨#[]⟩, 0, ln)).2, ln, rm) := by unfold mkS; rw [if_neg (by decide), if_neg (by decide), if_pos rfl]
theorem mkS_comma {out : List Tk} {ln : Int} {rm : Bool} : mkS out ln rm 44 = ((ptS out (4, ⟨#[]⟩, 0, ln)).1, (ptS out (4, ⟨#[]⟩, 0, ln)).2, ln, rm) := by unfold mkS; rw [if_neg (by decide), if_neg (by decide), if_neg (by decide), if_pos rfl]
theorem mkS_line {out : List Tk} {ln : Int} {rm : Bool} : mkS out ln rm 10 = (if out.length = 800 then (7, out, ln, rm) else (0, out ++ [(5, ⟨#[]⟩, 0, ln)], ln + 1, false)) := by unfold mkS; rw [if_neg (by decide), if_neg (by decide), if_neg (by decide), if_neg (by decide), if_pos rfl]
theorem mkS_bad {out : List Tk} {ln : Int} {rm : Bool} {r : Int} (h1 : ¬ (r = 32 ∨ r = 9)) (h2 : r ≠ 35) (h3 : r ≠ 58) (h4 : r ≠ 44) (h5 : r ≠ 10) : mkS out ln rm r = (2, out, ln, rm) := by unfold mkS; rw [if_neg h1, if_neg h2, if_neg h3, if_neg h4, if_neg h5]
theorem mk_is {out : List Tk} (h : out.length ≤ 800) (ln : Int) (rm : Bool) {r : Int} (hr : rm = true → r = 10) (hw : isWd r = false) (m : List Int) : lexS (r :: m) ln out = (if (mkS out ln rm r).1 = 0 then lexC (mkS out ln rm r).2.1 (mkS out ln rm r).2.2.1 [] (mkS out ln rm r).2.2.2 m else .error ((mkS out ln rm r).2.2.1, (mkS out ln rm r).1)) ∧ (mkS out ln rm r).2.1.length ≤ 800 := by
 by_cases h5 : r = 10
 ·subst h5
  rw [mkS_line, lexS_line]
  by_cases h8 : out.length = 800
  ·rw [if_pos h8, push_big (by omega)]
   exact ⟨rfl, h⟩
  ·rw [if_neg h8, push_ok (by omega)]
   refine ⟨rfl, ?_⟩
   simp only [List.length_append, List.length_singleton]
   omega
 ·have hf : rm = false := by
   cases rm
   ·rfl
   ·exact absurd (hr rfl) h5
  subst hf
  by_cases h1 : r = 32 ∨ r = 9
  ·rw [mkS_blank h1]
   exact ⟨lexS_blank h1 m ln out, h⟩
  ·by_cases h2 : r = 35
   ·subst h2
    rw [mkS_hash]
    exact ⟨lexS_hash m ln out, h⟩
   ·by_cases h3 : r = 58
    ·subst h3
     rw [mkS_colon, lexS_colon, push_is h]
     exact ⟨rfl, ptS_len h _⟩
    ·by_cases h4 : r = 44
     ·subst h4
      rw [mkS_comma, lexS_comma, push_is h]
      exact ⟨rfl, ptS_len h _⟩
     ·rw [mkS_bad h1 h2 h3 h4 h5, lexS_bad h1 h2 h3 h4 h5 hw]
      exact ⟨rfl, h⟩
theorem wd10 : isWd 10 = false := by decide
theorem next_is {out : List Tk} {pt : List Int} {rm : Bool} (hg : GoodR out pt rm) (ln : Int) (r : Int) (m : List Int) {c : Int} {out' : List Tk} {ln' : Int} {pt' : List Int} {rm' : Bool} (hn : nextS out ln pt rm r = (c, out', ln', pt', rm')) : (c = 0 → lexC out ln pt rm (r :: m) = lexC out' ln' pt' rm' m ∧ GoodR out' pt' rm') ∧ (c ≠ 0 → lexC out ln pt rm (r :: m) = .error (ln', c)) := by
 obtain ⟨g1, g2, g3⟩ := hg
 unfold nextS at hn
 by_cases h1 : rm = true ∧ r ≠ 10
 ·rw [if_pos h1] at hn
  cases hn
  refine ⟨fun _ => ⟨?_, g1, g2, g3⟩, fun h => absurd rfl h⟩
  unfold lexC
  rw [if_pos h1.1, if_pos h1.1, List.dropWhile_cons, if_pos (by simpa using h1.2)]
 ·rw [if_neg h1] at hn
  by_cases hw : isWd r = true
  ·have hf : rm = false := by
    cases rm
    ·rfl
    ·exact absurd ⟨rfl, fun e => by rw [e, wd10] at hw; cases hw⟩ h1
   subst hf
   rw [if_pos hw] at hn
   cases hn
   refine ⟨fun _ => ⟨?_, g1, fun x hx => ?_, fun h => by cases h⟩, fun h => absurd rfl h⟩
   ·unfold lexC
    rw [if_neg (by decide), if_neg (by decide), List.append_assoc]
    rfl
   ·rcases List.mem_append.1 hx with hx | hx
    ·exact g2 x hx
    ·rw [List.mem_singleton] at hx
     rw [hx]; exact hw
  ·have hw0 : isWd r = false := by simpa using hw
   rw [if_neg hw] at hn
   have hl : lexC out ln pt rm (r :: m) = lexS (pt ++ r :: m) ln out := by
    unfold lexC
    cases rm
    ·rfl
    ·have e : r = 10 := by
      by_cases e : r = 10
      ·exact e
      ·exact absurd ⟨rfl, e⟩ h1
     rw [if_pos rfl, e]
     rfl
   have hr : rm = true → r = 10 := fun h => by
    by_cases e : r = 10
    ·exact e
    ·exact absurd ⟨h, e⟩ h1
   have he := ep_is g1 ln g2 (m := r :: m) (.inr ⟨r, m, rfl, hw0⟩)
   have hk := mk_is (epS_len g1 ln pt) ln rm hr hw0 m
   by_cases h0 : (epS out ln pt).1 = 0
   ·rw [if_pos h0] at hn he
    cases hn
    rw [hl, he]
    refine ⟨fun hc => ⟨?_, hk.2, List.forall_mem_nil _, fun _ => rfl⟩, fun hc => ?_⟩
    ·rw [hk.1, if_pos hc]
    ·rw [hk.1, if_neg hc]
   ·rw [if_neg h0] at hn he
    cases hn
    rw [hl, he]
    exact ⟨fun hc => absurd hc h0, fun _ => rfl⟩
theorem next_hi {out : List Tk} {pt : List Int} (hg : GoodR out pt false) (ln : Int) {r b : Int} (hr : 128 ≤ r) (hb : 128 ≤ b) (m : List Int) {c : Int} {out' : List Tk} {ln' : Int} {pt' : List Int} {rm' : Bool} (hn : nextS out ln pt false r = (c, out', ln', pt', rm')) : c ≠ 0 ∧ lexC out ln pt false (b :: m) = .error (ln', c) := by
 obtain ⟨g1, g2, g3⟩ := hg
 have wd : ∀ x : Int, 128 ≤ x → isWd x = false := fun x hx => by
  unfold isWd isLt isDg
  rw [decide_eq_false (by omega), decide_eq_false (by omega), decide_eq_false (by omega)]
  rfl
 have bad : mkS (epS out ln pt).2 ln false r = (2, (epS out ln pt).2, ln, false) := mkS_bad (by omega) (by omega) (by omega) (by omega) (by omega)
 unfold nextS at hn
 rw [if_neg (by simp), if_neg (by rw [wd r hr]; decide), bad] at hn
 have he := ep_is g1 ln g2 (m := b :: m) (.inr ⟨b, m, rfl, wd b hb⟩)
 have hl : lexC out ln pt false (b :: m) = lexS (pt ++ b :: m) ln out := rfl
 by_cases h0 : (epS out ln pt).1 = 0
 ·rw [if_pos h0] at hn he
  cases hn
  refine ⟨show (2 : Int) ≠ 0 by decide, ?_⟩
  rw [hl, he]
  exact lexS_bad (by omega) (by omega) (by omega) (by omega) (by omega) (wd b hb) m ln _
 ·rw [if_neg h0] at hn he
  cases hn
  exact ⟨h0, by rw [hl, he]⟩
theorem end_is {out : List Tk} {pt : List Int} {rm : Bool} (hg : GoodR out pt rm) (ln : Int) {c : Int} {out' : List Tk} (hn : endS out ln pt = (c, out')) : (c = 0 → finL (lexC out ln pt rm []) = (out', 0, 0)) ∧ (c ≠ 0 → finL (lexC out ln pt rm []) = ([], ln, c)) := by
 obtain ⟨g1, g2, g3⟩ := hg
 have hl : lexC out ln pt rm [] = lexS (pt ++ []) ln out := by
  unfold lexC
  cases rm <;> rfl
 have he := ep_is g1 ln g2 (m := []) (.inl rfl)
 have h8 := epS_len g1 ln pt
 unfold endS at hn
 rw [hl, he]
 by_cases h0 : (epS out ln pt).1 = 0
 ·rw [if_pos h0] at hn ⊢
  rw [lexS_nil]
  unfold ptS at hn
  unfold finL
  generalize (epS out ln pt).2 = q at hn h8
  by_cases hq : q.length = 800
  ·rw [if_pos hq] at hn
   cases hn
   refine ⟨fun h => absurd h (by decide), fun _ => ?_⟩
   show (if 800 < out'.length + 1 then _ else _) = _
   rw [if_pos (by omega)]
  ·rw [if_neg hq] at hn
   cases hn
   refine ⟨fun _ => ?_, fun h => absurd rfl h⟩
   show (if 800 < q.length + 1 then _ else _) = _
   rw [if_neg (by omega)]
 ·rw [if_neg h0] at hn ⊢
  rw [hn]
  exact ⟨fun h => absurd (by rw [hn]; exact h) h0, fun _ => rfl⟩
end Go.Proofs.YtomppblgalepjaaGreatDoor

