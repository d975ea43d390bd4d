/- What is said of memory and of numbers, gathered (CMath, CCheck, CSet, CRef2, CTurn, DMath, RMath, EMath, EMem, EFun1, EFun3, EEvt, EAhead, EGet3, EClo, EFun2, EOpen, EOrd2, ERef1, SRef1, SClo, SOpen, SOrd, SRef3). -/
import Derived.Test.YtiodlpoeifmldaaGBase
import Derived.Test.YtiodlpoeifmldaaAB2
import Derived.Deep.RegionHeld3
import Derived.Laws.BytesArg
import Derived.Lib.ConvBytes
import Derived.Deep.SlicePairs
import Derived.Lib.SmallJoins
namespace Go.Proofs.Ytiodlpoeifmldaa
def sumL (a : List Int) : Int := at5 a 0 + at5 a 1 + at5 a 2 + at5 a 3 + at5 a 4
end Go.Proofs.Ytiodlpoeifmldaa

namespace Go.Proofs.Ytiodlpoeifmldaa
open Go.RowKit
set_option linter.unusedVariables false
theorem eq_drop {l m : List Int} {k : Nat} (h : k < l.length) (h2 : k < m.length) : (l.drop k = m.drop k) ↔ (l.getD k 0 = m.getD k 0 ∧ l.drop (k + 1) = m.drop (k + 1)) := by
  rw [List.drop_eq_getElem_cons h, List.drop_eq_getElem_cons h2, List.cons.injEq]
  simp [List.getD_eq_getElem?_getD, h, h2]
set_option maxHeartbeats 400000 in
/-- The document's 'Same'. -/
theorem same_any (a a' : Option Addr) (n cap n' cap' : Nat) (c d : List Int) (w : World) (hN : NS w a n c) (hN' : NS w a' n' d) :
    Calls Try.prog 83 #[.slice a n cap, .slice a' n' cap'] w fun e w' => e = .returned (.bool (decide (c = d))) ∧ Below w.heap.size w w' := by
  obtain ⟨hlen, hmax, hcells⟩ := hN
  obtain ⟨hlen', hmax', hcells'⟩ := hN'
  unfold maxLen at hmax hmax'
  by_cases hnn : n = n'
  · subst hnn
    have HL := hide hlen
    have HL' := hide hlen'
    have HC := hide hcells
    have HC' := hide hcells'
    clear hlen hlen' hcells hcells'
    go_enter Try.func83, Try.ntmps83
    go_wp2
    go_loopw [5] (fun i wr => ∃ k : Nat, k ≤ n ∧ i = .int .i64 k ∧ Below w.heap.size w wr ∧ Hid ((c = d) ↔ (c.drop k = d.drop k))) (fun i _ => n - (intOf i).toNat)
    case atStart => exact ⟨0, by omega, rfl, Below.refl _ _, by unfold Hid; simp⟩
    case round =>
      obtain ⟨k, hk, rfl, hbel, hH⟩ := hrel
      by_cases hlt : k < n
      · rcases HC.out with h0 | ⟨b, off, rfl, hc⟩
        · omega
        · rcases HC'.out with h0 | ⟨b', off', rfl, hc'⟩
          · omega
          · have hck := ((Ext.refl w).below hbel) _ _ (hc k hlt)
            have hck' := ((Ext.refl w).below hbel) _ _ (hc' k hlt)
            have hst : Hid ((c = d) ↔ (c.getD k 0 = d.getD k 0 ∧ c.drop (k + 1) = d.drop (k + 1))) := by
              have h2 := hH.out
              rw [eq_drop (by rw [HL.out]; exact hlt) (by rw [HL'.out]; exact hlt)] at h2
              exact h2
            clear hc hc' hH
            generalize c.getD k 0 = x at hck hst
            generalize d.getD k 0 = y at hck' hst
            by_cases hxy : x = y
            · have hst2 : Hid ((c = d) ↔ (c.drop (k + 1) = d.drop (k + 1))) := by have h2 := hst.out; unfold Hid; rw [h2]; simp [hxy]
              clear hst
              subst hxy
              go_wp2
              go_region
              all_goals go_wp2
              all_goals go_roundw
              all_goals first | exact ⟨k + 1, by omega, by go_num, by first | exact hbel | exact hbel.drew, hst2⟩ | (simp [intOf]; omega)
            · have HE : Hid (false = decide (c = d)) := by have h2 := hst.out; unfold Hid; simp [h2, hxy]
              have hxy2 : (x == y) = false := by simpa using hxy
              clear hst
              go_wp2
              go_region
              all_goals go_wp2
              all_goals go_ret
              all_goals exact ⟨retB HE.out, by first | exact hbel | exact hbel.drew⟩
      · have hkl : k = n := by omega
        subst hkl
        have HE : Hid (true = decide (c = d)) := by
          have h2 := hH.out
          rw [List.drop_of_length_le (by rw [HL.out]; exact Nat.le_refl _), List.drop_of_length_le (by rw [HL'.out]; exact Nat.le_refl _)] at h2
          unfold Hid; simp [h2]
        clear hH
        go_wp2
        go_ret
        exact ⟨retB HE.out, hbel⟩
  · have HE : Hid (false = decide (c = d)) := by
      unfold Hid; symm; rw [decide_eq_false_iff_not]; intro hh; subst hh; omega
    have hnn' : ¬ ((n : Int) = n') := by omega
    clear hlen hlen' hcells hcells'
    go_enter Try.func83, Try.ntmps83
    go_wp2
    go_ret
    exact ⟨retB HE.out, Below.refl _ _⟩
end Go.Proofs.Ytiodlpoeifmldaa

namespace Go.Proofs.Ytiodlpoeifmldaa
open Go.RowKit
set_option linter.unusedVariables false
theorem getZ_bd (c : List Int) (r : Int) : 0 ≤ getZ c r ∧ getZ c r ≤ 1048576 := by
  unfold getZ; split
  · exact at5_bd _ _
  · omega
end Go.Proofs.Ytiodlpoeifmldaa

namespace Go.Proofs.Ytiodlpoeifmldaa
open Go.RowKit
set_option linter.unusedVariables false
set_option maxHeartbeats 1000000 in
theorem sum_ref (a : Option Addr) (n cap : Nat) (c : List Int) (w : World) (hN : NS w a n c) :
    Calls Try.prog 69 #[.slice a n cap] w fun e w' => e = .returned (.int .i64 (sumL c)) ∧ w' = w := by
  have b0 := at5_bd c 0
  have G0 := hide (get_ref a n cap c 1 w hN 0 rfl)
  have b1 := at5_bd c 1
  have G1 := hide (get_ref a n cap c 2 w hN 1 rfl)
  have b2 := at5_bd c 2
  have G2 := hide (get_ref a n cap c 3 w hN 2 rfl)
  have b3 := at5_bd c 3
  have G3 := hide (get_ref a n cap c 4 w hN 3 rfl)
  have b4 := at5_bd c 4
  have G4 := hide (get_ref a n cap c 5 w hN 4 rfl)
  have HS : Hid (at5 c 0 + at5 c 1 + at5 c 2 + at5 c 3 + at5 c 4 = sumL c) := rfl
  clear hN
  generalize at5 c 0 = x0 at *
  generalize at5 c 1 = x1 at *
  generalize at5 c 2 = x2 at *
  generalize at5 c 3 = x3 at *
  generalize at5 c 4 = x4 at *
  go_enter Try.func69, Try.ntmps69
  go_wp2
  go_loop [3, 4] (fun s i => (i = .int .i64 1 ∧ s = .int .i64 0) ∨ (i = .int .i64 2 ∧ s = .int .i64 x0) ∨ (i = .int .i64 3 ∧ s = .int .i64 (x0 + x1)) ∨ (i = .int .i64 4 ∧ s = .int .i64 (x0 + x1 + x2)) ∨ (i = .int .i64 5 ∧ s = .int .i64 (x0 + x1 + x2 + x3)) ∨ (i = .int .i64 6 ∧ s = .int .i64 (x0 + x1 + x2 + x3 + x4))) (fun _ i => 6 - (intOf i).toNat)
  case atStart => exact .inl ⟨rfl, rfl⟩
  case round =>
    rcases hrel with ⟨rfl, rfl⟩ | ⟨rfl, rfl⟩ | ⟨rfl, rfl⟩ | ⟨rfl, rfl⟩ | ⟨rfl, rfl⟩ | ⟨rfl, rfl⟩
    · go_wp2_with (go_at_call 31; refine G0.out.mono ?_; rintro e w' ⟨rfl, rfl⟩)
      go_round
      case rel => exact .inr (.inl ⟨rfl, rfl⟩)
      case measure => decide
    · go_wp2_with (go_at_call 31; refine G1.out.mono ?_; rintro e w' ⟨rfl, rfl⟩)
      go_round
      case rel => exact .inr (.inr (.inl ⟨rfl, rfl⟩))
      case measure => decide
    · go_wp2_with (go_at_call 31; refine G2.out.mono ?_; rintro e w' ⟨rfl, rfl⟩)
      go_round
      case rel => exact .inr (.inr (.inr (.inl ⟨rfl, rfl⟩)))
      case measure => decide
    · go_wp2_with (go_at_call 31; refine G3.out.mono ?_; rintro e w' ⟨rfl, rfl⟩)
      go_round
      case rel => exact .inr (.inr (.inr (.inr (.inl ⟨rfl, rfl⟩))))
      case measure => decide
    · go_wp2_with (go_at_call 31; refine G4.out.mono ?_; rintro e w' ⟨rfl, rfl⟩)
      go_round
      case rel => exact .inr (.inr (.inr (.inr (.inr (⟨rfl, rfl⟩)))))
      case measure => decide
    · go_wp2
      go_ret
      exact ⟨ret_int HS.out, rfl⟩
end Go.Proofs.Ytiodlpoeifmldaa

namespace Go.Proofs.Ytiodlpoeifmldaa
open Go.RowKit
set_option linter.unusedVariables false
theorem getZ_in (c : List Int) (r : Nat) (hr : r < 5) : getZ c (r + 1) = at5 c r := by
  unfold getZ; rw [if_pos (by omega)]; congr 1
end Go.Proofs.Ytiodlpoeifmldaa

namespace Go.Proofs.Ytiodlpoeifmldaa
theorem ordD_len5 (l : List Dot) : (ordD l).length ≤ l.length := by have := foldl_putD_len l []; simpa [ordD] using this
end Go.Proofs.Ytiodlpoeifmldaa

namespace Go.Proofs.Ytiodlpoeifmldaa
theorem pln_vec (c : List Int) (hm : mayC c = true) : pln (vec c) = pln c := by
  have h5 := (mayC_iff.1 hm).1
  have e : vec c = c ++ List.replicate (5 - c.length) 0 := by
    unfold vec
    have : ∀ k, at5 c k = c.getD k 0 := fun k => if_pos hm
    simp only [this]
    match c, h5 with
    | [], _ => rfl
    | [_], _ => rfl
    | [_, _], _ => rfl
    | [_, _, _], _ => rfl
    | [_, _, _, _], _ => rfl
    | [_, _, _, _, _], _ => rfl
  rw [e]
  generalize 5 - c.length = k
  clear e h5 hm
  induction k with
  | zero => simp
  | succ k ih => rw [List.replicate_succ', ← List.append_assoc, pln_zero]; exact ih
end Go.Proofs.Ytiodlpoeifmldaa

namespace Go.Proofs.Ytiodlpoeifmldaa
/-- An effect: Kind, Of, Key, N, To, Word. -/
abbrev Eff := Int × Int × List Int × Int × Int × List Int
/-- An event: Dot, Past, Effects. -/
abbrev Evt := Dot × List Int × List Eff
/-- What is named by the kind is in its bounds, all else nought. -/
def fits (k n t : Int) (wl : Nat) : Bool := decide (((k = 1 ∨ k = 2) ∧ n = 0 ∧ t = 0 ∧ wl = 0) ∨ ((k = 3 ∨ k = 4) ∧ 1 ≤ n ∧ n ≤ 1000 ∧ t = 0 ∧ wl = 0) ∨ (k = 5 ∧ 1 ≤ n ∧ n ≤ 1000 ∧ 1 ≤ t ∧ t ≤ 5 ∧ wl = 0) ∨ (k = 6 ∧ n = 0 ∧ t = 0 ∧ wl ≤ 64))
def mayF (x : Eff) : Bool := decide (1 ≤ x.2.2.1.length ∧ x.2.2.1.length ≤ 32 ∧ 0 ≤ x.2.1 ∧ x.2.1 ≤ 15) && fits x.1 x.2.2.2.1 x.2.2.2.2.1 x.2.2.2.2.2.length
/-- A Past that may be, and is plain. -/
def plainB (c : List Int) : Bool := mayC c && decide (pln c = c)
/-- Dot and Past. -/
def headB (d : Dot) (c : List Int) : Bool := mayD d && plainB c && decide (getZ c d.1 = d.2 - 1)
def mayE (e : Evt) : Bool := headB e.1 e.2.1 && decide (1 ≤ e.2.2.length ∧ e.2.2.length ≤ 16) && e.2.2.all mayF
/-- Keys and words are bytes. -/
def ByF (x : Eff) : Prop := By x.2.2.1 ∧ By x.2.2.2.2.2
theorem fits_iff {k n t : Int} {wl : Nat} : fits k n t wl = true ↔ (((k = 1 ∨ k = 2) ∧ n = 0 ∧ t = 0 ∧ wl = 0) ∨ ((k = 3 ∨ k = 4) ∧ 1 ≤ n ∧ n ≤ 1000 ∧ t = 0 ∧ wl = 0) ∨ (k = 5 ∧ 1 ≤ n ∧ n ≤ 1000 ∧ 1 ≤ t ∧ t ≤ 5 ∧ wl = 0) ∨ (k = 6 ∧ n = 0 ∧ t = 0 ∧ wl ≤ 64)) := by simp [fits]
theorem plainB_iff {c : List Int} : plainB c = true ↔ mayC c = true ∧ pln c = c := by simp [plainB]
theorem headB_iff {d : Dot} {c : List Int} : headB d c = true ↔ mayD d = true ∧ (mayC c = true ∧ pln c = c) ∧ getZ c d.1 = d.2 - 1 := by simp [headB, plainB_iff, and_assoc]
theorem mayE_iff {e : Evt} : mayE e = true ↔ headB e.1 e.2.1 = true ∧ (1 ≤ e.2.2.length ∧ e.2.2.length ≤ 16) ∧ ∀ x ∈ e.2.2, mayF x = true := by simp [mayE, and_assoc]
theorem len2 {α : Type} (l : List α) (h : l.length = 2) : ∃ a b, l = [a, b] := by
  rcases l with _ | ⟨a, _ | ⟨b, _ | ⟨c, r⟩⟩⟩
  · simp at h
  · simp at h
  · exact ⟨a, b, rfl⟩
  · simp at h
theorem len4 {α : Type} (l : List α) (h : l.length = 4) : ∃ a b c d, l = [a, b, c, d] := by
  rcases l with _ | ⟨a, _ | ⟨b, r⟩⟩
  · simp at h
  · simp at h
  · obtain ⟨c, d, rfl⟩ := len2 r (by simpa using h)
    exact ⟨a, b, c, d, rfl⟩
theorem len6 {α : Type} (l : List α) (h : l.length = 6) : ∃ a b c d e f, l = [a, b, c, d, e, f] := by
  rcases l with _ | ⟨a, _ | ⟨b, r⟩⟩
  · simp at h
  · simp at h
  · obtain ⟨c, d, e, f, rfl⟩ := len4 r (by simpa using h)
    exact ⟨a, b, c, d, e, f, rfl⟩
end Go.Proofs.Ytiodlpoeifmldaa

namespace Go.Proofs.Ytiodlpoeifmldaa
open Go.RowKit
set_option linter.unusedVariables false
section
variable {α : Type}
variable {enc : α → List Value} {k : Nat} {T : TypeId}
end
/-! Strings -/
theorem str_size (l : List Int) : (strOfNums l).size = l.length := strOfNums_size l
theorem str_bytes (s : ByteArray) : strOfNums (bytesL s) = s := by
  obtain ⟨⟨d⟩⟩ := s
  simp [strOfNums, bytesL]
  apply List.ext_getElem
  · simp
  · intro i h1 h2; simp
/-! Effects -/
def encF (x : Eff) : List Value := [.int .i64 x.1, .int .i64 x.2.1, .string (strOfNums x.2.2.1), .int .i64 x.2.2.2.1, .int .i64 x.2.2.2.2.1, .string (strOfNums x.2.2.2.2.2)]
/-- A slice's effects. -/
def ES (w : World) (a : Option Addr) (n : Nat) (l : List Eff) : Prop := RS encF 6 w a n l ∧ ∀ x ∈ l, ByF x
theorem ES.below {w w' : World} {a : Option Addr} {n : Nat} {l : List Eff} (h : ES w a n l) (hb : Below w.heap.size w w') : ES w' a n l := ⟨h.1.below hb, h.2⟩
theorem ES.alloc {w : World} {a : Option Addr} {n : Nat} {l : List Eff} (h : ES w a n l) (o : Obj) : ES (w.alloc o) a n l := ⟨h.1.alloc o, h.2⟩
theorem ES.nil (w : World) (p : Option Addr) : ES w p 0 [] := ⟨RS.nil w p, fun x hx => by cases hx⟩
theorem ES.at {w : World} {b off n : Nat} {l : List Eff} (h : ES w (some ⟨b, off, none⟩) n l) (i : Nat) (x : Eff) (hi : l[i]? = some x) :
    w.cell? ⟨b, off + i * 6, none⟩ = some (.int .i64 x.1) ∧ w.cell? ⟨b, off + i * 6 + 1, none⟩ = some (.int .i64 x.2.1) ∧ w.cell? ⟨b, off + i * 6 + 2, none⟩ = some (.string (strOfNums x.2.2.1)) ∧ w.cell? ⟨b, off + i * 6 + 3, none⟩ = some (.int .i64 x.2.2.2.1) ∧ w.cell? ⟨b, off + i * 6 + 4, none⟩ = some (.int .i64 x.2.2.2.2.1) ∧ w.cell? ⟨b, off + i * 6 + 5, none⟩ = some (.string (strOfNums x.2.2.2.2.2)) := by
  rcases h.1.2.2 with h0 | ⟨b', off', ha, hc⟩
  · have := (List.getElem?_eq_some_iff.1 hi).1
    have := h.1.1
    omega
  · cases ha
    exact ⟨hc i x hi 0 _ rfl, hc i x hi 1 _ rfl, hc i x hi 2 _ rfl, hc i x hi 3 _ rfl, hc i x hi 4 _ rfl, hc i x hi 5 _ rfl⟩
end Go.Proofs.Ytiodlpoeifmldaa

namespace Go.Proofs.Ytiodlpoeifmldaa
open Go.RowKit
set_option linter.unusedVariables false
def mayS5x (k o n t : Int) (kl wl : Nat) : Bool := decide (1 ≤ kl ∧ kl ≤ 32 ∧ 0 ≤ o ∧ o ≤ 15) && fits k n t wl
theorem mayS5x_iff {k o n t : Int} {kl wl : Nat} : mayS5x k o n t kl wl = true ↔ (1 ≤ kl ∧ kl ≤ 32 ∧ 0 ≤ o ∧ o ≤ 15) ∧ fits k n t wl = true := by simp [mayS5x]
theorem mayF_S (x : Eff) : mayF x = mayS5x x.1 x.2.1 x.2.2.2.1 x.2.2.2.2.1 (strOfNums x.2.2.1).size (strOfNums x.2.2.2.2.2).size := by rw [str_size, str_size]; rfl
theorem toList_length (s : ByteArray) : s.toList.length = s.size := by
  rw [ByteArray.toList_eq]; rfl
theorem isE (s : ByteArray) : s.toList.isEmpty = decide (s.size = 0) := by
  rw [Bool.eq_iff_iff, decide_eq_true_iff, List.isEmpty_iff_length_eq_zero, toList_length]
theorem may_no {b : Bool} {k o n t : Int} {kl wl : Nat} (hf : mayS5x k o n t kl wl = b) (h : ¬ ((1 ≤ kl ∧ kl ≤ 32 ∧ 0 ≤ o ∧ o ≤ 15) ∧ (((k = 1 ∨ k = 2) ∧ n = 0 ∧ t = 0 ∧ wl = 0) ∨ ((k = 3 ∨ k = 4) ∧ 1 ≤ n ∧ n ≤ 1000 ∧ t = 0 ∧ wl = 0) ∨ (k = 5 ∧ 1 ≤ n ∧ n ≤ 1000 ∧ 1 ≤ t ∧ t ≤ 5 ∧ wl = 0) ∨ (k = 6 ∧ n = 0 ∧ t = 0 ∧ wl ≤ 64)))) : false = b := by
  rw [← hf]; symm; rw [← Bool.not_eq_true, mayS5x_iff, fits_iff]; exact h
theorem may_if {k o n t : Int} {kl wl : Nat} {f b : Bool} {p : Prop} [Decidable p] (hf : mayS5x k o n t kl wl = f) (hb : b = decide p) (h : p ↔ ((1 ≤ kl ∧ kl ≤ 32 ∧ 0 ≤ o ∧ o ≤ 15) ∧ (((k = 1 ∨ k = 2) ∧ n = 0 ∧ t = 0 ∧ wl = 0) ∨ ((k = 3 ∨ k = 4) ∧ 1 ≤ n ∧ n ≤ 1000 ∧ t = 0 ∧ wl = 0) ∨ (k = 5 ∧ 1 ≤ n ∧ n ≤ 1000 ∧ 1 ≤ t ∧ t ≤ 5 ∧ wl = 0) ∨ (k = 6 ∧ n = 0 ∧ t = 0 ∧ wl ≤ 64)))) : b = f := by
  rw [← hf, hb, Bool.eq_iff_iff, decide_eq_true_iff, mayS5x_iff, fits_iff]; exact h
end Go.Proofs.Ytiodlpoeifmldaa

namespace Go.Proofs.Ytiodlpoeifmldaa
open Go.RowKit
set_option linter.unusedVariables false
/-- An event's box. -/
abbrev bxE (r s : Int) (pa : Option Addr) (na ca : Nat) (pe : Option Addr) (ne ce : Nat) : Obj := .cells #[.int .i64 r, .int .i64 s, .slice pa na ca, .slice pe ne ce] 60
theorem allF_drop {l : List Eff} {k : Nat} {x : Eff} (h : l[k]? = some x) : (l.drop k).all mayF = (mayF x && (l.drop (k + 1)).all mayF) := by
  obtain ⟨h1, h2⟩ := List.getElem?_eq_some_iff.1 h
  rw [List.drop_eq_getElem_cons h1, h2, List.all_cons]
theorem not_may1 {r s : Int} {c : List Int} {l : List Eff} (h : mayD (r, s) = false) : mayE ((r, s), c, l) = false := by
  rw [← Bool.not_eq_true, mayE_iff, headB_iff]; rintro ⟨⟨h1, _⟩, _⟩; rw [h] at h1; cases h1
theorem not_may2 {r s : Int} {c : List Int} {l : List Eff} (h : plainB c = false) : mayE ((r, s), c, l) = false := by
  rw [← Bool.not_eq_true, mayE_iff, headB_iff, ← plainB_iff]; rintro ⟨⟨_, h1, _⟩, _⟩; rw [h] at h1; cases h1
theorem not_may3 {r s : Int} {c : List Int} {l : List Eff} (h : ¬ getZ c r = s - 1) : mayE ((r, s), c, l) = false := by
  rw [← Bool.not_eq_true, mayE_iff, headB_iff]; rintro ⟨⟨_, _, h1⟩, _⟩; exact h h1
end Go.Proofs.Ytiodlpoeifmldaa

namespace Go.Proofs.Ytiodlpoeifmldaa
open Go.RowKit
set_option linter.unusedVariables false
/-- What an event's cells say. -/
def Rel (w : World) (x : Rv) (e : Evt) : Prop := e.1 = (x.1, x.2.1) ∧ (NS w x.2.2.1.1 x.2.2.1.2.1 e.2.1 ∧ CP x.2.2.1.1 x.2.2.1.2.1 x.2.2.1.2.2) ∧ (ES w x.2.2.2.1 x.2.2.2.2.1 e.2.2 ∧ CP x.2.2.2.1 x.2.2.2.2.1 x.2.2.2.2.2)
theorem Rel.below {w w' : World} {x : Rv} {e : Evt} (h : Rel w x e) (hb : Below w.heap.size w w') : Rel w' x e := ⟨h.1, ⟨h.2.1.1.below hb, h.2.1.2⟩, ⟨h.2.2.1.below hb, h.2.2.2⟩⟩
theorem Rel.alloc {w : World} {x : Rv} {e : Evt} (h : Rel w x e) (o : Obj) : Rel (w.alloc o) x e := h.below (bel1 w o)
/-- A slice's events. -/
def EVS (w : World) (a : Option Addr) (n : Nat) (es : List Evt) : Prop := ∃ xs : List Rv, RS encV 4 w a n xs ∧ es.length = n ∧ ∀ (i : Nat) x e, xs[i]? = some x → es[i]? = some e → Rel w x e
theorem EVS.below {w w' : World} {a : Option Addr} {n : Nat} {es : List Evt} (h : EVS w a n es) (hb : Below w.heap.size w w') : EVS w' a n es := by
  obtain ⟨xs, h1, h2, h3⟩ := h
  exact ⟨xs, h1.below hb, h2, fun i x e hx he => (h3 i x e hx he).below hb⟩
theorem EVS.alloc {w : World} {a : Option Addr} {n : Nat} {es : List Evt} (h : EVS w a n es) (o : Obj) : EVS (w.alloc o) a n es := h.below (bel1 w o)
theorem EVS.len {w : World} {a : Option Addr} {n : Nat} {es : List Evt} (h : EVS w a n es) : es.length = n := h.choose_spec.2.1
theorem EVS.max {w : World} {a : Option Addr} {n : Nat} {es : List Evt} (h : EVS w a n es) : n ≤ maxLen := h.choose_spec.1.2.1
theorem EVS.addr {w : World} {a : Option Addr} {n : Nat} {es : List Evt} (h : EVS w a n es) (h0 : 0 < n) : ∃ b off, a = some ⟨b, off, none⟩ := by
  obtain ⟨xs, h1, h2, h3⟩ := h
  rcases h1.2.2 with hz | ⟨b, off, ha, _⟩
  · omega
  · exact ⟨b, off, ha⟩
theorem EVS.at {w : World} {b off n : Nat} {es : List Evt} (h : EVS w (some ⟨b, off, none⟩) n es) (i : Nat) (hi : i < n) :
    ∃ (r s : Int) (pa : Option Addr) (na ca : Nat) (pe : Option Addr) (ne ce : Nat) (c : List Int) (l : List Eff), es[i]? = some ((r, s), c, l) ∧ w.cell? ⟨b, off + i * 4, none⟩ = some (.int .i64 r) ∧ w.cell? ⟨b, off + i * 4 + 1, none⟩ = some (.int .i64 s) ∧ w.cell? ⟨b, off + i * 4 + 2, none⟩ = some (.slice pa na ca) ∧ w.cell? ⟨b, off + i * 4 + 3, none⟩ = some (.slice pe ne ce) ∧ NS w pa na c ∧ CP pa na ca ∧ ES w pe ne l ∧ CP pe ne ce := by
  obtain ⟨xs, h1, h2, h3⟩ := h
  obtain ⟨x, hx⟩ : ∃ x, xs[i]? = some x := ⟨_, List.getElem?_eq_getElem (by rw [h1.1]; exact hi)⟩
  obtain ⟨e, he⟩ : ∃ e, es[i]? = some e := ⟨_, List.getElem?_eq_getElem (by rw [h2]; exact hi)⟩
  rcases h1.2.2 with hz | ⟨b', off', ha, hc⟩
  · omega
  · cases ha
    have q := hc i _ hx
    have hr := h3 i _ _ hx he
    obtain ⟨r, s, ⟨pa, na, ca⟩, pe, ne, ce⟩ := x
    obtain ⟨d, c, l⟩ := e
    obtain ⟨hd, ⟨k1, k2⟩, k3, k4⟩ := hr
    simp only at hd k1 k2 k3 k4
    subst hd
    exact ⟨r, s, pa, na, ca, pe, ne, ce, c, l, he, q 0 _ rfl, q 1 _ rfl, q 2 _ rfl, q 3 _ rfl, k1, k2, k3, k4⟩
theorem EVS.nil (w : World) (p : Option Addr) : EVS w p 0 [] := ⟨[], RS.nil w p, rfl, fun i x e hx => by simp at hx⟩
theorem EVS.new (w : World) (g : Nat) (hg : g = w.heap.size) (xs : List Rv) (es : List Evt) (C : Array Value) (hC : C = (xs.flatMap encV).toArray) (t : TypeId) (fr : Nat × Nat) (n : Nat) (hn : xs.length = n) (hm : es.length = n) (hmax : n ≤ maxLen) (h : ∀ (i : Nat) x e, xs[i]? = some x → es[i]? = some e → Rel w x e) :
    EVS (w.alloc (.cells C t fr)) (some ⟨g, 0, none⟩) n es := ⟨xs, RS.new encV_len w g hg xs C hC t fr n hn hmax, hm, fun i x e hx he => (h i x e hx he).alloc _⟩
end Go.Proofs.Ytiodlpoeifmldaa

namespace Go.Proofs.Ytiodlpoeifmldaa
open Go.RowKit
set_option linter.unusedVariables false
/-- One is ahead of another one: its Dot may be, and its Seq is not above its Rep's number. -/
def ahdB (d : Dot) (c : List Int) : Bool := mayD d && decide (d.2 ≤ getZ c d.1)
end Go.Proofs.Ytiodlpoeifmldaa

namespace Go.Proofs.Ytiodlpoeifmldaa
open Go.RowKit
set_option linter.unusedVariables false
section
variable {α : Type} {enc : α → List Value} {k : Nat} {T : TypeId}
end
theorem ES.kp {g : Nat} {u W : World} {p : Option Addr} {n : Nat} {l : List Eff} (h : ES u p n l) (hk : KP g u W) (hp : ∀ a, p = some a → a.block ≠ g) : ES W p n l := by
  obtain ⟨⟨h1, h2, h4⟩, h5⟩ := h
  refine ⟨⟨h1, h2, ?_⟩, h5⟩
  rcases h4 with h0 | ⟨b, off, ha, hc⟩
  · exact .inl h0
  · exact .inr ⟨b, off, ha, fun i x hi j v hj => hk _ _ (hc i x hi j v hj) (show b ≠ g from hp _ ha)⟩
end Go.Proofs.Ytiodlpoeifmldaa

namespace Go.Proofs.Ytiodlpoeifmldaa
open Go.RowKit
set_option linter.unusedVariables false
/-- How many events a replica has. -/
def cnt (l : List Evt) (r : Int) : Int := (l.countP fun e => decide (e.1.1 = r) : Nat)
def cnts (l : List Evt) : List Int := [cnt l 1, cnt l 2, cnt l 3, cnt l 4, cnt l 5]
def okC (l : List Evt) (e : Evt) : Bool := decide (e.1.2 ≤ cnt l e.1.1) && decide (wth e.2.1 (cnts l))
def closedB (l : List Evt) : Bool := l.all mayE && decide ((ordD (l.map (·.1))).length = l.length) && l.all (okC l)
theorem cnt_bd (l : List Evt) (r : Int) : 0 ≤ cnt l r ∧ cnt l r ≤ l.length := by
  unfold cnt
  have := List.countP_le_length (p := fun e : Evt => decide (e.1.1 = r)) (l := l)
  omega
theorem cnts_getD (l : List Evt) (j : Nat) (hj : j < 5) : (cnts l).getD j 0 = cnt l ((j : Int) + 1) := by
  have h : j = 0 ∨ j = 1 ∨ j = 2 ∨ j = 3 ∨ j = 4 := by omega
  rcases h with rfl | rfl | rfl | rfl | rfl <;> rfl
theorem take_snocE {l : List Evt} {k : Nat} {x : Evt} (h : l[k]? = some x) : l.take (k + 1) = l.take k ++ [x] := by rw [List.take_add_one, h]; rfl
end Go.Proofs.Ytiodlpoeifmldaa

namespace Go.Proofs.Ytiodlpoeifmldaa
open Go.RowKit
set_option linter.unusedVariables false
theorem may_yes {b : Bool} {k o n t : Int} {kl wl : Nat} (hf : mayS5x k o n t kl wl = b) (h : (1 ≤ kl ∧ kl ≤ 32 ∧ 0 ≤ o ∧ o ≤ 15) ∧ (((k = 1 ∨ k = 2) ∧ n = 0 ∧ t = 0 ∧ wl = 0) ∨ ((k = 3 ∨ k = 4) ∧ 1 ≤ n ∧ n ≤ 1000 ∧ t = 0 ∧ wl = 0) ∨ (k = 5 ∧ 1 ≤ n ∧ n ≤ 1000 ∧ 1 ≤ t ∧ t ≤ 5 ∧ wl = 0) ∨ (k = 6 ∧ n = 0 ∧ t = 0 ∧ wl ≤ 64))) : true = b := by
  rw [← hf]; symm; rw [mayS5x_iff, fits_iff]; exact h
set_option maxHeartbeats 4000000 in
theorem mayEff1 (o n t : Int) (sk sw : ByteArray) (b : Bool) (hf : mayS5x 1 o n t sk.size sw.size = b) (w : World) (h1 : 1 ≤ sk.size) (h2 : (sk.size : Int) ≤ 32) (h3 : 0 ≤ o) (h4 : o ≤ 15) :
    Calls Try.prog 84 #[.agg #[.int .i64 1, .int .i64 o, .string sk, .int .i64 n, .int .i64 t, .string sw]] w fun e w' => e = .returned (.bool b) ∧ Gr w w' := by
  have HF := hide hf
  clear hf
  have hE : sk.toList.isEmpty = false := by rw [isE, decide_eq_false_iff_not]; omega
  have hW := isE sw
  by_cases h5 : sw.size = 0
  · have h6 : sw.toList.isEmpty = true := by rw [isE]; simp [h5]
    clear hW
    go_enter Try.func84, Try.ntmps84
    go_wp2 <;> go_ret <;> (refine ⟨retB ?_, (Gr.refl w).alloc _⟩) <;> (try simp only [bne_iff_ne, ne_eq, bne_eq_false_iff_eq] at *) <;> first | (refine may_no HF.out ?_; omega) | (refine may_if HF.out (isE sw) ?_; omega) | (refine may_if (p := (sw.size : Int) ≤ 64) HF.out ?_ ?_ <;> first | rfl | omega) | (refine may_yes HF.out ?_; omega)
  · have h6 : sw.toList.isEmpty = false := by rw [isE]; simp [h5]
    clear hW
    go_enter Try.func84, Try.ntmps84
    go_wp2 <;> go_ret <;> (refine ⟨retB ?_, (Gr.refl w).alloc _⟩) <;> (try simp only [bne_iff_ne, ne_eq, bne_eq_false_iff_eq] at *) <;> first | (refine may_no HF.out ?_; omega) | (refine may_if HF.out (isE sw) ?_; omega) | (refine may_if (p := (sw.size : Int) ≤ 64) HF.out ?_ ?_ <;> first | rfl | omega) | (refine may_yes HF.out ?_; omega)
set_option maxHeartbeats 4000000 in
theorem mayEff2 (o n t : Int) (sk sw : ByteArray) (b : Bool) (hf : mayS5x 2 o n t sk.size sw.size = b) (w : World) (h1 : 1 ≤ sk.size) (h2 : (sk.size : Int) ≤ 32) (h3 : 0 ≤ o) (h4 : o ≤ 15) :
    Calls Try.prog 84 #[.agg #[.int .i64 2, .int .i64 o, .string sk, .int .i64 n, .int .i64 t, .string sw]] w fun e w' => e = .returned (.bool b) ∧ Gr w w' := by
  have HF := hide hf
  clear hf
  have hE : sk.toList.isEmpty = false := by rw [isE, decide_eq_false_iff_not]; omega
  have hW := isE sw
  by_cases h5 : sw.size = 0
  · have h6 : sw.toList.isEmpty = true := by rw [isE]; simp [h5]
    clear hW
    go_enter Try.func84, Try.ntmps84
    go_wp2 <;> go_ret <;> (refine ⟨retB ?_, (Gr.refl w).alloc _⟩) <;> (try simp only [bne_iff_ne, ne_eq, bne_eq_false_iff_eq] at *) <;> first | (refine may_no HF.out ?_; omega) | (refine may_if HF.out (isE sw) ?_; omega) | (refine may_if (p := (sw.size : Int) ≤ 64) HF.out ?_ ?_ <;> first | rfl | omega) | (refine may_yes HF.out ?_; omega)
  · have h6 : sw.toList.isEmpty = false := by rw [isE]; simp [h5]
    clear hW
    go_enter Try.func84, Try.ntmps84
    go_wp2 <;> go_ret <;> (refine ⟨retB ?_, (Gr.refl w).alloc _⟩) <;> (try simp only [bne_iff_ne, ne_eq, bne_eq_false_iff_eq] at *) <;> first | (refine may_no HF.out ?_; omega) | (refine may_if HF.out (isE sw) ?_; omega) | (refine may_if (p := (sw.size : Int) ≤ 64) HF.out ?_ ?_ <;> first | rfl | omega) | (refine may_yes HF.out ?_; omega)
set_option maxHeartbeats 4000000 in
theorem mayEff3 (o n t : Int) (sk sw : ByteArray) (b : Bool) (hf : mayS5x 3 o n t sk.size sw.size = b) (w : World) (h1 : 1 ≤ sk.size) (h2 : (sk.size : Int) ≤ 32) (h3 : 0 ≤ o) (h4 : o ≤ 15) :
    Calls Try.prog 84 #[.agg #[.int .i64 3, .int .i64 o, .string sk, .int .i64 n, .int .i64 t, .string sw]] w fun e w' => e = .returned (.bool b) ∧ Gr w w' := by
  have HF := hide hf
  clear hf
  have hE : sk.toList.isEmpty = false := by rw [isE, decide_eq_false_iff_not]; omega
  have hW := isE sw
  by_cases h5 : sw.size = 0
  · have h6 : sw.toList.isEmpty = true := by rw [isE]; simp [h5]
    clear hW
    go_enter Try.func84, Try.ntmps84
    go_wp2 <;> go_ret <;> (refine ⟨retB ?_, (Gr.refl w).alloc _⟩) <;> (try simp only [bne_iff_ne, ne_eq, bne_eq_false_iff_eq] at *) <;> first | (refine may_no HF.out ?_; omega) | (refine may_if HF.out (isE sw) ?_; omega) | (refine may_if (p := (sw.size : Int) ≤ 64) HF.out ?_ ?_ <;> first | rfl | omega) | (refine may_yes HF.out ?_; omega)
  · have h6 : sw.toList.isEmpty = false := by rw [isE]; simp [h5]
    clear hW
    go_enter Try.func84, Try.ntmps84
    go_wp2 <;> go_ret <;> (refine ⟨retB ?_, (Gr.refl w).alloc _⟩) <;> (try simp only [bne_iff_ne, ne_eq, bne_eq_false_iff_eq] at *) <;> first | (refine may_no HF.out ?_; omega) | (refine may_if HF.out (isE sw) ?_; omega) | (refine may_if (p := (sw.size : Int) ≤ 64) HF.out ?_ ?_ <;> first | rfl | omega) | (refine may_yes HF.out ?_; omega)
set_option maxHeartbeats 4000000 in
theorem mayEff4 (o n t : Int) (sk sw : ByteArray) (b : Bool) (hf : mayS5x 4 o n t sk.size sw.size = b) (w : World) (h1 : 1 ≤ sk.size) (h2 : (sk.size : Int) ≤ 32) (h3 : 0 ≤ o) (h4 : o ≤ 15) :
    Calls Try.prog 84 #[.agg #[.int .i64 4, .int .i64 o, .string sk, .int .i64 n, .int .i64 t, .string sw]] w fun e w' => e = .returned (.bool b) ∧ Gr w w' := by
  have HF := hide hf
  clear hf
  have hE : sk.toList.isEmpty = false := by rw [isE, decide_eq_false_iff_not]; omega
  have hW := isE sw
  by_cases h5 : sw.size = 0
  · have h6 : sw.toList.isEmpty = true := by rw [isE]; simp [h5]
    clear hW
    go_enter Try.func84, Try.ntmps84
    go_wp2 <;> go_ret <;> (refine ⟨retB ?_, (Gr.refl w).alloc _⟩) <;> (try simp only [bne_iff_ne, ne_eq, bne_eq_false_iff_eq] at *) <;> first | (refine may_no HF.out ?_; omega) | (refine may_if HF.out (isE sw) ?_; omega) | (refine may_if (p := (sw.size : Int) ≤ 64) HF.out ?_ ?_ <;> first | rfl | omega) | (refine may_yes HF.out ?_; omega)
  · have h6 : sw.toList.isEmpty = false := by rw [isE]; simp [h5]
    clear hW
    go_enter Try.func84, Try.ntmps84
    go_wp2 <;> go_ret <;> (refine ⟨retB ?_, (Gr.refl w).alloc _⟩) <;> (try simp only [bne_iff_ne, ne_eq, bne_eq_false_iff_eq] at *) <;> first | (refine may_no HF.out ?_; omega) | (refine may_if HF.out (isE sw) ?_; omega) | (refine may_if (p := (sw.size : Int) ≤ 64) HF.out ?_ ?_ <;> first | rfl | omega) | (refine may_yes HF.out ?_; omega)
set_option maxHeartbeats 4000000 in
theorem mayEff5 (o n t : Int) (sk sw : ByteArray) (b : Bool) (hf : mayS5x 5 o n t sk.size sw.size = b) (w : World) (h1 : 1 ≤ sk.size) (h2 : (sk.size : Int) ≤ 32) (h3 : 0 ≤ o) (h4 : o ≤ 15) :
    Calls Try.prog 84 #[.agg #[.int .i64 5, .int .i64 o, .string sk, .int .i64 n, .int .i64 t, .string sw]] w fun e w' => e = .returned (.bool b) ∧ Gr w w' := by
  have HF := hide hf
  clear hf
  have hE : sk.toList.isEmpty = false := by rw [isE, decide_eq_false_iff_not]; omega
  have hW := isE sw
  by_cases h5 : sw.size = 0
  · have h6 : sw.toList.isEmpty = true := by rw [isE]; simp [h5]
    clear hW
    go_enter Try.func84, Try.ntmps84
    go_wp2 <;> go_ret <;> (refine ⟨retB ?_, (Gr.refl w).alloc _⟩) <;> (try simp only [bne_iff_ne, ne_eq, bne_eq_false_iff_eq] at *) <;> first | (refine may_no HF.out ?_; omega) | (refine may_if HF.out (isE sw) ?_; omega) | (refine may_if (p := (sw.size : Int) ≤ 64) HF.out ?_ ?_ <;> first | rfl | omega) | (refine may_yes HF.out ?_; omega)
  · have h6 : sw.toList.isEmpty = false := by rw [isE]; simp [h5]
    clear hW
    go_enter Try.func84, Try.ntmps84
    go_wp2 <;> go_ret <;> (refine ⟨retB ?_, (Gr.refl w).alloc _⟩) <;> (try simp only [bne_iff_ne, ne_eq, bne_eq_false_iff_eq] at *) <;> first | (refine may_no HF.out ?_; omega) | (refine may_if HF.out (isE sw) ?_; omega) | (refine may_if (p := (sw.size : Int) ≤ 64) HF.out ?_ ?_ <;> first | rfl | omega) | (refine may_yes HF.out ?_; omega)
set_option maxHeartbeats 4000000 in
theorem mayEff6 (o n t : Int) (sk sw : ByteArray) (b : Bool) (hf : mayS5x 6 o n t sk.size sw.size = b) (w : World) (h1 : 1 ≤ sk.size) (h2 : (sk.size : Int) ≤ 32) (h3 : 0 ≤ o) (h4 : o ≤ 15) :
    Calls Try.prog 84 #[.agg #[.int .i64 6, .int .i64 o, .string sk, .int .i64 n, .int .i64 t, .string sw]] w fun e w' => e = .returned (.bool b) ∧ Gr w w' := by
  have HF := hide hf
  clear hf
  have hE : sk.toList.isEmpty = false := by rw [isE, decide_eq_false_iff_not]; omega
  have hW := isE sw
  by_cases h5 : sw.size = 0
  · have h6 : sw.toList.isEmpty = true := by rw [isE]; simp [h5]
    clear hW
    go_enter Try.func84, Try.ntmps84
    go_wp2 <;> go_ret <;> (refine ⟨retB ?_, (Gr.refl w).alloc _⟩) <;> (try simp only [bne_iff_ne, ne_eq, bne_eq_false_iff_eq] at *) <;> first | (refine may_no HF.out ?_; omega) | (refine may_if HF.out (isE sw) ?_; omega) | (refine may_if (p := (sw.size : Int) ≤ 64) HF.out ?_ ?_ <;> first | rfl | omega) | (refine may_yes HF.out ?_; omega)
  · have h6 : sw.toList.isEmpty = false := by rw [isE]; simp [h5]
    clear hW
    go_enter Try.func84, Try.ntmps84
    go_wp2 <;> go_ret <;> (refine ⟨retB ?_, (Gr.refl w).alloc _⟩) <;> (try simp only [bne_iff_ne, ne_eq, bne_eq_false_iff_eq] at *) <;> first | (refine may_no HF.out ?_; omega) | (refine may_if HF.out (isE sw) ?_; omega) | (refine may_if (p := (sw.size : Int) ≤ 64) HF.out ?_ ?_ <;> first | rfl | omega) | (refine may_yes HF.out ?_; omega)
set_option maxHeartbeats 4000000 in
theorem MayEffect_any (k o n t : Int) (sk sw : ByteArray) (b : Bool) (hf : mayS5x k o n t sk.size sw.size = b) (w : World) :
    Calls Try.prog 84 #[.agg #[.int .i64 k, .int .i64 o, .string sk, .int .i64 n, .int .i64 t, .string sw]] w fun e w' => e = .returned (.bool b) ∧ Gr w w' := by
  have HF := hide hf
  by_cases h1 : sk.size = 0
  · have hE : sk.toList.isEmpty = true := by rw [isE]; simp [h1]
    clear hf
    go_enter Try.func84, Try.ntmps84
    go_wp2
    go_ret
    exact ⟨retB (may_no HF.out (by omega)), (Gr.refl w).alloc _⟩
  · have hE : sk.toList.isEmpty = false := by rw [isE]; simp [h1]
    by_cases h2 : (sk.size : Int) > 32
    · clear hf
      go_enter Try.func84, Try.ntmps84
      go_wp2
      go_ret
      exact ⟨retB (may_no HF.out (by omega)), (Gr.refl w).alloc _⟩
    · skip
      by_cases h3 : o < 0
      · clear hf
        go_enter Try.func84, Try.ntmps84
        go_wp2
        go_ret
        exact ⟨retB (may_no HF.out (by omega)), (Gr.refl w).alloc _⟩
      · skip
        by_cases h4 : o > 15
        · clear hf
          go_enter Try.func84, Try.ntmps84
          go_wp2
          go_ret
          exact ⟨retB (may_no HF.out (by omega)), (Gr.refl w).alloc _⟩
        · skip
          by_cases h5 : k < 1
          · clear hf
            go_enter Try.func84, Try.ntmps84
            go_wp2
            go_ret
            exact ⟨retB (may_no HF.out (by omega)), (Gr.refl w).alloc _⟩
          · skip
            by_cases h6 : k > 6
            · clear hf
              go_enter Try.func84, Try.ntmps84
              go_wp2
              go_ret
              exact ⟨retB (may_no HF.out (by omega)), (Gr.refl w).alloc _⟩
            · skip
              have h7 : k = 1 ∨ k = 2 ∨ k = 3 ∨ k = 4 ∨ k = 5 ∨ k = 6 := by omega
              rcases h7 with rfl | rfl | rfl | rfl | rfl | rfl
              · exact mayEff1 o n t sk sw b hf w (by omega) (by omega) (by omega) (by omega)
              · exact mayEff2 o n t sk sw b hf w (by omega) (by omega) (by omega) (by omega)
              · exact mayEff3 o n t sk sw b hf w (by omega) (by omega) (by omega) (by omega)
              · exact mayEff4 o n t sk sw b hf w (by omega) (by omega) (by omega) (by omega)
              · exact mayEff5 o n t sk sw b hf w (by omega) (by omega) (by omega) (by omega)
              · exact mayEff6 o n t sk sw b hf w (by omega) (by omega) (by omega) (by omega)
end Go.Proofs.Ytiodlpoeifmldaa

namespace Go.Proofs.Ytiodlpoeifmldaa
open Go.RowKit Go.ChangeShapes Go.WideShapes
set_option linter.unusedVariables false
section
variable {H : Type} {enc : TypeId × Value → H} {W : World}
set_option maxRecDepth 100000 in
theorem numsE_trod {v : Value} {fuel : Nat} {y : DataW H × List MemPlace} (h : DataW.trod enc Try.prog W 0 (fun _ => true) true fuel 26 [v] = some y) : ∃ a len cap l, v = .slice a len cap ∧ NS W a len l ∧ CP a len cap := by
  rcases open_ints Try.underlying26 Try.underlying3 (by kernel_rfl) h with ⟨hcs, _⟩ | ⟨x, l, c, zs, hcs, _, hl, hm, hz, hx, hcell, hwz⟩
  · simp at hcs
    subst hcs
    exact ⟨_, _, _, [], rfl, NS.nil _ _, Nat.le_refl _, by decide, fun _ => rfl⟩
  · simp at hcs
    subst hcs
    simp at hz
    exact ⟨_, _, _, zs.take l, rfl, ns_of_cells hl hm hz (fun i hi => hcell i (by omega)), hl, hm, fun h => by cases h⟩
theorem Try.cellsEff : Try.prog.cellsOf 62 = 6 := by kernel_rfl
theorem Try.cellsEvt : Try.prog.cellsOf 60 = 4 := by kernel_rfl
theorem Try.cellsInt : Try.prog.cellsOf 3 = 1 := by kernel_rfl
theorem Try.cellsStr : Try.prog.cellsOf 9 = 1 := by kernel_rfl
theorem Try.cellsDot5 : Try.prog.cellsOf 24 = 2 := by kernel_rfl
theorem Try.cellsClk : Try.prog.cellsOf 26 = 1 := by kernel_rfl
theorem Try.cellsEfs : Try.prog.cellsOf 58 = 1 := by kernel_rfl
set_option maxRecDepth 100000 in
/-- An effect's six cells. -/
theorem eff_trod {n : Nat} {v0 v1 v2 v3 v4 v5 : Value} {x : DataW H × List MemPlace} (h : DataW.trod enc Try.prog W 0 (fun _ => true) true n 62 [v0, v1, v2, v3, v4, v5] = some x) : ∃ e : Eff, ByF e ∧ encF e = [v0, v1, v2, v3, v4, v5] := by
  obtain ⟨xs, k, hk, hxy, _, hxl, hf⟩ := DataW.trod_struct Try.underlying62 h
  obtain ⟨y0, y1, y2, y3, y4, y5, rfl⟩ := len6 xs hxl
  have g0 : DataW.trod enc Try.prog W 0 (fun _ => true) true k 3 (([v0, v1, v2, v3, v4, v5].drop 0).take (Try.prog.cellsOf 3)) = some y0 := hf 0 _ rfl
  rw [Try.cellsInt] at g0
  have g1 : DataW.trod enc Try.prog W 0 (fun _ => true) true k 3 (([v0, v1, v2, v3, v4, v5].drop 1).take (Try.prog.cellsOf 3)) = some y1 := hf 1 _ rfl
  rw [Try.cellsInt] at g1
  have g2 : DataW.trod enc Try.prog W 0 (fun _ => true) true k 9 (([v0, v1, v2, v3, v4, v5].drop 2).take (Try.prog.cellsOf 9)) = some y2 := hf 2 _ rfl
  rw [Try.cellsStr] at g2
  have g3 : DataW.trod enc Try.prog W 0 (fun _ => true) true k 3 (([v0, v1, v2, v3, v4, v5].drop 3).take (Try.prog.cellsOf 3)) = some y3 := hf 3 _ rfl
  rw [Try.cellsInt] at g3
  have g4 : DataW.trod enc Try.prog W 0 (fun _ => true) true k 3 (([v0, v1, v2, v3, v4, v5].drop 4).take (Try.prog.cellsOf 3)) = some y4 := hf 4 _ rfl
  rw [Try.cellsInt] at g4
  have g5 : DataW.trod enc Try.prog W 0 (fun _ => true) true k 9 (([v0, v1, v2, v3, v4, v5].drop 5).take (Try.prog.cellsOf 9)) = some y5 := hf 5 _ rfl
  rw [Try.cellsStr] at g5
  obtain ⟨a0, h0, _, _⟩ := DataW.trod_int Try.underlying3 g0
  obtain ⟨a1, h1, _, _⟩ := DataW.trod_int Try.underlying3 g1
  obtain ⟨s2, h2, _, _⟩ := DataW.trod_string Try.underlying9 g2
  obtain ⟨a3, h3, _, _⟩ := DataW.trod_int Try.underlying3 g3
  obtain ⟨a4, h4, _, _⟩ := DataW.trod_int Try.underlying3 g4
  obtain ⟨s5, h5, _, _⟩ := DataW.trod_string Try.underlying9 g5
  simp at h0 h1 h2 h3 h4 h5
  subst h0 h1 h2 h3 h4 h5
  refine ⟨(a0, a1, bytesL s2, a3, a4, bytesL s5), ⟨bytesL_by s2, bytesL_by s5⟩, ?_⟩
  simp [encF, str_bytes]
set_option maxRecDepth 100000 in
theorem effs_trod {v : Value} {fuel : Nat} {y : DataW H × List MemPlace} (h : DataW.trod enc Try.prog W 0 (fun _ => true) true fuel 58 [v] = some y) : ∃ a len cap l, v = .slice a len cap ∧ ES W a len l ∧ CP a len cap := by
  rcases Deep.open_slice Try.underlying58 h with ⟨hcs, _⟩ | ⟨a, len, cap, m, n, D, Pl, hcs, _, hl, hm, hmm, _, hx⟩
  · simp at hcs
    subst hcs
    exact ⟨_, _, _, [], rfl, ES.nil _ _, Nat.le_refl _, by decide, fun _ => rfl⟩
  · simp at hcs
    subst hcs
    have hmm' : m = cap := by simpa using hmm
    subst hmm'
    rw [Try.cellsEff] at hx
    have each : ∀ i, i < len → ∃ e : Eff, ByF e ∧ ∀ j u, (encF e)[j]? = some u → W.cell? (a.add (i * 6 + j)) = some u := by
      intro i hi
      obtain ⟨cs', h1, h2⟩ := hx i (by omega)
      obtain ⟨_, hlen, hcell⟩ := World.cells?_some h1
      obtain ⟨v0, v1, v2, v3, v4, v5, rfl⟩ := len6 cs' hlen
      obtain ⟨e, he1, he2⟩ := eff_trod h2
      refine ⟨e, he1, fun j u hj => ?_⟩
      rw [he2] at hj
      have hj6 : j < 6 := (List.getElem?_eq_some_iff.1 hj).1
      have q := hcell j hj6
      rw [Deep.add_add] at q
      rw [q]
      exact hj
    have hf : ∃ f : Nat → Eff, ∀ i, i < len → ByF (f i) ∧ ∀ j u, (encF (f i))[j]? = some u → W.cell? (a.add (i * 6 + j)) = some u := by
      refine ⟨fun i => if h : i < len then Classical.choose (each i h) else (0, 0, [], 0, 0, []), fun i hi => ?_⟩
      have := Classical.choose_spec (each i hi)
      simpa [hi] using this
    obtain ⟨f, hf⟩ := hf
    refine ⟨_, _, _, (List.range len).map f, rfl, ⟨⟨by simp, by omega, ?_⟩, ?_⟩, hl, hm, fun h => by cases h⟩
    · rcases Nat.eq_zero_or_pos len with h0 | hp
      · exact .inl h0
      · obtain ⟨b, off, spot⟩ := a
        have hspot : spot = none := by
          have := (hf 0 hp).2 0 _ rfl
          simpa [Addr.add] using World.cell?_spot this
        subst hspot
        refine .inr ⟨b, off, rfl, fun i x hi j u hj => ?_⟩
        have hil : i < len := by have := (List.getElem?_eq_some_iff.1 hi).1; simpa using this
        have hxf : x = f i := by simpa [hil] using hi.symm
        subst hxf
        have q := (hf i hil).2 j u hj
        rw [addr_add] at q
        rw [Nat.add_assoc]
        exact q
    · intro x hx
      obtain ⟨i, hi, rfl⟩ := List.mem_map.1 hx
      exact (hf i (List.mem_range.1 hi)).1
set_option maxRecDepth 100000 in
theorem evt_trod {n : Nat} {v0 v1 v2 v3 : Value} {x : DataW H × List MemPlace} (h : DataW.trod enc Try.prog W 0 (fun _ => true) true n 60 [v0, v1, v2, v3] = some x) :
    ∃ (r s : Int) (pa : Option Addr) (na ca : Nat) (pe : Option Addr) (ne ce : Nat) (c : List Int) (l : List Eff), [v0, v1, v2, v3] = [.int .i64 r, .int .i64 s, .slice pa na ca, .slice pe ne ce] ∧ NS W pa na c ∧ CP pa na ca ∧ ES W pe ne l ∧ CP pe ne ce := by
  obtain ⟨xs, k, hk, hxy, _, hxl, hf⟩ := DataW.trod_struct Try.underlying60 h
  obtain ⟨y0, xs', rfl⟩ : ∃ y ys, xs = y :: ys := by cases xs with | nil => simp at hxl | cons y ys => exact ⟨y, ys, rfl⟩
  obtain ⟨y1, y2, rfl⟩ := len2 xs' (by simpa using hxl)
  have g0 : DataW.trod enc Try.prog W 0 (fun _ => true) true k 24 (([v0, v1, v2, v3].drop 0).take (Try.prog.cellsOf 24)) = some y0 := hf 0 _ rfl
  have g1 : DataW.trod enc Try.prog W 0 (fun _ => true) true k 26 (([v0, v1, v2, v3].drop 2).take (Try.prog.cellsOf 26)) = some y1 := hf 1 _ rfl
  have g2 : DataW.trod enc Try.prog W 0 (fun _ => true) true k 58 (([v0, v1, v2, v3].drop 3).take (Try.prog.cellsOf 58)) = some y2 := hf 2 _ rfl
  rw [Try.cellsDot5] at g0
  rw [Try.cellsClk] at g1
  rw [Try.cellsEfs] at g2
  obtain ⟨z0, z1, k2, _, _, d0, d1⟩ := trod_struct2 Try.underlying24 g0
  have d0' : DataW.trod enc Try.prog W 0 (fun _ => true) true k2 3 ((((([v0, v1, v2, v3].drop 0).take 2)).drop 0).take (Try.prog.cellsOf 3)) = some z0 := d0
  have d1' : DataW.trod enc Try.prog W 0 (fun _ => true) true k2 3 ((((([v0, v1, v2, v3].drop 0).take 2)).drop 1).take (Try.prog.cellsOf 3)) = some z1 := d1
  rw [Try.cellsInt] at d0' d1'
  obtain ⟨r, hr, _, _⟩ := DataW.trod_int Try.underlying3 d0'
  obtain ⟨s, hs, _, _⟩ := DataW.trod_int Try.underlying3 d1'
  simp at hr hs
  obtain ⟨pa, na, ca, c, hv2, hns, hca⟩ := numsE_trod (v := v2) (by simpa using g1)
  obtain ⟨pe, ne, ce, l, hv3, hes, hce⟩ := effs_trod (v := v3) (by simpa using g2)
  exact ⟨r, s, pa, na, ca, pe, ne, ce, c, l, by rw [hr, hs, hv2, hv3], hns, hca, hes, hce⟩
end
end Go.Proofs.Ytiodlpoeifmldaa

namespace Go.Proofs.Ytiodlpoeifmldaa
open Go.RowKit
set_option linter.unusedVariables false
theorem ES.lt {w : World} {p : Option Addr} {n : Nat} {l : List Eff} (h : ES w p n l) {g : Nat} (hg : w.heap.size ≤ g) : n = 0 ∨ ∀ a, p = some a → a.block ≠ g := by
  rcases Nat.eq_zero_or_pos n with h0 | hp
  · exact .inl h0
  · rcases h.1.2.2 with h0 | ⟨b, off, ha, hc⟩
    · exact .inl h0
    · refine .inr fun a ha' => ?_
      rw [ha] at ha'
      cases ha'
      have hl : 0 < l.length := by rw [h.1.1]; exact hp
      have := World.block_lt_of_cell? w _ (hc 0 l[0] (List.getElem?_eq_getElem hl) 0 _ rfl)
      simp only at this ⊢
      omega
theorem ES.kp0 {g : Nat} {u W : World} {p : Option Addr} {n : Nat} {l : List Eff} (h : ES u p n l) (hk : KP g u W) (hp : n = 0 ∨ ∀ a, p = some a → a.block ≠ g) : ES W p n l := by
  rcases hp with h0 | hp
  · exact ⟨⟨h.1.1, h.1.2.1, .inl h0⟩, h.2⟩
  · exact h.kp hk hp
end Go.Proofs.Ytiodlpoeifmldaa

namespace Go.Proofs.Ytiodlpoeifmldaa
open Go.RowKit
set_option linter.unusedVariables false
theorem plain_vec {c : List Int} (hm : mayC c = true) : decide (pln (vec c) = c) = plainB c := by unfold plainB; rw [hm, pln_vec c hm]; simp
theorem mayE_len {r s : Int} {c : List Int} {l : List Eff} (h1 : mayD (r, s) = true) (h2 : plainB c = true) (h3 : getZ c r = s - 1) (h4 : l.all mayF = true) : mayE ((r, s), c, l) = decide (1 ≤ l.length ∧ l.length ≤ 16) := by
  have hh : headB (r, s) c = true := by unfold headB; simp [h1, h2, h3]
  unfold mayE
  simp only [hh, h4, Bool.true_and, Bool.and_true]
theorem mayE_no {r s : Int} {c : List Int} {l : List Eff} (h : l.all mayF = false) : mayE ((r, s), c, l) = false := by unfold mayE; rw [h]; simp
theorem wrap_z {z : Int} (h1 : 0 ≤ z) (h2 : z ≤ 1048576) : IntKind.i64.wrap (z + 1) = z + 1 := by
  unfold IntKind.wrap
  simp [IntKind.bits, IntKind.signed]
  omega
set_option maxHeartbeats 8000000 in
theorem MayE_ref (r s : Int) (pa : Option Addr) (na ca : Nat) (pe : Option Addr) (ne ce : Nat) (c : List Int) (l : List Eff) (w : World) (hN : NS w pa na c) (hE : ES w pe ne l) :
    Calls Try.prog 67 #[.agg #[.int .i64 r, .int .i64 s, .slice pa na ca, .slice pe ne ce]] w fun e w' => e = .returned (.bool (mayE ((r, s), c, l))) ∧ Below w.heap.size w w' := by
  have HM := hide (fun W => MayR_any r s W)
  have HMC := hide (fun W (h : NS W pa na c) => may_ref pa na ca c W h)
  have HPL := hide (fun W (h : NS W pa na c) => plain_ref pa na ca c W h)
  have HQM := hide (fun W p n k (h1 : NS W p n (pln (vec c))) (h2 : NS W pa na c) => same_any p pa n k na ca _ _ W h1 h2)
  have HG := hide (fun W (h : NS W pa na c) => get_refZ pa na ca c r W h)
  have c0 : (w.alloc (bxE r s pa na ca pe ne ce)).cell? ⟨w.heap.size, 0, none⟩ = some (.int .i64 r) := cell_new w _ _ _ rfl 0 _ rfl
  have c1 : (w.alloc (bxE r s pa na ca pe ne ce)).cell? ⟨w.heap.size, 1, none⟩ = some (.int .i64 s) := cell_new w _ _ _ rfl 1 _ rfl
  have c2 : (w.alloc (bxE r s pa na ca pe ne ce)).cell? ⟨w.heap.size, 2, none⟩ = some (.slice pa na ca) := cell_new w _ _ _ rfl 2 _ rfl
  have c3 : (w.alloc (bxE r s pa na ca pe ne ce)).cell? ⟨w.heap.size, 3, none⟩ = some (.slice pe ne ce) := cell_new w _ _ _ rfl 3 _ rfl
  have HU := hide (bel1 w (bxE r s pa na ca pe ne ce))
  have NU := hide (hN.alloc (bxE r s pa na ca pe ne ce))
  have EU := hide (hE.alloc (bxE r s pa na ca pe ne ce))
  clear hN hE
  rcases hd : mayD (r, s) with _ | _
  · rw [hd] at HM
    have HX := hide (not_may1 (c := c) (l := l) hd)
    clear hd HMC HPL HQM HG EU
    go_enter Try.func67, Try.ntmps67
    go_wp2
    generalize hu : w.alloc (bxE r s pa na ca pe ne ce) = u at *
    clear hu
    refine wp_region_held_drew (S := fun W => Below u.heap.size u W) (by kernel_rfl) ((Below.refl _ u).drew) (fun hS0 => ?_)
    refine takeInH 0 4 ?v1 rfl rfl (by kernel_rfl) (by kernel_rfl) (by kernel_rfl) (fun _ _ _ h => h) (by kernel_rfl) hS0 ?hy1 ?_
    case hy1 => (intro W hW; clear hW; go_simp; try rfl)
    simp only [Act.put, List.setIfInBounds_toArray, List.set_cons_zero, List.set_cons_succ]
    refine takeInH 1 5 ?v2 rfl rfl (by kernel_rfl) (by kernel_rfl) (by kernel_rfl) (fun _ _ _ h => h) (by kernel_rfl) hS0 ?hy2 ?_
    case hy2 => (intro W hW; have e0 := bcell hW c0; have e1 := bcell hW c1; have e2 := bcell hW c2; clear hW; go_simp; try rfl)
    simp only [Act.put, List.setIfInBounds_toArray, List.set_cons_zero, List.set_cons_succ]
    refine wpAnyH_ready (rs := [2]) (by kernel_rfl) (by simp) ?_
    refine AllReadyH.cons rfl (fun K hK => ?_) AllReadyH.nil
    go_simp
    refine (HM.out _).mono ?_
    rintro e w' ⟨rfl, hg⟩
    have hb := hg.bel
    clear hg
    try go_wp2_with fail
    refine hK.out _ _ ?hs3 (fun hS1 => ?_)
    case hs3 => exact bel_next hS0 hb
    clear hK K
    try simp only [Act.put, List.setIfInBounds_toArray, List.set_cons_zero, List.set_cons_succ]
    refine takeInH 3 7 ?v4 rfl rfl (by kernel_rfl) (by kernel_rfl) (by kernel_rfl) (fun _ _ _ h => h) (by kernel_rfl) hS1 ?hy4 ?_
    case hy4 => (intro W hW; clear hW; go_simp; try rfl)
    simp only [Act.put, List.setIfInBounds_toArray, List.set_cons_zero, List.set_cons_succ]
    refine takeInH 4 8 ?v5 rfl rfl (by kernel_rfl) (by kernel_rfl) (by kernel_rfl) (fun _ _ _ h => h) (by kernel_rfl) hS1 ?hy5 ?_
    case hy5 => (intro W hW; clear hW; go_simp; try rfl)
    simp only [Act.put, List.setIfInBounds_toArray, List.set_cons_zero, List.set_cons_succ]
    refine takeNoH 5 9 rfl rfl (by kernel_rfl) (by kernel_rfl) (by kernel_rfl) (fun _ _ _ h => h) (by kernel_rfl) hS1 ?_
    simp only [Act.put, List.setIfInBounds_toArray, List.set_cons_zero, List.set_cons_succ]
    refine takeNoH 6 10 rfl rfl (by kernel_rfl) (by kernel_rfl) (by kernel_rfl) (fun _ _ _ h => h) (by kernel_rfl) hS1 ?_
    simp only [Act.put, List.setIfInBounds_toArray, List.set_cons_zero, List.set_cons_succ]
    refine takeNoH 7 11 rfl rfl (by kernel_rfl) (by kernel_rfl) (by kernel_rfl) (fun _ _ _ h => h) (by kernel_rfl) hS1 ?_
    simp only [Act.put, List.setIfInBounds_toArray, List.set_cons_zero, List.set_cons_succ]
    refine takeNoH 8 12 rfl rfl (by kernel_rfl) (by kernel_rfl) (by kernel_rfl) (fun _ _ _ h => h) (by kernel_rfl) hS1 ?_
    simp only [Act.put, List.setIfInBounds_toArray, List.set_cons_zero, List.set_cons_succ]
    refine takeInH 9 13 ?v6 rfl rfl (by kernel_rfl) (by kernel_rfl) (by kernel_rfl) (fun _ _ _ h => h) (by kernel_rfl) hS1 ?hy6 ?_
    case hy6 => (intro W hW; clear hW; go_simp; try rfl)
    simp only [Act.put, List.setIfInBounds_toArray, List.set_cons_zero, List.set_cons_succ]
    refine takeInH 10 14 ?v7 rfl rfl (by kernel_rfl) (by kernel_rfl) (by kernel_rfl) (fun _ _ _ h => h) (by kernel_rfl) hS1 ?hy7 ?_
    case hy7 => (intro W hW; clear hW; go_simp; try rfl)
    simp only [Act.put, List.setIfInBounds_toArray, List.set_cons_zero, List.set_cons_succ]
    refine takeNoH 11 15 rfl rfl (by kernel_rfl) (by kernel_rfl) (by kernel_rfl) (fun _ _ _ h => h) (by kernel_rfl) hS1 ?_
    simp only [Act.put, List.setIfInBounds_toArray, List.set_cons_zero, List.set_cons_succ]
    refine takeNoH 12 16 rfl rfl (by kernel_rfl) (by kernel_rfl) (by kernel_rfl) (fun _ _ _ h => h) (by kernel_rfl) hS1 ?_
    simp only [Act.put, List.setIfInBounds_toArray, List.set_cons_zero, List.set_cons_succ]
    refine takeNoH 13 17 rfl rfl (by kernel_rfl) (by kernel_rfl) (by kernel_rfl) (fun _ _ _ h => h) (by kernel_rfl) hS1 ?_
    simp only [Act.put, List.setIfInBounds_toArray, List.set_cons_zero, List.set_cons_succ]
    refine takeNoH 14 18 rfl rfl (by kernel_rfl) (by kernel_rfl) (by kernel_rfl) (fun _ _ _ h => h) (by kernel_rfl) hS1 ?_
    simp only [Act.put, List.setIfInBounds_toArray, List.set_cons_zero, List.set_cons_succ]
    refine takeNoH 15 19 rfl rfl (by kernel_rfl) (by kernel_rfl) (by kernel_rfl) (fun _ _ _ h => h) (by kernel_rfl) hS1 ?_
    simp only [Act.put, List.setIfInBounds_toArray, List.set_cons_zero, List.set_cons_succ]
    refine takeNoH 16 20 rfl rfl (by kernel_rfl) (by kernel_rfl) (by kernel_rfl) (fun _ _ _ h => h) (by kernel_rfl) hS1 ?_
    simp only [Act.put, List.setIfInBounds_toArray, List.set_cons_zero, List.set_cons_succ]
    refine takeNoH 17 21 rfl rfl (by kernel_rfl) (by kernel_rfl) (by kernel_rfl) (fun _ _ _ h => h) (by kernel_rfl) hS1 ?_
    simp only [Act.put, List.setIfInBounds_toArray, List.set_cons_zero, List.set_cons_succ]
    refine takeInH 18 22 ?v8 rfl rfl (by kernel_rfl) (by kernel_rfl) (by kernel_rfl) (fun _ _ _ h => h) (by kernel_rfl) hS1 ?hy8 ?_
    case hy8 => (intro W hW; clear hW; go_simp; try rfl)
    simp only [Act.put, List.setIfInBounds_toArray, List.set_cons_zero, List.set_cons_succ]
    refine takeInH 19 23 ?v9 rfl rfl (by kernel_rfl) (by kernel_rfl) (by kernel_rfl) (fun _ _ _ h => h) (by kernel_rfl) hS1 ?hy9 ?_
    case hy9 => (intro W hW; clear hW; go_simp; try rfl)
    simp only [Act.put, List.setIfInBounds_toArray, List.set_cons_zero, List.set_cons_succ]
    refine takeNoH 20 24 rfl rfl (by kernel_rfl) (by kernel_rfl) (by kernel_rfl) (fun _ _ _ h => h) (by kernel_rfl) hS1 ?_
    simp only [Act.put, List.setIfInBounds_toArray, List.set_cons_zero, List.set_cons_succ]
    refine takeNoH 21 25 rfl rfl (by kernel_rfl) (by kernel_rfl) (by kernel_rfl) (fun _ _ _ h => h) (by kernel_rfl) hS1 ?_
    simp only [Act.put, List.setIfInBounds_toArray, List.set_cons_zero, List.set_cons_succ]
    refine takeNoH 22 26 rfl rfl (by kernel_rfl) (by kernel_rfl) (by kernel_rfl) (fun _ _ _ h => h) (by kernel_rfl) hS1 ?_
    simp only [Act.put, List.setIfInBounds_toArray, List.set_cons_zero, List.set_cons_succ]
    refine takeNoH 23 27 rfl rfl (by kernel_rfl) (by kernel_rfl) (by kernel_rfl) (fun _ _ _ h => h) (by kernel_rfl) hS1 ?_
    simp only [Act.put, List.setIfInBounds_toArray, List.set_cons_zero, List.set_cons_succ]
    refine takeNoH 24 28 rfl rfl (by kernel_rfl) (by kernel_rfl) (by kernel_rfl) (fun _ _ _ h => h) (by kernel_rfl) hS1 ?_
    simp only [Act.put, List.setIfInBounds_toArray, List.set_cons_zero, List.set_cons_succ]
    refine takeNoH 25 29 rfl rfl (by kernel_rfl) (by kernel_rfl) (by kernel_rfl) (fun _ _ _ h => h) (by kernel_rfl) hS1 ?_
    simp only [Act.put, List.setIfInBounds_toArray, List.set_cons_zero, List.set_cons_succ]
    refine takeNoH 26 30 rfl rfl (by kernel_rfl) (by kernel_rfl) (by kernel_rfl) (fun _ _ _ h => h) (by kernel_rfl) hS1 ?_
    simp only [Act.put, List.setIfInBounds_toArray, List.set_cons_zero, List.set_cons_succ]
    refine takeNoH 27 31 rfl rfl (by kernel_rfl) (by kernel_rfl) (by kernel_rfl) (fun _ _ _ h => h) (by kernel_rfl) hS1 ?_
    simp only [Act.put, List.setIfInBounds_toArray, List.set_cons_zero, List.set_cons_succ]
    refine takeNoH 28 32 rfl rfl (by kernel_rfl) (by kernel_rfl) (by kernel_rfl) (fun _ _ _ h => h) (by kernel_rfl) hS1 ?_
    simp only [Act.put, List.setIfInBounds_toArray, List.set_cons_zero, List.set_cons_succ]
    refine takeNoH 29 33 rfl rfl (by kernel_rfl) (by kernel_rfl) (by kernel_rfl) (fun _ _ _ h => h) (by kernel_rfl) hS1 ?_
    simp only [Act.put, List.setIfInBounds_toArray, List.set_cons_zero, List.set_cons_succ]
    refine takeNoH 30 34 rfl rfl (by kernel_rfl) (by kernel_rfl) (by kernel_rfl) (fun _ _ _ h => h) (by kernel_rfl) hS1 ?_
    simp only [Act.put, List.setIfInBounds_toArray, List.set_cons_zero, List.set_cons_succ]
    refine takeInH 31 35 ?v10 rfl rfl (by kernel_rfl) (by kernel_rfl) (by kernel_rfl) (fun _ _ _ h => h) (by kernel_rfl) hS1 ?hy10 ?_
    case hy10 => (intro W hW; clear hW; go_simp; try rfl)
    simp only [Act.put, List.setIfInBounds_toArray, List.set_cons_zero, List.set_cons_succ]
    refine wpAnyH_done (by kernel_rfl) ?_ _
    go_wp2
    go_ret
    exact ⟨retB HX.out.symm, bel_next HU.out hS1⟩
  · rcases hmc : mayC c with _ | _
    · rw [hd] at HM
      rw [hmc] at HMC
      have HX := hide (not_may2 (r := r) (s := s) (l := l) (show plainB c = false by unfold plainB; rw [hmc]; rfl))
      clear hd hmc HPL HQM HG EU
      go_enter Try.func67, Try.ntmps67
      go_wp2
      generalize hu : w.alloc (bxE r s pa na ca pe ne ce) = u at *
      clear hu
      refine wp_region_held_drew (S := fun W => Below u.heap.size u W) (by kernel_rfl) ((Below.refl _ u).drew) (fun hS0 => ?_)
      refine takeInH 0 4 ?v11 rfl rfl (by kernel_rfl) (by kernel_rfl) (by kernel_rfl) (fun _ _ _ h => h) (by kernel_rfl) hS0 ?hy11 ?_
      case hy11 => (intro W hW; clear hW; go_simp; try rfl)
      simp only [Act.put, List.setIfInBounds_toArray, List.set_cons_zero, List.set_cons_succ]
      refine takeInH 1 5 ?v12 rfl rfl (by kernel_rfl) (by kernel_rfl) (by kernel_rfl) (fun _ _ _ h => h) (by kernel_rfl) hS0 ?hy12 ?_
      case hy12 => (intro W hW; have e0 := bcell hW c0; have e1 := bcell hW c1; have e2 := bcell hW c2; clear hW; go_simp; try rfl)
      simp only [Act.put, List.setIfInBounds_toArray, List.set_cons_zero, List.set_cons_succ]
      refine wpAnyH_ready (rs := [2]) (by kernel_rfl) (by simp) ?_
      refine AllReadyH.cons rfl (fun K hK => ?_) AllReadyH.nil
      go_simp
      refine (HM.out _).mono ?_
      rintro e w' ⟨rfl, hg⟩
      have hb := hg.bel
      clear hg
      try go_wp2_with fail
      refine hK.out _ _ ?hs13 (fun hS1 => ?_)
      case hs13 => exact bel_next hS0 hb
      clear hK K
      try simp only [Act.put, List.setIfInBounds_toArray, List.set_cons_zero, List.set_cons_succ]
      refine takeInH 3 7 ?v14 rfl rfl (by kernel_rfl) (by kernel_rfl) (by kernel_rfl) (fun _ _ _ h => h) (by kernel_rfl) hS1 ?hy14 ?_
      case hy14 => (intro W hW; clear hW; go_simp; try rfl)
      simp only [Act.put, List.setIfInBounds_toArray, List.set_cons_zero, List.set_cons_succ]
      refine takeInH 4 8 ?v15 rfl rfl (by kernel_rfl) (by kernel_rfl) (by kernel_rfl) (fun _ _ _ h => h) (by kernel_rfl) hS1 ?hy15 ?_
      case hy15 => (intro W hW; clear hW; go_simp; try rfl)
      simp only [Act.put, List.setIfInBounds_toArray, List.set_cons_zero, List.set_cons_succ]
      refine takeInH 5 9 ?v16 rfl rfl (by kernel_rfl) (by kernel_rfl) (by kernel_rfl) (fun _ _ _ h => h) (by kernel_rfl) hS1 ?hy16 ?_
      case hy16 => (intro W hW; clear hW; go_simp; try rfl)
      simp only [Act.put, List.setIfInBounds_toArray, List.set_cons_zero, List.set_cons_succ]
      refine takeInH 6 10 ?v17 rfl rfl (by kernel_rfl) (by kernel_rfl) (by kernel_rfl) (fun _ _ _ h => h) (by kernel_rfl) hS1 ?hy17 ?_
      case hy17 => (intro W hW; have e0 := bcell hW c0; have e1 := bcell hW c1; have e2 := bcell hW c2; clear hW; go_simp; try rfl)
      simp only [Act.put, List.setIfInBounds_toArray, List.set_cons_zero, List.set_cons_succ]
      refine wpAnyH_ready (rs := [7]) (by kernel_rfl) (by simp) ?_
      refine AllReadyH.cons rfl (fun K hK => ?_) AllReadyH.nil
      go_simp
      refine (HMC.out _ (NU.out.below hS1)).mono ?_
      rintro e w' ⟨rfl, hw⟩
      replace hw := hw.symm
      subst hw
      try go_wp2_with fail
      refine hK.out _ _ ?hs18 (fun hS2 => ?_)
      case hs18 => exact hS1
      clear hK K
      try simp only [Act.put, List.setIfInBounds_toArray, List.set_cons_zero, List.set_cons_succ]
      refine takeInH 8 12 ?v19 rfl rfl (by kernel_rfl) (by kernel_rfl) (by kernel_rfl) (fun _ _ _ h => h) (by kernel_rfl) hS2 ?hy19 ?_
      case hy19 => (intro W hW; clear hW; go_simp; try rfl)
      simp only [Act.put, List.setIfInBounds_toArray, List.set_cons_zero, List.set_cons_succ]
      refine takeInH 9 13 ?v20 rfl rfl (by kernel_rfl) (by kernel_rfl) (by kernel_rfl) (fun _ _ _ h => h) (by kernel_rfl) hS2 ?hy20 ?_
      case hy20 => (intro W hW; clear hW; go_simp; try rfl)
      simp only [Act.put, List.setIfInBounds_toArray, List.set_cons_zero, List.set_cons_succ]
      refine takeInH 10 14 ?v21 rfl rfl (by kernel_rfl) (by kernel_rfl) (by kernel_rfl) (fun _ _ _ h => h) (by kernel_rfl) hS2 ?hy21 ?_
      case hy21 => (intro W hW; clear hW; go_simp; try rfl)
      simp only [Act.put, List.setIfInBounds_toArray, List.set_cons_zero, List.set_cons_succ]
      refine takeNoH 11 15 rfl rfl (by kernel_rfl) (by kernel_rfl) (by kernel_rfl) (fun _ _ _ h => h) (by kernel_rfl) hS2 ?_
      simp only [Act.put, List.setIfInBounds_toArray, List.set_cons_zero, List.set_cons_succ]
      refine takeNoH 12 16 rfl rfl (by kernel_rfl) (by kernel_rfl) (by kernel_rfl) (fun _ _ _ h => h) (by kernel_rfl) hS2 ?_
      simp only [Act.put, List.setIfInBounds_toArray, List.set_cons_zero, List.set_cons_succ]
      refine takeNoH 13 17 rfl rfl (by kernel_rfl) (by kernel_rfl) (by kernel_rfl) (fun _ _ _ h => h) (by kernel_rfl) hS2 ?_
      simp only [Act.put, List.setIfInBounds_toArray, List.set_cons_zero, List.set_cons_succ]
      refine takeNoH 14 18 rfl rfl (by kernel_rfl) (by kernel_rfl) (by kernel_rfl) (fun _ _ _ h => h) (by kernel_rfl) hS2 ?_
      simp only [Act.put, List.setIfInBounds_toArray, List.set_cons_zero, List.set_cons_succ]
      refine takeNoH 15 19 rfl rfl (by kernel_rfl) (by kernel_rfl) (by kernel_rfl) (fun _ _ _ h => h) (by kernel_rfl) hS2 ?_
      simp only [Act.put, List.setIfInBounds_toArray, List.set_cons_zero, List.set_cons_succ]
      refine takeNoH 16 20 rfl rfl (by kernel_rfl) (by kernel_rfl) (by kernel_rfl) (fun _ _ _ h => h) (by kernel_rfl) hS2 ?_
      simp only [Act.put, List.setIfInBounds_toArray, List.set_cons_zero, List.set_cons_succ]
      refine takeNoH 17 21 rfl rfl (by kernel_rfl) (by kernel_rfl) (by kernel_rfl) (fun _ _ _ h => h) (by kernel_rfl) hS2 ?_
      simp only [Act.put, List.setIfInBounds_toArray, List.set_cons_zero, List.set_cons_succ]
      refine takeInH 18 22 ?v22 rfl rfl (by kernel_rfl) (by kernel_rfl) (by kernel_rfl) (fun _ _ _ h => h) (by kernel_rfl) hS2 ?hy22 ?_
      case hy22 => (intro W hW; clear hW; go_simp; try rfl)
      simp only [Act.put, List.setIfInBounds_toArray, List.set_cons_zero, List.set_cons_succ]
      refine takeInH 19 23 ?v23 rfl rfl (by kernel_rfl) (by kernel_rfl) (by kernel_rfl) (fun _ _ _ h => h) (by kernel_rfl) hS2 ?hy23 ?_
      case hy23 => (intro W hW; clear hW; go_simp; try rfl)
      simp only [Act.put, List.setIfInBounds_toArray, List.set_cons_zero, List.set_cons_succ]
      refine takeNoH 20 24 rfl rfl (by kernel_rfl) (by kernel_rfl) (by kernel_rfl) (fun _ _ _ h => h) (by kernel_rfl) hS2 ?_
      simp only [Act.put, List.setIfInBounds_toArray, List.set_cons_zero, List.set_cons_succ]
      refine takeNoH 21 25 rfl rfl (by kernel_rfl) (by kernel_rfl) (by kernel_rfl) (fun _ _ _ h => h) (by kernel_rfl) hS2 ?_
      simp only [Act.put, List.setIfInBounds_toArray, List.set_cons_zero, List.set_cons_succ]
      refine takeNoH 22 26 rfl rfl (by kernel_rfl) (by kernel_rfl) (by kernel_rfl) (fun _ _ _ h => h) (by kernel_rfl) hS2 ?_
      simp only [Act.put, List.setIfInBounds_toArray, List.set_cons_zero, List.set_cons_succ]
      refine takeNoH 23 27 rfl rfl (by kernel_rfl) (by kernel_rfl) (by kernel_rfl) (fun _ _ _ h => h) (by kernel_rfl) hS2 ?_
      simp only [Act.put, List.setIfInBounds_toArray, List.set_cons_zero, List.set_cons_succ]
      refine takeNoH 24 28 rfl rfl (by kernel_rfl) (by kernel_rfl) (by kernel_rfl) (fun _ _ _ h => h) (by kernel_rfl) hS2 ?_
      simp only [Act.put, List.setIfInBounds_toArray, List.set_cons_zero, List.set_cons_succ]
      refine takeNoH 25 29 rfl rfl (by kernel_rfl) (by kernel_rfl) (by kernel_rfl) (fun _ _ _ h => h) (by kernel_rfl) hS2 ?_
      simp only [Act.put, List.setIfInBounds_toArray, List.set_cons_zero, List.set_cons_succ]
      refine takeNoH 26 30 rfl rfl (by kernel_rfl) (by kernel_rfl) (by kernel_rfl) (fun _ _ _ h => h) (by kernel_rfl) hS2 ?_
      simp only [Act.put, List.setIfInBounds_toArray, List.set_cons_zero, List.set_cons_succ]
      refine takeNoH 27 31 rfl rfl (by kernel_rfl) (by kernel_rfl) (by kernel_rfl) (fun _ _ _ h => h) (by kernel_rfl) hS2 ?_
      simp only [Act.put, List.setIfInBounds_toArray, List.set_cons_zero, List.set_cons_succ]
      refine takeNoH 28 32 rfl rfl (by kernel_rfl) (by kernel_rfl) (by kernel_rfl) (fun _ _ _ h => h) (by kernel_rfl) hS2 ?_
      simp only [Act.put, List.setIfInBounds_toArray, List.set_cons_zero, List.set_cons_succ]
      refine takeNoH 29 33 rfl rfl (by kernel_rfl) (by kernel_rfl) (by kernel_rfl) (fun _ _ _ h => h) (by kernel_rfl) hS2 ?_
      simp only [Act.put, List.setIfInBounds_toArray, List.set_cons_zero, List.set_cons_succ]
      refine takeNoH 30 34 rfl rfl (by kernel_rfl) (by kernel_rfl) (by kernel_rfl) (fun _ _ _ h => h) (by kernel_rfl) hS2 ?_
      simp only [Act.put, List.setIfInBounds_toArray, List.set_cons_zero, List.set_cons_succ]
      refine takeInH 31 35 ?v24 rfl rfl (by kernel_rfl) (by kernel_rfl) (by kernel_rfl) (fun _ _ _ h => h) (by kernel_rfl) hS2 ?hy24 ?_
      case hy24 => (intro W hW; clear hW; go_simp; try rfl)
      simp only [Act.put, List.setIfInBounds_toArray, List.set_cons_zero, List.set_cons_succ]
      refine wpAnyH_done (by kernel_rfl) ?_ _
      go_wp2
      go_ret
      exact ⟨retB HX.out.symm, bel_next HU.out hS2⟩
    · have hpv := plain_vec hmc
      rw [hpv] at HQM
      rcases hp : plainB c with _ | _
      · rw [hd] at HM
        rw [hmc] at HMC
        rw [hp] at HQM
        have HX := hide (not_may2 (r := r) (s := s) (l := l) hp)
        clear hd hp hmc hpv HG EU
        go_enter Try.func67, Try.ntmps67
        go_wp2
        generalize hu : w.alloc (bxE r s pa na ca pe ne ce) = u at *
        clear hu
        refine wp_region_held_drew (S := fun W => Below u.heap.size u W) (by kernel_rfl) ((Below.refl _ u).drew) (fun hS0 => ?_)
        refine takeInH 0 4 ?v25 rfl rfl (by kernel_rfl) (by kernel_rfl) (by kernel_rfl) (fun _ _ _ h => h) (by kernel_rfl) hS0 ?hy25 ?_
        case hy25 => (intro W hW; clear hW; go_simp; try rfl)
        simp only [Act.put, List.setIfInBounds_toArray, List.set_cons_zero, List.set_cons_succ]
        refine takeInH 1 5 ?v26 rfl rfl (by kernel_rfl) (by kernel_rfl) (by kernel_rfl) (fun _ _ _ h => h) (by kernel_rfl) hS0 ?hy26 ?_
        case hy26 => (intro W hW; have e0 := bcell hW c0; have e1 := bcell hW c1; have e2 := bcell hW c2; clear hW; go_simp; try rfl)
        simp only [Act.put, List.setIfInBounds_toArray, List.set_cons_zero, List.set_cons_succ]
        refine wpAnyH_ready (rs := [2]) (by kernel_rfl) (by simp) ?_
        refine AllReadyH.cons rfl (fun K hK => ?_) AllReadyH.nil
        go_simp
        refine (HM.out _).mono ?_
        rintro e w' ⟨rfl, hg⟩
        have hb := hg.bel
        clear hg
        try go_wp2_with fail
        refine hK.out _ _ ?hs27 (fun hS1 => ?_)
        case hs27 => exact bel_next hS0 hb
        clear hK K
        try simp only [Act.put, List.setIfInBounds_toArray, List.set_cons_zero, List.set_cons_succ]
        refine takeInH 3 7 ?v28 rfl rfl (by kernel_rfl) (by kernel_rfl) (by kernel_rfl) (fun _ _ _ h => h) (by kernel_rfl) hS1 ?hy28 ?_
        case hy28 => (intro W hW; clear hW; go_simp; try rfl)
        simp only [Act.put, List.setIfInBounds_toArray, List.set_cons_zero, List.set_cons_succ]
        refine takeInH 4 8 ?v29 rfl rfl (by kernel_rfl) (by kernel_rfl) (by kernel_rfl) (fun _ _ _ h => h) (by kernel_rfl) hS1 ?hy29 ?_
        case hy29 => (intro W hW; clear hW; go_simp; try rfl)
        simp only [Act.put, List.setIfInBounds_toArray, List.set_cons_zero, List.set_cons_succ]
        refine takeInH 5 9 ?v30 rfl rfl (by kernel_rfl) (by kernel_rfl) (by kernel_rfl) (fun _ _ _ h => h) (by kernel_rfl) hS1 ?hy30 ?_
        case hy30 => (intro W hW; clear hW; go_simp; try rfl)
        simp only [Act.put, List.setIfInBounds_toArray, List.set_cons_zero, List.set_cons_succ]
        refine takeInH 6 10 ?v31 rfl rfl (by kernel_rfl) (by kernel_rfl) (by kernel_rfl) (fun _ _ _ h => h) (by kernel_rfl) hS1 ?hy31 ?_
        case hy31 => (intro W hW; have e0 := bcell hW c0; have e1 := bcell hW c1; have e2 := bcell hW c2; clear hW; go_simp; try rfl)
        simp only [Act.put, List.setIfInBounds_toArray, List.set_cons_zero, List.set_cons_succ]
        refine wpAnyH_ready (rs := [7]) (by kernel_rfl) (by simp) ?_
        refine AllReadyH.cons rfl (fun K hK => ?_) AllReadyH.nil
        go_simp
        refine (HMC.out _ (NU.out.below hS1)).mono ?_
        rintro e w' ⟨rfl, hw⟩
        replace hw := hw.symm
        subst hw
        try go_wp2_with fail
        refine hK.out _ _ ?hs32 (fun hS2 => ?_)
        case hs32 => exact hS1
        clear hK K
        try simp only [Act.put, List.setIfInBounds_toArray, List.set_cons_zero, List.set_cons_succ]
        refine takeInH 8 12 ?v33 rfl rfl (by kernel_rfl) (by kernel_rfl) (by kernel_rfl) (fun _ _ _ h => h) (by kernel_rfl) hS2 ?hy33 ?_
        case hy33 => (intro W hW; clear hW; go_simp; try rfl)
        simp only [Act.put, List.setIfInBounds_toArray, List.set_cons_zero, List.set_cons_succ]
        refine takeInH 9 13 ?v34 rfl rfl (by kernel_rfl) (by kernel_rfl) (by kernel_rfl) (fun _ _ _ h => h) (by kernel_rfl) hS2 ?hy34 ?_
        case hy34 => (intro W hW; clear hW; go_simp; try rfl)
        simp only [Act.put, List.setIfInBounds_toArray, List.set_cons_zero, List.set_cons_succ]
        refine takeInH 10 14 ?v35 rfl rfl (by kernel_rfl) (by kernel_rfl) (by kernel_rfl) (fun _ _ _ h => h) (by kernel_rfl) hS2 ?hy35 ?_
        case hy35 => (intro W hW; clear hW; go_simp; try rfl)
        simp only [Act.put, List.setIfInBounds_toArray, List.set_cons_zero, List.set_cons_succ]
        refine takeInH 11 15 ?v36 rfl rfl (by kernel_rfl) (by kernel_rfl) (by kernel_rfl) (fun _ _ _ h => h) (by kernel_rfl) hS2 ?hy36 ?_
        case hy36 => (intro W hW; clear hW; go_simp; try rfl)
        simp only [Act.put, List.setIfInBounds_toArray, List.set_cons_zero, List.set_cons_succ]
        refine takeInH 12 16 ?v37 rfl rfl (by kernel_rfl) (by kernel_rfl) (by kernel_rfl) (fun _ _ _ h => h) (by kernel_rfl) hS2 ?hy37 ?_
        case hy37 => (intro W hW; have e0 := bcell hW c0; have e1 := bcell hW c1; have e2 := bcell hW c2; clear hW; go_simp; try rfl)
        simp only [Act.put, List.setIfInBounds_toArray, List.set_cons_zero, List.set_cons_succ]
        refine takeInH 14 18 ?v38 rfl rfl (by kernel_rfl) (by kernel_rfl) (by kernel_rfl) (fun _ _ _ h => h) (by kernel_rfl) hS2 ?hy38 ?_
        case hy38 => (intro W hW; clear hW; go_simp; try rfl)
        simp only [Act.put, List.setIfInBounds_toArray, List.set_cons_zero, List.set_cons_succ]
        refine takeInH 15 19 ?v39 rfl rfl (by kernel_rfl) (by kernel_rfl) (by kernel_rfl) (fun _ _ _ h => h) (by kernel_rfl) hS2 ?hy39 ?_
        case hy39 => (intro W hW; have e0 := bcell hW c0; have e1 := bcell hW c1; have e2 := bcell hW c2; clear hW; go_simp; try rfl)
        simp only [Act.put, List.setIfInBounds_toArray, List.set_cons_zero, List.set_cons_succ]
        refine wpAnyH_ready (rs := [13]) (by kernel_rfl) (by simp) ?_
        refine AllReadyH.cons rfl (fun K hK => ?_) AllReadyH.nil
        go_simp
        refine (HPL.out _ (NU.out.below hS2)).mono ?_
        rintro e w' ⟨v, rfl, hO, hb⟩
        obtain ⟨pp, cc, hv, hpn, _⟩ := hO.open
        subst hv
        have PN := hide hpn
        clear hO hpn
        try go_wp2_with fail
        refine hK.out _ _ ?hs40 (fun hS3 => ?_)
        case hs40 => exact bel_next hS2 hb
        clear hK K
        try simp only [Act.put, List.setIfInBounds_toArray, List.set_cons_zero, List.set_cons_succ]
        refine wpAnyH_ready (rs := [16]) (by kernel_rfl) (by simp) ?_
        refine AllReadyH.cons rfl (fun K hK => ?_) AllReadyH.nil
        go_simp
        refine (HQM.out _ _ _ _ PN.out (NU.out.below hS3)).mono ?_
        rintro e w' ⟨rfl, hb⟩
        clear PN
        try go_wp2_with fail
        refine hK.out _ _ ?hs41 (fun hS4 => ?_)
        case hs41 => exact bel_next hS3 hb
        clear hK K
        try simp only [Act.put, List.setIfInBounds_toArray, List.set_cons_zero, List.set_cons_succ]
        refine takeInH 17 21 ?v42 rfl rfl (by kernel_rfl) (by kernel_rfl) (by kernel_rfl) (fun _ _ _ h => h) (by kernel_rfl) hS4 ?hy42 ?_
        case hy42 => (intro W hW; clear hW; go_simp; try rfl)
        simp only [Act.put, List.setIfInBounds_toArray, List.set_cons_zero, List.set_cons_succ]
        refine takeInH 18 22 ?v43 rfl rfl (by kernel_rfl) (by kernel_rfl) (by kernel_rfl) (fun _ _ _ h => h) (by kernel_rfl) hS4 ?hy43 ?_
        case hy43 => (intro W hW; clear hW; go_simp; try rfl)
        simp only [Act.put, List.setIfInBounds_toArray, List.set_cons_zero, List.set_cons_succ]
        refine takeInH 19 23 ?v44 rfl rfl (by kernel_rfl) (by kernel_rfl) (by kernel_rfl) (fun _ _ _ h => h) (by kernel_rfl) hS4 ?hy44 ?_
        case hy44 => (intro W hW; clear hW; go_simp; try rfl)
        simp only [Act.put, List.setIfInBounds_toArray, List.set_cons_zero, List.set_cons_succ]
        refine takeNoH 20 24 rfl rfl (by kernel_rfl) (by kernel_rfl) (by kernel_rfl) (fun _ _ _ h => h) (by kernel_rfl) hS4 ?_
        simp only [Act.put, List.setIfInBounds_toArray, List.set_cons_zero, List.set_cons_succ]
        refine takeNoH 21 25 rfl rfl (by kernel_rfl) (by kernel_rfl) (by kernel_rfl) (fun _ _ _ h => h) (by kernel_rfl) hS4 ?_
        simp only [Act.put, List.setIfInBounds_toArray, List.set_cons_zero, List.set_cons_succ]
        refine takeNoH 22 26 rfl rfl (by kernel_rfl) (by kernel_rfl) (by kernel_rfl) (fun _ _ _ h => h) (by kernel_rfl) hS4 ?_
        simp only [Act.put, List.setIfInBounds_toArray, List.set_cons_zero, List.set_cons_succ]
        refine takeNoH 23 27 rfl rfl (by kernel_rfl) (by kernel_rfl) (by kernel_rfl) (fun _ _ _ h => h) (by kernel_rfl) hS4 ?_
        simp only [Act.put, List.setIfInBounds_toArray, List.set_cons_zero, List.set_cons_succ]
        refine takeNoH 24 28 rfl rfl (by kernel_rfl) (by kernel_rfl) (by kernel_rfl) (fun _ _ _ h => h) (by kernel_rfl) hS4 ?_
        simp only [Act.put, List.setIfInBounds_toArray, List.set_cons_zero, List.set_cons_succ]
        refine takeNoH 25 29 rfl rfl (by kernel_rfl) (by kernel_rfl) (by kernel_rfl) (fun _ _ _ h => h) (by kernel_rfl) hS4 ?_
        simp only [Act.put, List.setIfInBounds_toArray, List.set_cons_zero, List.set_cons_succ]
        refine takeNoH 26 30 rfl rfl (by kernel_rfl) (by kernel_rfl) (by kernel_rfl) (fun _ _ _ h => h) (by kernel_rfl) hS4 ?_
        simp only [Act.put, List.setIfInBounds_toArray, List.set_cons_zero, List.set_cons_succ]
        refine takeNoH 27 31 rfl rfl (by kernel_rfl) (by kernel_rfl) (by kernel_rfl) (fun _ _ _ h => h) (by kernel_rfl) hS4 ?_
        simp only [Act.put, List.setIfInBounds_toArray, List.set_cons_zero, List.set_cons_succ]
        refine takeNoH 28 32 rfl rfl (by kernel_rfl) (by kernel_rfl) (by kernel_rfl) (fun _ _ _ h => h) (by kernel_rfl) hS4 ?_
        simp only [Act.put, List.setIfInBounds_toArray, List.set_cons_zero, List.set_cons_succ]
        refine takeNoH 29 33 rfl rfl (by kernel_rfl) (by kernel_rfl) (by kernel_rfl) (fun _ _ _ h => h) (by kernel_rfl) hS4 ?_
        simp only [Act.put, List.setIfInBounds_toArray, List.set_cons_zero, List.set_cons_succ]
        refine takeNoH 30 34 rfl rfl (by kernel_rfl) (by kernel_rfl) (by kernel_rfl) (fun _ _ _ h => h) (by kernel_rfl) hS4 ?_
        simp only [Act.put, List.setIfInBounds_toArray, List.set_cons_zero, List.set_cons_succ]
        refine takeInH 31 35 ?v45 rfl rfl (by kernel_rfl) (by kernel_rfl) (by kernel_rfl) (fun _ _ _ h => h) (by kernel_rfl) hS4 ?hy45 ?_
        case hy45 => (intro W hW; clear hW; go_simp; try rfl)
        simp only [Act.put, List.setIfInBounds_toArray, List.set_cons_zero, List.set_cons_succ]
        refine wpAnyH_done (by kernel_rfl) ?_ _
        go_wp2
        go_ret
        exact ⟨retB HX.out.symm, bel_next HU.out hS4⟩
      · have hdd := mayD_iff.1 hd
        obtain ⟨d1, d2, d3, d4⟩ := hdd
        obtain ⟨z, hz⟩ : ∃ z, getZ c r = z := ⟨_, rfl⟩
        have hzb : 0 ≤ z ∧ z ≤ 1048576 := by rw [← hz]; unfold getZ; split; exact at5_bd c _; omega
        obtain ⟨hz0, hz1⟩ := hzb
        by_cases hq : z = s - 1
        · have HQ1 : Hid (l.all mayF = true → mayE ((r, s), c, l) = decide (1 ≤ l.length ∧ l.length ≤ 16)) := fun h => mayE_len hd hp (by rw [hz]; exact hq) h
          have HQ0 : Hid (l.all mayF = false → mayE ((r, s), c, l) = false) := fun h => mayE_no h
          rw [hd] at HM
          rw [hmc] at HMC
          rw [hp] at HQM
          rw [hz] at HG
          have hq1 : (z + 1 == s) = true := by simp; omega
          have hq2 : (z + 1 != s) = false := by simp; omega
          have hwr : IntKind.i64.wrap (z + 1) = z + 1 := wrap_z hz0 hz1
          clear hd hp hz hq hmc hpv
          have hmx := EU.out.1.2.1
          unfold maxLen at hmx
          have hln := hide EU.out.1.1
          obtain ⟨b, hb0⟩ : ∃ b, l.all mayF = b := ⟨_, rfl⟩
          have HA2 : Hid ((l.drop 0).all mayF = b) := hb0
          rw [hb0] at HQ0 HQ1
          clear hb0
          go_enter Try.func67, Try.ntmps67
          go_wp2
          generalize hu : w.alloc (bxE r s pa na ca pe ne ce) = u at *
          clear hu
          refine wp_region_held_drew (S := fun W => Below u.heap.size u W) (by kernel_rfl) ((Below.refl _ u).drew) (fun hS0 => ?_)
          refine takeInH 0 4 ?v46 rfl rfl (by kernel_rfl) (by kernel_rfl) (by kernel_rfl) (fun _ _ _ h => h) (by kernel_rfl) hS0 ?hy46 ?_
          case hy46 => (intro W hW; clear hW; go_simp; try rfl)
          simp only [Act.put, List.setIfInBounds_toArray, List.set_cons_zero, List.set_cons_succ]
          refine takeInH 1 5 ?v47 rfl rfl (by kernel_rfl) (by kernel_rfl) (by kernel_rfl) (fun _ _ _ h => h) (by kernel_rfl) hS0 ?hy47 ?_
          case hy47 => (intro W hW; have e0 := bcell hW c0; have e1 := bcell hW c1; have e2 := bcell hW c2; clear hW; go_simp; try rfl)
          simp only [Act.put, List.setIfInBounds_toArray, List.set_cons_zero, List.set_cons_succ]
          refine wpAnyH_ready (rs := [2]) (by kernel_rfl) (by simp) ?_
          refine AllReadyH.cons rfl (fun K hK => ?_) AllReadyH.nil
          go_simp
          refine (HM.out _).mono ?_
          rintro e w' ⟨rfl, hg⟩
          have hb := hg.bel
          clear hg
          try go_wp2_with fail
          refine hK.out _ _ ?hs48 (fun hS1 => ?_)
          case hs48 => exact bel_next hS0 hb
          clear hK K
          try simp only [Act.put, List.setIfInBounds_toArray, List.set_cons_zero, List.set_cons_succ]
          refine takeInH 3 7 ?v49 rfl rfl (by kernel_rfl) (by kernel_rfl) (by kernel_rfl) (fun _ _ _ h => h) (by kernel_rfl) hS1 ?hy49 ?_
          case hy49 => (intro W hW; clear hW; go_simp; try rfl)
          simp only [Act.put, List.setIfInBounds_toArray, List.set_cons_zero, List.set_cons_succ]
          refine takeInH 4 8 ?v50 rfl rfl (by kernel_rfl) (by kernel_rfl) (by kernel_rfl) (fun _ _ _ h => h) (by kernel_rfl) hS1 ?hy50 ?_
          case hy50 => (intro W hW; clear hW; go_simp; try rfl)
          simp only [Act.put, List.setIfInBounds_toArray, List.set_cons_zero, List.set_cons_succ]
          refine takeInH 5 9 ?v51 rfl rfl (by kernel_rfl) (by kernel_rfl) (by kernel_rfl) (fun _ _ _ h => h) (by kernel_rfl) hS1 ?hy51 ?_
          case hy51 => (intro W hW; clear hW; go_simp; try rfl)
          simp only [Act.put, List.setIfInBounds_toArray, List.set_cons_zero, List.set_cons_succ]
          refine takeInH 6 10 ?v52 rfl rfl (by kernel_rfl) (by kernel_rfl) (by kernel_rfl) (fun _ _ _ h => h) (by kernel_rfl) hS1 ?hy52 ?_
          case hy52 => (intro W hW; have e0 := bcell hW c0; have e1 := bcell hW c1; have e2 := bcell hW c2; clear hW; go_simp; try rfl)
          simp only [Act.put, List.setIfInBounds_toArray, List.set_cons_zero, List.set_cons_succ]
          refine wpAnyH_ready (rs := [7]) (by kernel_rfl) (by simp) ?_
          refine AllReadyH.cons rfl (fun K hK => ?_) AllReadyH.nil
          go_simp
          refine (HMC.out _ (NU.out.below hS1)).mono ?_
          rintro e w' ⟨rfl, hw⟩
          replace hw := hw.symm
          subst hw
          try go_wp2_with fail
          refine hK.out _ _ ?hs53 (fun hS2 => ?_)
          case hs53 => exact hS1
          clear hK K
          try simp only [Act.put, List.setIfInBounds_toArray, List.set_cons_zero, List.set_cons_succ]
          refine takeInH 8 12 ?v54 rfl rfl (by kernel_rfl) (by kernel_rfl) (by kernel_rfl) (fun _ _ _ h => h) (by kernel_rfl) hS2 ?hy54 ?_
          case hy54 => (intro W hW; clear hW; go_simp; try rfl)
          simp only [Act.put, List.setIfInBounds_toArray, List.set_cons_zero, List.set_cons_succ]
          refine takeInH 9 13 ?v55 rfl rfl (by kernel_rfl) (by kernel_rfl) (by kernel_rfl) (fun _ _ _ h => h) (by kernel_rfl) hS2 ?hy55 ?_
          case hy55 => (intro W hW; clear hW; go_simp; try rfl)
          simp only [Act.put, List.setIfInBounds_toArray, List.set_cons_zero, List.set_cons_succ]
          refine takeInH 10 14 ?v56 rfl rfl (by kernel_rfl) (by kernel_rfl) (by kernel_rfl) (fun _ _ _ h => h) (by kernel_rfl) hS2 ?hy56 ?_
          case hy56 => (intro W hW; clear hW; go_simp; try rfl)
          simp only [Act.put, List.setIfInBounds_toArray, List.set_cons_zero, List.set_cons_succ]
          refine takeInH 11 15 ?v57 rfl rfl (by kernel_rfl) (by kernel_rfl) (by kernel_rfl) (fun _ _ _ h => h) (by kernel_rfl) hS2 ?hy57 ?_
          case hy57 => (intro W hW; clear hW; go_simp; try rfl)
          simp only [Act.put, List.setIfInBounds_toArray, List.set_cons_zero, List.set_cons_succ]
          refine takeInH 12 16 ?v58 rfl rfl (by kernel_rfl) (by kernel_rfl) (by kernel_rfl) (fun _ _ _ h => h) (by kernel_rfl) hS2 ?hy58 ?_
          case hy58 => (intro W hW; have e0 := bcell hW c0; have e1 := bcell hW c1; have e2 := bcell hW c2; clear hW; go_simp; try rfl)
          simp only [Act.put, List.setIfInBounds_toArray, List.set_cons_zero, List.set_cons_succ]
          refine takeInH 14 18 ?v59 rfl rfl (by kernel_rfl) (by kernel_rfl) (by kernel_rfl) (fun _ _ _ h => h) (by kernel_rfl) hS2 ?hy59 ?_
          case hy59 => (intro W hW; clear hW; go_simp; try rfl)
          simp only [Act.put, List.setIfInBounds_toArray, List.set_cons_zero, List.set_cons_succ]
          refine takeInH 15 19 ?v60 rfl rfl (by kernel_rfl) (by kernel_rfl) (by kernel_rfl) (fun _ _ _ h => h) (by kernel_rfl) hS2 ?hy60 ?_
          case hy60 => (intro W hW; have e0 := bcell hW c0; have e1 := bcell hW c1; have e2 := bcell hW c2; clear hW; go_simp; try rfl)
          simp only [Act.put, List.setIfInBounds_toArray, List.set_cons_zero, List.set_cons_succ]
          refine wpAnyH_ready (rs := [13]) (by kernel_rfl) (by simp) ?_
          refine AllReadyH.cons rfl (fun K hK => ?_) AllReadyH.nil
          go_simp
          refine (HPL.out _ (NU.out.below hS2)).mono ?_
          rintro e w' ⟨v, rfl, hO, hb⟩
          obtain ⟨pp, cc, hv, hpn, _⟩ := hO.open
          subst hv
          have PN := hide hpn
          clear hO hpn
          try go_wp2_with fail
          refine hK.out _ _ ?hs61 (fun hS3 => ?_)
          case hs61 => exact bel_next hS2 hb
          clear hK K
          try simp only [Act.put, List.setIfInBounds_toArray, List.set_cons_zero, List.set_cons_succ]
          refine wpAnyH_ready (rs := [16]) (by kernel_rfl) (by simp) ?_
          refine AllReadyH.cons rfl (fun K hK => ?_) AllReadyH.nil
          go_simp
          refine (HQM.out _ _ _ _ PN.out (NU.out.below hS3)).mono ?_
          rintro e w' ⟨rfl, hb⟩
          clear PN
          try go_wp2_with fail
          refine hK.out _ _ ?hs62 (fun hS4 => ?_)
          case hs62 => exact bel_next hS3 hb
          clear hK K
          try simp only [Act.put, List.setIfInBounds_toArray, List.set_cons_zero, List.set_cons_succ]
          refine takeInH 17 21 ?v63 rfl rfl (by kernel_rfl) (by kernel_rfl) (by kernel_rfl) (fun _ _ _ h => h) (by kernel_rfl) hS4 ?hy63 ?_
          case hy63 => (intro W hW; clear hW; go_simp; try rfl)
          simp only [Act.put, List.setIfInBounds_toArray, List.set_cons_zero, List.set_cons_succ]
          refine takeInH 18 22 ?v64 rfl rfl (by kernel_rfl) (by kernel_rfl) (by kernel_rfl) (fun _ _ _ h => h) (by kernel_rfl) hS4 ?hy64 ?_
          case hy64 => (intro W hW; clear hW; go_simp; try rfl)
          simp only [Act.put, List.setIfInBounds_toArray, List.set_cons_zero, List.set_cons_succ]
          refine takeInH 19 23 ?v65 rfl rfl (by kernel_rfl) (by kernel_rfl) (by kernel_rfl) (fun _ _ _ h => h) (by kernel_rfl) hS4 ?hy65 ?_
          case hy65 => (intro W hW; clear hW; go_simp; try rfl)
          simp only [Act.put, List.setIfInBounds_toArray, List.set_cons_zero, List.set_cons_succ]
          refine takeInH 20 24 ?v66 rfl rfl (by kernel_rfl) (by kernel_rfl) (by kernel_rfl) (fun _ _ _ h => h) (by kernel_rfl) hS4 ?hy66 ?_
          case hy66 => (intro W hW; clear hW; go_simp; try rfl)
          simp only [Act.put, List.setIfInBounds_toArray, List.set_cons_zero, List.set_cons_succ]
          refine takeInH 21 25 ?v67 rfl rfl (by kernel_rfl) (by kernel_rfl) (by kernel_rfl) (fun _ _ _ h => h) (by kernel_rfl) hS4 ?hy67 ?_
          case hy67 => (intro W hW; have e0 := bcell hW c0; have e1 := bcell hW c1; have e2 := bcell hW c2; clear hW; go_simp; try rfl)
          simp only [Act.put, List.setIfInBounds_toArray, List.set_cons_zero, List.set_cons_succ]
          refine takeInH 22 26 ?v68 rfl rfl (by kernel_rfl) (by kernel_rfl) (by kernel_rfl) (fun _ _ _ h => h) (by kernel_rfl) hS4 ?hy68 ?_
          case hy68 => (intro W hW; clear hW; go_simp; try rfl)
          simp only [Act.put, List.setIfInBounds_toArray, List.set_cons_zero, List.set_cons_succ]
          refine takeInH 23 27 ?v69 rfl rfl (by kernel_rfl) (by kernel_rfl) (by kernel_rfl) (fun _ _ _ h => h) (by kernel_rfl) hS4 ?hy69 ?_
          case hy69 => (intro W hW; clear hW; go_simp; try rfl)
          simp only [Act.put, List.setIfInBounds_toArray, List.set_cons_zero, List.set_cons_succ]
          refine takeInH 24 28 ?v70 rfl rfl (by kernel_rfl) (by kernel_rfl) (by kernel_rfl) (fun _ _ _ h => h) (by kernel_rfl) hS4 ?hy70 ?_
          case hy70 => (intro W hW; have e0 := bcell hW c0; have e1 := bcell hW c1; have e2 := bcell hW c2; clear hW; go_simp; try rfl)
          simp only [Act.put, List.setIfInBounds_toArray, List.set_cons_zero, List.set_cons_succ]
          refine takeInH 27 31 ?v71 rfl rfl (by kernel_rfl) (by kernel_rfl) (by kernel_rfl) (fun _ _ _ h => h) (by kernel_rfl) hS4 ?hy71 ?_
          case hy71 => (intro W hW; clear hW; go_simp; try rfl)
          simp only [Act.put, List.setIfInBounds_toArray, List.set_cons_zero, List.set_cons_succ]
          refine takeInH 28 32 ?v72 rfl rfl (by kernel_rfl) (by kernel_rfl) (by kernel_rfl) (fun _ _ _ h => h) (by kernel_rfl) hS4 ?hy72 ?_
          case hy72 => (intro W hW; clear hW; go_simp; try rfl)
          simp only [Act.put, List.setIfInBounds_toArray, List.set_cons_zero, List.set_cons_succ]
          refine takeInH 29 33 ?v73 rfl rfl (by kernel_rfl) (by kernel_rfl) (by kernel_rfl) (fun _ _ _ h => h) (by kernel_rfl) hS4 ?hy73 ?_
          case hy73 => (intro W hW; have e0 := bcell hW c0; have e1 := bcell hW c1; have e2 := bcell hW c2; clear hW; go_simp; try rfl)
          simp only [Act.put, List.setIfInBounds_toArray, List.set_cons_zero, List.set_cons_succ]
          refine wpAnyH_ready (rs := [25]) (by kernel_rfl) (by simp) ?_
          refine AllReadyH.cons rfl (fun K hK => ?_) AllReadyH.nil
          go_simp
          refine (HG.out _ (NU.out.below hS4)).mono ?_
          rintro e w' ⟨rfl, hw⟩
          replace hw := hw.symm
          subst hw
          try go_wp2_with fail
          refine hK.out _ _ ?hs74 (fun hS5 => ?_)
          case hs74 => exact hS4
          clear hK K
          try simp only [Act.put, List.setIfInBounds_toArray, List.set_cons_zero, List.set_cons_succ]
          refine takeInH 26 30 ?v75 rfl rfl (by kernel_rfl) (by kernel_rfl) (by kernel_rfl) (fun _ _ _ h => h) (by kernel_rfl) hS5 ?hy75 ?_
          case hy75 => (intro W hW; clear hW; go_simp; try rfl)
          simp only [Act.put, List.setIfInBounds_toArray, List.set_cons_zero, List.set_cons_succ]
          refine takeInH 30 34 ?v76 rfl rfl (by kernel_rfl) (by kernel_rfl) (by kernel_rfl) (fun _ _ _ h => h) (by kernel_rfl) hS5 ?hy76 ?_
          case hy76 => (intro W hW; clear hW; go_simp; try rfl)
          simp only [Act.put, List.setIfInBounds_toArray, List.set_cons_zero, List.set_cons_succ]
          refine takeInH 31 35 ?v77 rfl rfl (by kernel_rfl) (by kernel_rfl) (by kernel_rfl) (fun _ _ _ h => h) (by kernel_rfl) hS5 ?hy77 ?_
          case hy77 => (intro W hW; clear hW; go_simp; try rfl)
          simp only [Act.put, List.setIfInBounds_toArray, List.set_cons_zero, List.set_cons_succ]
          refine wpAnyH_done (by kernel_rfl) ?_ _
          have c3 := bcell hS5 c3
          have HV := hide (bel_next HU.out hS5)
          have EV := hide (EU.out.below hS5)
          clear HU EU NU HM HMC HPL HQM HG c0 c1 c2 hS5
          go_wp2
          go_loopw [3] (fun i wr => ∃ k : Nat, k ≤ ne ∧ i = .int .i64 k ∧ Hid (Below w'.heap.size w' wr) ∧ Hid ((l.drop k).all mayF = b)) (fun i _ => ne - (intOf i).toNat)
          case atStart => exact ⟨0, by omega, rfl, Below.refl _ _, HA2⟩
          case round =>
            obtain ⟨k, hk, rfl, hB, hA⟩ := hrel
            have d3 := bcell hB.out c3
            by_cases hlt : k < ne
            · have hxx : ∃ x, l[k]? = some x := ⟨_, List.getElem?_eq_getElem (by rw [hln.out]; exact hlt)⟩
              obtain ⟨x, hx⟩ := hxx
              rcases EV.out.1.2.2 with h0 | ⟨bb, off, rfl, _⟩
              · omega
              · obtain ⟨x0, x1, x2, x3, x4, x5⟩ := EV.out.at k x hx
                replace x0 := bcell hB.out x0
                replace x1 := bcell hB.out x1
                replace x2 := bcell hB.out x2
                replace x3 := bcell hB.out x3
                replace x4 := bcell hB.out x4
                replace x5 := bcell hB.out x5
                have HD : Hid ((mayF x && (l.drop (k + 1)).all mayF) = b) := by unfold Hid; rw [← allF_drop hx]; exact hA.out
                have HSS := hide (mayF_S x)
                clear hx hA
                obtain ⟨xk, xo, xky, xn, xt, xw⟩ := x
                have HCE := hide (fun W => MayEffect_any xk xo xn xt (strOfNums xky) (strOfNums xw) (mayF (xk, xo, xky, xn, xt, xw)) HSS.out.symm W)
                clear HSS
                generalize strOfNums xky = sk at *
                generalize strOfNums xw = sw at *
                rcases hm : mayF (xk, xo, xky, xn, xt, xw) with _ | _
                · rw [hm] at HCE HD
                  have HX : Hid (false = mayE ((r, s), c, l)) := by unfold Hid; rw [HQ0.out (by rw [← HD.out]; rfl)]
                  clear hm HD
                  go_wp2_with (go_at_call 84; refine (HCE.out _).mono ?_; rintro e w9 ⟨rfl, hg⟩; change Gr _ _ at hg)
                  go_ret
                  exact ⟨retB HX.out, bel_next HV.out (bel_next hB.out hg.bel)⟩
                · rw [hm] at HCE HD
                  clear hm
                  go_wp2_with (go_at_call 84; refine (HCE.out _).mono ?_; rintro e w9 ⟨rfl, hg⟩)
                  go_roundw
                  case rel => exact ⟨k + 1, by omega, by go_num, bel_next hB.out hg.bel, HD⟩
                  case measure => simp [intOf]; omega
            · have hkl : k = ne := by omega
              subst hkl
              have hbt : b = true := by
                have h2 := hA.out
                rw [List.drop_of_length_le (by rw [hln.out]; exact Nat.le_refl _)] at h2
                rw [← h2]; rfl
              have HX := hide (HQ1.out hbt)
              clear hA hbt
              by_cases k1 : (k : Int) ≥ 1
              · by_cases k2 : (k : Int) ≤ 16
                · have HR : Hid (true = mayE ((r, s), c, l)) := by unfold Hid; rw [HX.out, hln.out]; symm; rw [decide_eq_true_iff]; omega
                  go_wp2
                  go_ret
                  exact ⟨retB HR.out, bel_next HV.out hB.out⟩
                · have HR : Hid (false = mayE ((r, s), c, l)) := by unfold Hid; rw [HX.out, hln.out]; symm; rw [decide_eq_false_iff_not]; omega
                  go_wp2
                  go_ret
                  exact ⟨retB HR.out, bel_next HV.out hB.out⟩
              · have HR : Hid (false = mayE ((r, s), c, l)) := by unfold Hid; rw [HX.out, hln.out]; symm; rw [decide_eq_false_iff_not]; omega
                go_wp2
                go_ret
                exact ⟨retB HR.out, bel_next HV.out hB.out⟩
        · have HX := hide (not_may3 (l := l) (by rw [hz]; exact hq))
          rw [hd] at HM
          rw [hmc] at HMC
          rw [hp] at HQM
          rw [hz] at HG
          have hq1 : (z + 1 == s) = false := by simp; omega
          have hq2 : (z + 1 != s) = true := by simp; omega
          have hwr : IntKind.i64.wrap (z + 1) = z + 1 := wrap_z hz0 hz1
          clear hd hp hz hq hmc hpv EU
          go_enter Try.func67, Try.ntmps67
          go_wp2
          generalize hu : w.alloc (bxE r s pa na ca pe ne ce) = u at *
          clear hu
          refine wp_region_held_drew (S := fun W => Below u.heap.size u W) (by kernel_rfl) ((Below.refl _ u).drew) (fun hS0 => ?_)
          refine takeInH 0 4 ?v78 rfl rfl (by kernel_rfl) (by kernel_rfl) (by kernel_rfl) (fun _ _ _ h => h) (by kernel_rfl) hS0 ?hy78 ?_
          case hy78 => (intro W hW; clear hW; go_simp; try rfl)
          simp only [Act.put, List.setIfInBounds_toArray, List.set_cons_zero, List.set_cons_succ]
          refine takeInH 1 5 ?v79 rfl rfl (by kernel_rfl) (by kernel_rfl) (by kernel_rfl) (fun _ _ _ h => h) (by kernel_rfl) hS0 ?hy79 ?_
          case hy79 => (intro W hW; have e0 := bcell hW c0; have e1 := bcell hW c1; have e2 := bcell hW c2; clear hW; go_simp; try rfl)
          simp only [Act.put, List.setIfInBounds_toArray, List.set_cons_zero, List.set_cons_succ]
          refine wpAnyH_ready (rs := [2]) (by kernel_rfl) (by simp) ?_
          refine AllReadyH.cons rfl (fun K hK => ?_) AllReadyH.nil
          go_simp
          refine (HM.out _).mono ?_
          rintro e w' ⟨rfl, hg⟩
          have hb := hg.bel
          clear hg
          try go_wp2_with fail
          refine hK.out _ _ ?hs80 (fun hS1 => ?_)
          case hs80 => exact bel_next hS0 hb
          clear hK K
          try simp only [Act.put, List.setIfInBounds_toArray, List.set_cons_zero, List.set_cons_succ]
          refine takeInH 3 7 ?v81 rfl rfl (by kernel_rfl) (by kernel_rfl) (by kernel_rfl) (fun _ _ _ h => h) (by kernel_rfl) hS1 ?hy81 ?_
          case hy81 => (intro W hW; clear hW; go_simp; try rfl)
          simp only [Act.put, List.setIfInBounds_toArray, List.set_cons_zero, List.set_cons_succ]
          refine takeInH 4 8 ?v82 rfl rfl (by kernel_rfl) (by kernel_rfl) (by kernel_rfl) (fun _ _ _ h => h) (by kernel_rfl) hS1 ?hy82 ?_
          case hy82 => (intro W hW; clear hW; go_simp; try rfl)
          simp only [Act.put, List.setIfInBounds_toArray, List.set_cons_zero, List.set_cons_succ]
          refine takeInH 5 9 ?v83 rfl rfl (by kernel_rfl) (by kernel_rfl) (by kernel_rfl) (fun _ _ _ h => h) (by kernel_rfl) hS1 ?hy83 ?_
          case hy83 => (intro W hW; clear hW; go_simp; try rfl)
          simp only [Act.put, List.setIfInBounds_toArray, List.set_cons_zero, List.set_cons_succ]
          refine takeInH 6 10 ?v84 rfl rfl (by kernel_rfl) (by kernel_rfl) (by kernel_rfl) (fun _ _ _ h => h) (by kernel_rfl) hS1 ?hy84 ?_
          case hy84 => (intro W hW; have e0 := bcell hW c0; have e1 := bcell hW c1; have e2 := bcell hW c2; clear hW; go_simp; try rfl)
          simp only [Act.put, List.setIfInBounds_toArray, List.set_cons_zero, List.set_cons_succ]
          refine wpAnyH_ready (rs := [7]) (by kernel_rfl) (by simp) ?_
          refine AllReadyH.cons rfl (fun K hK => ?_) AllReadyH.nil
          go_simp
          refine (HMC.out _ (NU.out.below hS1)).mono ?_
          rintro e w' ⟨rfl, hw⟩
          replace hw := hw.symm
          subst hw
          try go_wp2_with fail
          refine hK.out _ _ ?hs85 (fun hS2 => ?_)
          case hs85 => exact hS1
          clear hK K
          try simp only [Act.put, List.setIfInBounds_toArray, List.set_cons_zero, List.set_cons_succ]
          refine takeInH 8 12 ?v86 rfl rfl (by kernel_rfl) (by kernel_rfl) (by kernel_rfl) (fun _ _ _ h => h) (by kernel_rfl) hS2 ?hy86 ?_
          case hy86 => (intro W hW; clear hW; go_simp; try rfl)
          simp only [Act.put, List.setIfInBounds_toArray, List.set_cons_zero, List.set_cons_succ]
          refine takeInH 9 13 ?v87 rfl rfl (by kernel_rfl) (by kernel_rfl) (by kernel_rfl) (fun _ _ _ h => h) (by kernel_rfl) hS2 ?hy87 ?_
          case hy87 => (intro W hW; clear hW; go_simp; try rfl)
          simp only [Act.put, List.setIfInBounds_toArray, List.set_cons_zero, List.set_cons_succ]
          refine takeInH 10 14 ?v88 rfl rfl (by kernel_rfl) (by kernel_rfl) (by kernel_rfl) (fun _ _ _ h => h) (by kernel_rfl) hS2 ?hy88 ?_
          case hy88 => (intro W hW; clear hW; go_simp; try rfl)
          simp only [Act.put, List.setIfInBounds_toArray, List.set_cons_zero, List.set_cons_succ]
          refine takeInH 11 15 ?v89 rfl rfl (by kernel_rfl) (by kernel_rfl) (by kernel_rfl) (fun _ _ _ h => h) (by kernel_rfl) hS2 ?hy89 ?_
          case hy89 => (intro W hW; clear hW; go_simp; try rfl)
          simp only [Act.put, List.setIfInBounds_toArray, List.set_cons_zero, List.set_cons_succ]
          refine takeInH 12 16 ?v90 rfl rfl (by kernel_rfl) (by kernel_rfl) (by kernel_rfl) (fun _ _ _ h => h) (by kernel_rfl) hS2 ?hy90 ?_
          case hy90 => (intro W hW; have e0 := bcell hW c0; have e1 := bcell hW c1; have e2 := bcell hW c2; clear hW; go_simp; try rfl)
          simp only [Act.put, List.setIfInBounds_toArray, List.set_cons_zero, List.set_cons_succ]
          refine takeInH 14 18 ?v91 rfl rfl (by kernel_rfl) (by kernel_rfl) (by kernel_rfl) (fun _ _ _ h => h) (by kernel_rfl) hS2 ?hy91 ?_
          case hy91 => (intro W hW; clear hW; go_simp; try rfl)
          simp only [Act.put, List.setIfInBounds_toArray, List.set_cons_zero, List.set_cons_succ]
          refine takeInH 15 19 ?v92 rfl rfl (by kernel_rfl) (by kernel_rfl) (by kernel_rfl) (fun _ _ _ h => h) (by kernel_rfl) hS2 ?hy92 ?_
          case hy92 => (intro W hW; have e0 := bcell hW c0; have e1 := bcell hW c1; have e2 := bcell hW c2; clear hW; go_simp; try rfl)
          simp only [Act.put, List.setIfInBounds_toArray, List.set_cons_zero, List.set_cons_succ]
          refine wpAnyH_ready (rs := [13]) (by kernel_rfl) (by simp) ?_
          refine AllReadyH.cons rfl (fun K hK => ?_) AllReadyH.nil
          go_simp
          refine (HPL.out _ (NU.out.below hS2)).mono ?_
          rintro e w' ⟨v, rfl, hO, hb⟩
          obtain ⟨pp, cc, hv, hpn, _⟩ := hO.open
          subst hv
          have PN := hide hpn
          clear hO hpn
          try go_wp2_with fail
          refine hK.out _ _ ?hs93 (fun hS3 => ?_)
          case hs93 => exact bel_next hS2 hb
          clear hK K
          try simp only [Act.put, List.setIfInBounds_toArray, List.set_cons_zero, List.set_cons_succ]
          refine wpAnyH_ready (rs := [16]) (by kernel_rfl) (by simp) ?_
          refine AllReadyH.cons rfl (fun K hK => ?_) AllReadyH.nil
          go_simp
          refine (HQM.out _ _ _ _ PN.out (NU.out.below hS3)).mono ?_
          rintro e w' ⟨rfl, hb⟩
          clear PN
          try go_wp2_with fail
          refine hK.out _ _ ?hs94 (fun hS4 => ?_)
          case hs94 => exact bel_next hS3 hb
          clear hK K
          try simp only [Act.put, List.setIfInBounds_toArray, List.set_cons_zero, List.set_cons_succ]
          refine takeInH 17 21 ?v95 rfl rfl (by kernel_rfl) (by kernel_rfl) (by kernel_rfl) (fun _ _ _ h => h) (by kernel_rfl) hS4 ?hy95 ?_
          case hy95 => (intro W hW; clear hW; go_simp; try rfl)
          simp only [Act.put, List.setIfInBounds_toArray, List.set_cons_zero, List.set_cons_succ]
          refine takeInH 18 22 ?v96 rfl rfl (by kernel_rfl) (by kernel_rfl) (by kernel_rfl) (fun _ _ _ h => h) (by kernel_rfl) hS4 ?hy96 ?_
          case hy96 => (intro W hW; clear hW; go_simp; try rfl)
          simp only [Act.put, List.setIfInBounds_toArray, List.set_cons_zero, List.set_cons_succ]
          refine takeInH 19 23 ?v97 rfl rfl (by kernel_rfl) (by kernel_rfl) (by kernel_rfl) (fun _ _ _ h => h) (by kernel_rfl) hS4 ?hy97 ?_
          case hy97 => (intro W hW; clear hW; go_simp; try rfl)
          simp only [Act.put, List.setIfInBounds_toArray, List.set_cons_zero, List.set_cons_succ]
          refine takeInH 20 24 ?v98 rfl rfl (by kernel_rfl) (by kernel_rfl) (by kernel_rfl) (fun _ _ _ h => h) (by kernel_rfl) hS4 ?hy98 ?_
          case hy98 => (intro W hW; clear hW; go_simp; try rfl)
          simp only [Act.put, List.setIfInBounds_toArray, List.set_cons_zero, List.set_cons_succ]
          refine takeInH 21 25 ?v99 rfl rfl (by kernel_rfl) (by kernel_rfl) (by kernel_rfl) (fun _ _ _ h => h) (by kernel_rfl) hS4 ?hy99 ?_
          case hy99 => (intro W hW; have e0 := bcell hW c0; have e1 := bcell hW c1; have e2 := bcell hW c2; clear hW; go_simp; try rfl)
          simp only [Act.put, List.setIfInBounds_toArray, List.set_cons_zero, List.set_cons_succ]
          refine takeInH 22 26 ?v100 rfl rfl (by kernel_rfl) (by kernel_rfl) (by kernel_rfl) (fun _ _ _ h => h) (by kernel_rfl) hS4 ?hy100 ?_
          case hy100 => (intro W hW; clear hW; go_simp; try rfl)
          simp only [Act.put, List.setIfInBounds_toArray, List.set_cons_zero, List.set_cons_succ]
          refine takeInH 23 27 ?v101 rfl rfl (by kernel_rfl) (by kernel_rfl) (by kernel_rfl) (fun _ _ _ h => h) (by kernel_rfl) hS4 ?hy101 ?_
          case hy101 => (intro W hW; clear hW; go_simp; try rfl)
          simp only [Act.put, List.setIfInBounds_toArray, List.set_cons_zero, List.set_cons_succ]
          refine takeInH 24 28 ?v102 rfl rfl (by kernel_rfl) (by kernel_rfl) (by kernel_rfl) (fun _ _ _ h => h) (by kernel_rfl) hS4 ?hy102 ?_
          case hy102 => (intro W hW; have e0 := bcell hW c0; have e1 := bcell hW c1; have e2 := bcell hW c2; clear hW; go_simp; try rfl)
          simp only [Act.put, List.setIfInBounds_toArray, List.set_cons_zero, List.set_cons_succ]
          refine takeInH 27 31 ?v103 rfl rfl (by kernel_rfl) (by kernel_rfl) (by kernel_rfl) (fun _ _ _ h => h) (by kernel_rfl) hS4 ?hy103 ?_
          case hy103 => (intro W hW; clear hW; go_simp; try rfl)
          simp only [Act.put, List.setIfInBounds_toArray, List.set_cons_zero, List.set_cons_succ]
          refine takeInH 28 32 ?v104 rfl rfl (by kernel_rfl) (by kernel_rfl) (by kernel_rfl) (fun _ _ _ h => h) (by kernel_rfl) hS4 ?hy104 ?_
          case hy104 => (intro W hW; clear hW; go_simp; try rfl)
          simp only [Act.put, List.setIfInBounds_toArray, List.set_cons_zero, List.set_cons_succ]
          refine takeInH 29 33 ?v105 rfl rfl (by kernel_rfl) (by kernel_rfl) (by kernel_rfl) (fun _ _ _ h => h) (by kernel_rfl) hS4 ?hy105 ?_
          case hy105 => (intro W hW; have e0 := bcell hW c0; have e1 := bcell hW c1; have e2 := bcell hW c2; clear hW; go_simp; try rfl)
          simp only [Act.put, List.setIfInBounds_toArray, List.set_cons_zero, List.set_cons_succ]
          refine wpAnyH_ready (rs := [25]) (by kernel_rfl) (by simp) ?_
          refine AllReadyH.cons rfl (fun K hK => ?_) AllReadyH.nil
          go_simp
          refine (HG.out _ (NU.out.below hS4)).mono ?_
          rintro e w' ⟨rfl, hw⟩
          replace hw := hw.symm
          subst hw
          try go_wp2_with fail
          refine hK.out _ _ ?hs106 (fun hS5 => ?_)
          case hs106 => exact hS4
          clear hK K
          try simp only [Act.put, List.setIfInBounds_toArray, List.set_cons_zero, List.set_cons_succ]
          refine takeInH 26 30 ?v107 rfl rfl (by kernel_rfl) (by kernel_rfl) (by kernel_rfl) (fun _ _ _ h => h) (by kernel_rfl) hS5 ?hy107 ?_
          case hy107 => (intro W hW; clear hW; go_simp; try rfl)
          simp only [Act.put, List.setIfInBounds_toArray, List.set_cons_zero, List.set_cons_succ]
          refine takeInH 30 34 ?v108 rfl rfl (by kernel_rfl) (by kernel_rfl) (by kernel_rfl) (fun _ _ _ h => h) (by kernel_rfl) hS5 ?hy108 ?_
          case hy108 => (intro W hW; clear hW; go_simp; try rfl)
          simp only [Act.put, List.setIfInBounds_toArray, List.set_cons_zero, List.set_cons_succ]
          refine takeInH 31 35 ?v109 rfl rfl (by kernel_rfl) (by kernel_rfl) (by kernel_rfl) (fun _ _ _ h => h) (by kernel_rfl) hS5 ?hy109 ?_
          case hy109 => (intro W hW; clear hW; go_simp; try rfl)
          simp only [Act.put, List.setIfInBounds_toArray, List.set_cons_zero, List.set_cons_succ]
          refine wpAnyH_done (by kernel_rfl) ?_ _
          go_wp2
          go_ret
          exact ⟨retB HX.out.symm, bel_next HU.out hS5⟩
end Go.Proofs.Ytiodlpoeifmldaa

namespace Go.Proofs.Ytiodlpoeifmldaa
open Go.RowKit
set_option linter.unusedVariables false
/-- Is an event of a dot in a list? -/
def findB (es : List Evt) (d : Dot) : Bool := es.any (fun e => decide (e.1 = d))
theorem findB_iff {es : List Evt} {d : Dot} : findB es d = true ↔ ∃ e ∈ es, e.1 = d := by simp [findB]
theorem findB_step {es : List Evt} {d : Dot} {k : Nat} {x : Evt} (hx : es[k]? = some x) (hn : x.1 ≠ d) : findB (es.drop k) d = findB (es.drop (k + 1)) d := by
  obtain ⟨hk, rfl⟩ := List.getElem?_eq_some_iff.1 hx
  rw [List.drop_eq_getElem_cons hk]
  unfold findB
  rw [List.any_cons, decide_eq_false hn, Bool.false_or]
theorem findB_yes {es : List Evt} {d : Dot} {k : Nat} {x : Evt} (hx : es[k]? = some x) (hn : x.1 = d) : findB (es.drop k) d = true := by
  obtain ⟨hk, rfl⟩ := List.getElem?_eq_some_iff.1 hx
  rw [List.drop_eq_getElem_cons hk]
  unfold findB
  rw [List.any_cons, decide_eq_true hn, Bool.true_or]
set_option maxHeartbeats 2000000 in
/-- The document's 'find'. -/
theorem find_any (a : Option Addr) (n cap : Nat) (es : List Evt) (p q : Int) (w : World) (hE : EVS w a n es) (b : Bool) (hb : b = findB es (p, q)) :
    Calls Try.prog 68 #[.slice a n cap, .agg #[.int .i64 p, .int .i64 q]] w fun e w' => e = .returned (.bool b) ∧ Below w.heap.size w w' := by
  have HV := hide (hE.alloc (bxD p q))
  have hlen := hide hE.len
  have hmx := hE.max
  unfold maxLen at hmx
  have q0' : (w.alloc (bxD p q)).cell? ⟨w.heap.size, 0, none⟩ = some (.int .i64 p) := cell_new w _ _ _ rfl 0 _ rfl
  have q1' : (w.alloc (bxD p q)).cell? ⟨w.heap.size, 1, none⟩ = some (.int .i64 q) := cell_new w _ _ _ rfl 1 _ rfl
  have HQ0 := hide q0'
  have HQ1 := hide q1'
  clear hE q0' q1'
  go_enter Try.func68, Try.ntmps68
  go_wp2
  go_loopw [5] (fun i wr => ∃ k : Nat, k ≤ n ∧ i = .int .i64 k ∧ Hid (b = findB (es.drop k) (p, q)) ∧ Hid (Below (w.alloc (bxD p q)).heap.size (w.alloc (bxD p q)) wr)) (fun i _ => n - (intOf i).toNat)
  case atStart => exact ⟨0, by omega, rfl, hb, Below.refl _ _⟩
  case round =>
    clear hb
    obtain ⟨k, hk, rfl, HJ, hB⟩ := hrel
    by_cases hlt : k < n
    · obtain ⟨bb, off, rfl⟩ := HV.out.addr (by omega)
      obtain ⟨r, s, pa, na, ca, pe, ne, ce, c, fs, hx, x0, x1, x2, x3, hns, hca, hes, hce⟩ := HV.out.at k hlt
      replace x0 := bcell hB.out x0
      replace x1 := bcell hB.out x1
      have q0 := bcell hB.out HQ0.out
      have q1 := bcell hB.out HQ1.out
      clear x2 x3 hns hca hes hce
      by_cases h1 : r = p
      · by_cases h2 : s = q
        · have HE : Hid (true = b) := by unfold Hid; rw [HJ.out, findB_yes hx (by simp only []; rw [h1, h2])]
          subst h1 h2
          clear hx
          go_wp2
          refine wp_region_held_drew (S := fun W => Below wr.heap.size wr W) (by kernel_rfl) ((Below.refl _ wr).drew) (fun hS0 => ?_)
          refine takeInH 0 12 ?v17 rfl rfl (by kernel_rfl) (by kernel_rfl) (by kernel_rfl) (fun _ _ _ h => h) (by kernel_rfl) hS0 ?hy17 ?_
          case hy17 => (intro W hW; clear hW; go_simp; try rfl)
          simp only [Act.put, List.setIfInBounds_toArray, List.set_cons_zero, List.set_cons_succ]
          refine takeInH 1 13 ?v18 rfl rfl (by kernel_rfl) (by kernel_rfl) (by kernel_rfl) (fun _ _ _ h => h) (by kernel_rfl) hS0 ?hy18 ?_
          case hy18 => (intro W hW; clear hW; go_simp; try rfl)
          simp only [Act.put, List.setIfInBounds_toArray, List.set_cons_zero, List.set_cons_succ]
          refine takeInH 2 14 ?v19 rfl rfl (by kernel_rfl) (by kernel_rfl) (by kernel_rfl) (fun _ _ _ h => h) (by kernel_rfl) hS0 ?hy19 ?_
          case hy19 => (intro W hW; clear hW; go_simp; try rfl)
          simp only [Act.put, List.setIfInBounds_toArray, List.set_cons_zero, List.set_cons_succ]
          refine takeInH 3 15 ?v20 rfl rfl (by kernel_rfl) (by kernel_rfl) (by kernel_rfl) (fun _ _ _ h => h) (by kernel_rfl) hS0 ?hy20 ?_
          case hy20 => (intro W hW; clear hW; go_simp; try rfl)
          simp only [Act.put, List.setIfInBounds_toArray, List.set_cons_zero, List.set_cons_succ]
          refine takeInH 4 16 ?v21 rfl rfl (by kernel_rfl) (by kernel_rfl) (by kernel_rfl) (fun _ _ _ h => h) (by kernel_rfl) hS0 ?hy21 ?_
          case hy21 => (intro W hW; have e0 := bcell hW x0; have e1 := bcell hW x1; have e2 := bcell hW q0; have e3 := bcell hW q1; clear hW; go_simp; try rfl)
          simp only [Act.put, List.setIfInBounds_toArray, List.set_cons_zero, List.set_cons_succ]
          refine takeInH 5 17 ?v22 rfl rfl (by kernel_rfl) (by kernel_rfl) (by kernel_rfl) (fun _ _ _ h => h) (by kernel_rfl) hS0 ?hy22 ?_
          case hy22 => (intro W hW; have e0 := bcell hW x0; have e1 := bcell hW x1; have e2 := bcell hW q0; have e3 := bcell hW q1; clear hW; go_simp; try rfl)
          simp only [Act.put, List.setIfInBounds_toArray, List.set_cons_zero, List.set_cons_succ]
          refine takeInH 6 18 ?v23 rfl rfl (by kernel_rfl) (by kernel_rfl) (by kernel_rfl) (fun _ _ _ h => h) (by kernel_rfl) hS0 ?hy23 ?_
          case hy23 => (intro W hW; clear hW; go_simp; try rfl)
          simp only [Act.put, List.setIfInBounds_toArray, List.set_cons_zero, List.set_cons_succ]
          refine wpAnyH_done (by kernel_rfl) ?_ _
          go_wp2
          go_ret
          exact ⟨retB HE.out, bel_next (bel1 w _) (bel_next hB.out hS0)⟩
        · have HJ2 : Hid (b = findB (es.drop (k + 1)) (p, q)) := by unfold Hid; rw [HJ.out, findB_step hx (fun h => h2 (congrArg Prod.snd h))]
          subst h1
          clear hx
          go_wp2
          refine wp_region_held_drew (S := fun W => Below wr.heap.size wr W) (by kernel_rfl) ((Below.refl _ wr).drew) (fun hS0 => ?_)
          refine takeInH 0 12 ?v24 rfl rfl (by kernel_rfl) (by kernel_rfl) (by kernel_rfl) (fun _ _ _ h => h) (by kernel_rfl) hS0 ?hy24 ?_
          case hy24 => (intro W hW; clear hW; go_simp; try rfl)
          simp only [Act.put, List.setIfInBounds_toArray, List.set_cons_zero, List.set_cons_succ]
          refine takeInH 1 13 ?v25 rfl rfl (by kernel_rfl) (by kernel_rfl) (by kernel_rfl) (fun _ _ _ h => h) (by kernel_rfl) hS0 ?hy25 ?_
          case hy25 => (intro W hW; clear hW; go_simp; try rfl)
          simp only [Act.put, List.setIfInBounds_toArray, List.set_cons_zero, List.set_cons_succ]
          refine takeInH 2 14 ?v26 rfl rfl (by kernel_rfl) (by kernel_rfl) (by kernel_rfl) (fun _ _ _ h => h) (by kernel_rfl) hS0 ?hy26 ?_
          case hy26 => (intro W hW; clear hW; go_simp; try rfl)
          simp only [Act.put, List.setIfInBounds_toArray, List.set_cons_zero, List.set_cons_succ]
          refine takeInH 3 15 ?v27 rfl rfl (by kernel_rfl) (by kernel_rfl) (by kernel_rfl) (fun _ _ _ h => h) (by kernel_rfl) hS0 ?hy27 ?_
          case hy27 => (intro W hW; clear hW; go_simp; try rfl)
          simp only [Act.put, List.setIfInBounds_toArray, List.set_cons_zero, List.set_cons_succ]
          refine takeInH 4 16 ?v28 rfl rfl (by kernel_rfl) (by kernel_rfl) (by kernel_rfl) (fun _ _ _ h => h) (by kernel_rfl) hS0 ?hy28 ?_
          case hy28 => (intro W hW; have e0 := bcell hW x0; have e1 := bcell hW x1; have e2 := bcell hW q0; have e3 := bcell hW q1; clear hW; go_simp; try rfl)
          simp only [Act.put, List.setIfInBounds_toArray, List.set_cons_zero, List.set_cons_succ]
          refine takeInH 5 17 ?v29 rfl rfl (by kernel_rfl) (by kernel_rfl) (by kernel_rfl) (fun _ _ _ h => h) (by kernel_rfl) hS0 ?hy29 ?_
          case hy29 => (intro W hW; have e0 := bcell hW x0; have e1 := bcell hW x1; have e2 := bcell hW q0; have e3 := bcell hW q1; clear hW; go_simp; try rfl)
          simp only [Act.put, List.setIfInBounds_toArray, List.set_cons_zero, List.set_cons_succ]
          refine takeInH 6 18 ?v30 rfl rfl (by kernel_rfl) (by kernel_rfl) (by kernel_rfl) (fun _ _ _ h => h) (by kernel_rfl) hS0 ?hy30 ?_
          case hy30 => (intro W hW; clear hW; go_simp; try rfl)
          simp only [Act.put, List.setIfInBounds_toArray, List.set_cons_zero, List.set_cons_succ]
          refine wpAnyH_done (by kernel_rfl) ?_ _
          go_wp2
          go_roundw
          case rel => exact ⟨k + 1, by omega, by go_num, HJ2, (show Hid _ from bel_next hB.out hS0)⟩
          case measure => simp [intOf]; omega
      · have HJ2 : Hid (b = findB (es.drop (k + 1)) (p, q)) := by unfold Hid; rw [HJ.out, findB_step hx (fun h => h1 (congrArg Prod.fst h))]
        clear hx
        go_wp2
        refine wp_region_held_drew (S := fun W => Below wr.heap.size wr W) (by kernel_rfl) ((Below.refl _ wr).drew) (fun hS0 => ?_)
        refine takeInH 0 12 ?v31 rfl rfl (by kernel_rfl) (by kernel_rfl) (by kernel_rfl) (fun _ _ _ h => h) (by kernel_rfl) hS0 ?hy31 ?_
        case hy31 => (intro W hW; clear hW; go_simp; try rfl)
        simp only [Act.put, List.setIfInBounds_toArray, List.set_cons_zero, List.set_cons_succ]
        refine takeInH 1 13 ?v32 rfl rfl (by kernel_rfl) (by kernel_rfl) (by kernel_rfl) (fun _ _ _ h => h) (by kernel_rfl) hS0 ?hy32 ?_
        case hy32 => (intro W hW; clear hW; go_simp; try rfl)
        simp only [Act.put, List.setIfInBounds_toArray, List.set_cons_zero, List.set_cons_succ]
        refine takeInH 2 14 ?v33 rfl rfl (by kernel_rfl) (by kernel_rfl) (by kernel_rfl) (fun _ _ _ h => h) (by kernel_rfl) hS0 ?hy33 ?_
        case hy33 => (intro W hW; clear hW; go_simp; try rfl)
        simp only [Act.put, List.setIfInBounds_toArray, List.set_cons_zero, List.set_cons_succ]
        refine takeInH 3 15 ?v34 rfl rfl (by kernel_rfl) (by kernel_rfl) (by kernel_rfl) (fun _ _ _ h => h) (by kernel_rfl) hS0 ?hy34 ?_
        case hy34 => (intro W hW; clear hW; go_simp; try rfl)
        simp only [Act.put, List.setIfInBounds_toArray, List.set_cons_zero, List.set_cons_succ]
        refine takeInH 4 16 ?v35 rfl rfl (by kernel_rfl) (by kernel_rfl) (by kernel_rfl) (fun _ _ _ h => h) (by kernel_rfl) hS0 ?hy35 ?_
        case hy35 => (intro W hW; have e0 := bcell hW x0; have e1 := bcell hW x1; have e2 := bcell hW q0; have e3 := bcell hW q1; clear hW; go_simp; try rfl)
        simp only [Act.put, List.setIfInBounds_toArray, List.set_cons_zero, List.set_cons_succ]
        refine takeInH 5 17 ?v36 rfl rfl (by kernel_rfl) (by kernel_rfl) (by kernel_rfl) (fun _ _ _ h => h) (by kernel_rfl) hS0 ?hy36 ?_
        case hy36 => (intro W hW; have e0 := bcell hW x0; have e1 := bcell hW x1; have e2 := bcell hW q0; have e3 := bcell hW q1; clear hW; go_simp; try rfl)
        simp only [Act.put, List.setIfInBounds_toArray, List.set_cons_zero, List.set_cons_succ]
        refine takeInH 6 18 ?v37 rfl rfl (by kernel_rfl) (by kernel_rfl) (by kernel_rfl) (fun _ _ _ h => h) (by kernel_rfl) hS0 ?hy37 ?_
        case hy37 => (intro W hW; clear hW; go_simp; try rfl)
        simp only [Act.put, List.setIfInBounds_toArray, List.set_cons_zero, List.set_cons_succ]
        refine wpAnyH_done (by kernel_rfl) ?_ _
        go_wp2
        go_roundw
        case rel => exact ⟨k + 1, by omega, by go_num, HJ2, (show Hid _ from bel_next hB.out hS0)⟩
        case measure => simp [intOf]; omega
    · have HE : Hid (false = b) := by
        unfold Hid
        rw [HJ.out, List.drop_eq_nil_of_le (by rw [hlen.out]; omega)]
        rfl
      have hkz : ¬ (k : Int) < (n : Int) := by omega
      go_wp2
      go_ret
      exact ⟨retB HE.out, bel_next (bel1 w (bxD p q)) hB.out⟩
end Go.Proofs.Ytiodlpoeifmldaa

namespace Go.Proofs.Ytiodlpoeifmldaa
open Go.RowKit
set_option linter.unusedVariables false
section
variable {α : Type} [DecidableEq α]
/-- No more of them than of those among which they are. -/
theorem nd_le : ∀ (A B : List α), A.Nodup → (∀ x ∈ A, x ∈ B) → A.length ≤ B.length
  | [], B, _, _ => Nat.zero_le _
  | a :: A, B, hn, hs => by
    have h1 := List.nodup_cons.1 hn
    have ha : a ∈ B := hs a (by simp)
    have h2 := nd_le A (B.erase a) h1.2 (fun x hx => (List.mem_erase_of_ne (fun e => h1.1 (by rw [← e]; exact hx))).2 (hs x (by simp [hx])))
    rw [List.length_erase_of_mem ha] at h2
    have h3 := List.length_pos_of_mem ha
    simp only [List.length_cons]
    omega
/-- As many of them as there are: then all are there. -/
theorem nd_all {A B : List α} (hn : A.Nodup) (hs : ∀ x ∈ A, x ∈ B) (hl : B.length ≤ A.length) : ∀ y ∈ B, y ∈ A := by
  intro y hy
  by_cases h : y ∈ A
  · exact h
  · exfalso
    have h2 := nd_le A (B.erase y) hn (fun x hx => (List.mem_erase_of_ne (fun e => h (by rw [← e]; exact hx))).2 (hs x hx))
    rw [List.length_erase_of_mem hy] at h2
    have h3 := List.length_pos_of_mem hy
    omega
/-- One that stands once more would leave too few. -/
theorem nd_of : ∀ (B A : List α), A.Nodup → (∀ x, x ∈ A ↔ x ∈ B) → B.length ≤ A.length → B.Nodup
  | [], A, _, _, _ => List.nodup_nil
  | b :: B, A, hn, hs, hl => by
    simp only [List.length_cons] at hl
    have hb : b ∉ B := fun hb => by
      have := nd_le A B hn (fun x hx => by
        rcases List.mem_cons.1 ((hs x).1 hx) with e | e
        · rw [e]; exact hb
        · exact e)
      omega
    refine List.nodup_cons.2 ⟨hb, nd_of B (A.erase b) (hn.erase b) (fun x => ?_) ?_⟩
    · rw [hn.mem_erase_iff, hs x]
      constructor
      · rintro ⟨h1, h2⟩
        rcases List.mem_cons.1 h2 with e | e
        · exact absurd e h1
        · exact e
      · intro h
        exact ⟨fun e => hb (by rw [← e]; exact h), List.mem_cons_of_mem _ h⟩
    · rw [List.length_erase_of_mem ((hs b).2 (by simp))]
      omega
end
theorem srtD_nodup {l : List Dot} (h : SrtD l) : l.Nodup := by
  refine List.Pairwise.imp ?_ h
  intro a b hab e
  rw [e, lessD_irr] at hab
  cases hab
theorem ord_nodup (l : List Dot) : (ordD l).length = l.length ↔ l.Nodup := by
  constructor
  · intro h
    exact nd_of l (ordD l) (srtD_nodup (ordD_srt l)) (fun x => ordD_mem) (by omega)
  · intro h
    have := nd_le l (ordD l) h (fun x hx => ordD_mem.2 hx)
    have := ordD_len5 l
    omega
theorem nodup_find (es : List Evt) : (es.map (·.1)).Nodup ↔ ∀ (i : Nat) x, es[i]? = some x → findB (es.take i) x.1 = false := by
  unfold List.Nodup
  rw [List.pairwise_map, List.pairwise_iff_getElem]
  constructor
  · intro h i x hx
    obtain ⟨hi, rfl⟩ := List.getElem?_eq_some_iff.1 hx
    rw [← Bool.not_eq_true, findB_iff]
    rintro ⟨e, he, hd⟩
    obtain ⟨j, hj⟩ := List.getElem?_of_mem he
    rw [List.getElem?_take] at hj
    split at hj
    · next hlt =>
      obtain ⟨hjl, rfl⟩ := List.getElem?_eq_some_iff.1 hj
      exact h j i hjl hi hlt hd
    · cases hj
  · intro h i j hi hj hij e
    have q := h j es[j] (List.getElem?_eq_getElem hj)
    rw [← Bool.not_eq_true, findB_iff] at q
    refine q ⟨es[i], ?_, e⟩
    refine List.mem_of_getElem? (i := i) ?_
    rw [List.getElem?_take, if_pos hij, List.getElem?_eq_getElem hi]
/-- The Seqs that a replica has. -/
def seqs (es : List Evt) (r : Int) : List Int := (es.filter fun e => decide (e.1.1 = r)).map (·.1.2)
theorem seqs_len (es : List Evt) (r : Int) : ((seqs es r).length : Int) = cnt es r := by
  unfold seqs cnt
  rw [List.length_map, List.countP_eq_length_filter]
theorem seqs_mem {es : List Evt} {r m : Int} : m ∈ seqs es r ↔ findB es (r, m) = true := by
  unfold seqs
  rw [findB_iff, List.mem_map]
  constructor
  · rintro ⟨e, he, rfl⟩
    rw [List.mem_filter, decide_eq_true_iff] at he
    exact ⟨e, he.1, Prod.ext he.2 rfl⟩
  · rintro ⟨e, he, hd⟩
    exact ⟨e, List.mem_filter.2 ⟨he, decide_eq_true (congrArg Prod.fst hd)⟩, congrArg Prod.snd hd⟩
theorem seqs_nodup {es : List Evt} (h : (es.map (·.1)).Nodup) (r : Int) : (seqs es r).Nodup := by
  unfold seqs
  unfold List.Nodup at h ⊢
  rw [List.pairwise_map] at h ⊢
  refine (h.filter _).imp_of_mem ?_
  intro a b ha hb hne e
  rw [List.mem_filter, decide_eq_true_iff] at ha hb
  exact hne (Prod.ext (ha.2.trans hb.2.symm) e)
/-- One to n. -/
def upto (n : Nat) : List Int := (List.range n).map fun (i : Nat) => (i : Int) + 1
theorem upto_mem {n : Nat} {m : Int} : m ∈ upto n ↔ 1 ≤ m ∧ m ≤ n := by
  unfold upto
  rw [List.mem_map]
  constructor
  · rintro ⟨i, hi, rfl⟩
    have := List.mem_range.1 hi
    omega
  · rintro ⟨h1, h2⟩
    exact ⟨(m - 1).toNat, List.mem_range.2 (by omega), by omega⟩
theorem upto_nodup (n : Nat) : (upto n).Nodup := by
  unfold upto List.Nodup
  rw [List.pairwise_map]
  refine List.Pairwise.imp ?_ List.nodup_range
  intro a b h e
  exact h (by omega)
theorem upto_len (n : Nat) : (upto n).length = n := by simp [upto]
theorem cnt_sum : ∀ (es : List Evt), (∀ e ∈ es, mayD e.1 = true) → cnt es 1 + cnt es 2 + cnt es 3 + cnt es 4 + cnt es 5 = es.length
  | [], _ => rfl
  | e :: es, h => by
    have ih := cnt_sum es (fun x hx => h x (by simp [hx]))
    have hd := mayD_iff.1 (h e (by simp))
    have c : ∀ r, cnt (e :: es) r = cnt es r + if e.1.1 = r then 1 else 0 := by
      intro r
      unfold cnt
      rw [List.countP_cons]
      by_cases hr : e.1.1 = r
      · simp [hr]
      · simp [hr]
    rw [c, c, c, c, c, List.length_cons]
    have h5 : e.1.1 = 1 ∨ e.1.1 = 2 ∨ e.1.1 = 3 ∨ e.1.1 = 4 ∨ e.1.1 = 5 := by omega
    rcases h5 with h5 | h5 | h5 | h5 | h5 <;> rw [h5] <;> simp <;> omega
theorem at5_cnts {es : List Evt} (hn : es.length ≤ 1000) (j : Nat) (hj : j < 5) : at5 (cnts es) j = cnt es ((j : Int) + 1) := by
  have hm : mayC (cnts es) = true := by
    unfold mayC cnts
    rw [Bool.and_eq_true]
    refine ⟨by simp, ?_⟩
    simp only [List.all_cons, List.all_nil, Bool.and_true, Bool.and_eq_true]
    have hb : ∀ r, inB (cnt es r) = true := fun r => by
      have := cnt_bd es r
      unfold inB
      rw [Bool.and_eq_true, decide_eq_true_iff, decide_eq_true_iff]
      omega
    exact ⟨hb 1, hb 2, hb 3, hb 4, hb 5⟩
  unfold at5
  rw [if_pos hm, cnts_getD es j hj]
/-- What the document asks of each event by itself. -/
def ok1 (es : List Evt) (i : Nat) (x : Evt) : Prop := mayE x = true ∧ findB (es.take i) x.1 = false ∧ sumL x.2.1 < es.length
theorem may_facts {x : Evt} (h : mayE x = true) : (1 ≤ x.1.1 ∧ x.1.1 ≤ 5 ∧ 1 ≤ x.1.2 ∧ x.1.2 ≤ 1048576) ∧ getZ x.2.1 x.1.1 = x.1.2 - 1 := by
  have q := headB_iff.1 (mayE_iff.1 h).1
  exact ⟨mayD_iff.1 q.1, q.2.2⟩
theorem closed_parts {es : List Evt} : closedB es = true ↔ (∀ x ∈ es, mayE x = true) ∧ (es.map (·.1)).Nodup ∧ ∀ x ∈ es, x.1.2 ≤ cnt es x.1.1 ∧ wth x.2.1 (cnts es) := by
  unfold closedB okC
  rw [Bool.and_eq_true, Bool.and_eq_true, List.all_eq_true, List.all_eq_true, decide_eq_true_iff]
  have e : (ordD (es.map (·.1))).length = es.length ↔ (es.map (·.1)).Nodup := by
    rw [← ord_nodup, List.length_map]
  rw [e, and_assoc]
  simp only [Bool.and_eq_true, decide_eq_true_iff]
theorem closed_found {es : List Evt} (hn : es.length ≤ 1000) (h : closedB es = true) : ∀ e ∈ es, ∀ r m : Int, 1 ≤ r → r ≤ 5 → 1 ≤ m → m ≤ getZ e.2.1 r → findB es (r, m) = true := by
  obtain ⟨h1, h2, h3⟩ := closed_parts.1 h
  intro e he r m hr1 hr5 hm1 hm2
  obtain ⟨k, hk⟩ : ∃ k : Nat, r = (k : Int) + 1 := ⟨(r - 1).toNat, by omega⟩
  have hw := (wth_all _ _).1 (h3 e he).2 k (by omega)
  rw [at5_cnts hn k (by omega), ← hk] at hw
  rw [hk, getZ_in _ k (by omega)] at hm2
  have hl := seqs_len es r
  refine seqs_mem.1 (nd_all (A := seqs es r) (B := upto (seqs es r).length) (seqs_nodup h2 r) ?_ (by rw [upto_len]; exact Nat.le_refl _) m (upto_mem.2 ⟨hm1, by omega⟩))
  intro x hx
  rw [seqs_mem, findB_iff] at hx
  obtain ⟨e', he', hd⟩ := hx
  have hf := may_facts (h1 e' he')
  have hc := (h3 e' he').1
  rw [hd] at hf hc
  simp only at hf hc
  exact upto_mem.2 ⟨hf.1.2.2.1, by omega⟩
theorem closed_ok1 {es : List Evt} (hn : es.length ≤ 1000) (h : closedB es = true) : ∀ (i : Nat) x, es[i]? = some x → ok1 es i x := by
  obtain ⟨h1, h2, h3⟩ := closed_parts.1 h
  intro i x hx
  have hm := List.mem_of_getElem? hx
  refine ⟨h1 x hm, (nodup_find es).1 h2 i x hx, ?_⟩
  have hs := cnt_sum es (fun e he => mayD_iff.2 (may_facts (h1 e he)).1)
  have hf := may_facts (h1 x hm)
  have hc := h3 x hm
  have hw := (wth_all _ _).1 hc.2
  obtain ⟨k, hk⟩ : ∃ k : Nat, x.1.1 = (k : Int) + 1 := ⟨(x.1.1 - 1).toNat, by omega⟩
  have hz := hf.2
  have hq := hc.1
  rw [hk] at hz hq
  rw [getZ_in _ k (by omega)] at hz
  have w0 := hw 0 (by omega)
  have w1 := hw 1 (by omega)
  have w2 := hw 2 (by omega)
  have w3 := hw 3 (by omega)
  have w4 := hw 4 (by omega)
  rw [at5_cnts hn _ (by omega)] at w0 w1 w2 w3 w4
  unfold sumL
  have hk5 : k = 0 ∨ k = 1 ∨ k = 2 ∨ k = 3 ∨ k = 4 := by omega
  rcases hk5 with rfl | rfl | rfl | rfl | rfl <;> simp at * <;> omega
theorem ok_closed {es : List Evt} (hn : es.length ≤ 1000) (h1 : ∀ (i : Nat) x, es[i]? = some x → ok1 es i x) (h2 : ∀ e ∈ es, ∀ r m : Int, 1 ≤ r → r ≤ 5 → 1 ≤ m → m ≤ getZ e.2.1 r → findB es (r, m) = true) : closedB es = true := by
  have hall : ∀ x ∈ es, mayE x = true := fun x hx => by
    obtain ⟨i, hi⟩ := List.getElem?_of_mem hx
    exact (h1 i x hi).1
  refine closed_parts.2 ⟨hall, (nodup_find es).2 (fun i x hx => (h1 i x hx).2.1), fun x hx => ?_⟩
  have hf := may_facts (hall x hx)
  constructor
  · have := nd_le (upto x.1.2.toNat) (seqs es x.1.1) (upto_nodup _) (fun m hm => by
      have hm' := upto_mem.1 hm
      rw [seqs_mem]
      by_cases e : m = x.1.2
      · rw [findB_iff]
        exact ⟨x, hx, by rw [e]⟩
      · exact h2 x hx x.1.1 m hf.1.1 hf.1.2.1 hm'.1 (by rw [hf.2]; omega))
    rw [upto_len] at this
    have hl := seqs_len es x.1.1
    omega
  · rw [wth_all]
    intro k hk
    rw [at5_cnts hn k hk, ← getZ_in _ k hk]
    have hb := getZ_bd x.2.1 ((k : Int) + 1)
    have := nd_le (upto (getZ x.2.1 ((k : Int) + 1)).toNat) (seqs es ((k : Int) + 1)) (upto_nodup _) (fun m hm => by
      have hm' := upto_mem.1 hm
      rw [seqs_mem]
      exact h2 x hx _ m (by omega) (by omega) hm'.1 (by omega))
    rw [upto_len] at this
    have hl := seqs_len es ((k : Int) + 1)
    omega
end Go.Proofs.Ytiodlpoeifmldaa

namespace Go.Proofs.Ytiodlpoeifmldaa
open Go.RowKit Go.ChangeShapes Go.WideShapes
set_option linter.unusedVariables false
/-- Events that came in. -/
def InEs (w : World) (v : Value) : Prop := ∃ a n cap es, v = .slice a n cap ∧ EVS w a n es ∧ CP a n cap
section
variable {H : Type} {enc : TypeId × Value → H} {W : World}
set_option maxRecDepth 100000 in
theorem evts_trod {v : Value} {fuel : Nat} {y : DataW H × List MemPlace} (h : DataW.trod enc Try.prog W 0 (fun _ => true) true fuel 52 [v] = some y) : InEs W v := by
  rcases Deep.open_slice Try.underlying52 h with ⟨hcs, _⟩ | ⟨a, len, cap, m, n, D, Pl, hcs, _, hl, hm, hmm, _, hx⟩
  · simp at hcs
    subst hcs
    exact ⟨_, _, _, [], rfl, EVS.nil _ _, Nat.le_refl _, by decide, fun _ => rfl⟩
  · simp at hcs
    subst hcs
    have hmm' : m = cap := by simpa using hmm
    subst hmm'
    rw [Try.cellsEvt] at hx
    have each : ∀ i, i < len → ∃ p : Rv × Evt, Rel W p.1 p.2 ∧ ∀ j u, (encV p.1)[j]? = some u → W.cell? (a.add (i * 4 + j)) = some u := by
      intro i hi
      obtain ⟨cs', h1, h2⟩ := hx i (by omega)
      obtain ⟨_, hlen, hcell⟩ := World.cells?_some h1
      obtain ⟨v0, v1, v2, v3, rfl⟩ := len4 cs' hlen
      obtain ⟨r, s, pa, na, ca, pe, ne, ce, c, l, he, k1, k2, k3, k4⟩ := evt_trod h2
      refine ⟨((r, s, (pa, na, ca), (pe, ne, ce)), ((r, s), c, l)), ⟨rfl, ⟨k1, k2⟩, ⟨k3, k4⟩⟩, fun j u hj => ?_⟩
      have he' : encV (r, s, (pa, na, ca), (pe, ne, ce)) = [v0, v1, v2, v3] := he.symm
      rw [he'] at hj
      have hj4 : j < 4 := (List.getElem?_eq_some_iff.1 hj).1
      have q := hcell j hj4
      rw [Deep.add_add] at q
      rw [q]
      exact hj
    have hf : ∃ f : Nat → Rv × Evt, ∀ i, i < len → Rel W (f i).1 (f i).2 ∧ ∀ j u, (encV (f i).1)[j]? = some u → W.cell? (a.add (i * 4 + j)) = some u := by
      refine ⟨fun i => if h : i < len then Classical.choose (each i h) else ((0, 0, (none, 0, 0), (none, 0, 0)), ((0, 0), [], [])), fun i hi => ?_⟩
      have := Classical.choose_spec (each i hi)
      simpa [hi] using this
    obtain ⟨f, hf⟩ := hf
    refine ⟨_, _, _, (List.range len).map (fun i => (f i).2), rfl, ⟨(List.range len).map (fun i => (f i).1), ⟨by simp, by omega, ?_⟩, by simp, fun i x e hx he => ?_⟩, hl, hm, fun h => by cases h⟩
    · rcases Nat.eq_zero_or_pos len with h0 | hp
      · exact .inl h0
      · obtain ⟨b, off, spot⟩ := a
        have hspot : spot = none := by
          have := (hf 0 hp).2 0 _ rfl
          simpa [Addr.add] using World.cell?_spot this
        subst hspot
        refine .inr ⟨b, off, rfl, fun i x hi j u hj => ?_⟩
        have hil : i < len := by have := (List.getElem?_eq_some_iff.1 hi).1; simpa using this
        have hxf : x = (f i).1 := by simpa [hil] using hi.symm
        subst hxf
        have q := (hf i hil).2 j u hj
        rw [addr_add] at q
        rw [Nat.add_assoc]
        exact q
    · have hil : i < len := by have := (List.getElem?_eq_some_iff.1 hx).1; simpa using this
      have hxf : x = (f i).1 := by simpa [hil] using hx.symm
      have hef : e = (f i).2 := by simpa [hil] using he.symm
      rw [hxf, hef]
      exact (hf i hil).1
set_option maxRecDepth 100000 in
theorem in_events {v : Value} {d : DataW H} {p : List MemPlace} {base : Nat} (hok : Value.okWide Try.prog W .any base 52 v) (h : DataW.Trod enc Try.prog W 0 (fun _ => true) true 52 v d p) (hw : ∀ n ∈ d.weights Try.prog 52, n ≤ reachBytes) : InEs W v := by
  obtain ⟨a, len, cap, rfl⟩ := okWide_slice Try.underlying52 hok
  obtain ⟨fuel, hf⟩ := h
  exact evts_trod (v := .slice a len cap) hf
end
set_option maxHeartbeats 1000000 in
/-- The document's 'Ahead'. -/
theorem AheadR_any (r s : Int) (pa : Option Addr) (na ca : Nat) (pe : Option Addr) (ne ce : Nat) (r' s' : Int) (pb : Option Addr) (nb cb : Nat) (pf : Option Addr) (nf cf : Nat) (c : List Int) (w : World) (hN : NS w pb nb c) :
    Calls Try.prog 47 #[.agg #[.int .i64 r, .int .i64 s, .slice pa na ca, .slice pe ne ce], .agg #[.int .i64 r', .int .i64 s', .slice pb nb cb, .slice pf nf cf]] w fun e w' => e = .returned (.bool (ahdB (r, s) c)) ∧ Below w.heap.size w w' := by
  have HG := hide (fun W (h : NS W pb nb c) => get_refZ pb nb cb c r W h)
  rcases hm : mayD (r, s) with _ | _
  · have HM := hide (fun W => MayR_any r s W)
    rw [hm] at HM
    have HE : Hid (false = ahdB (r, s) c) := by
      unfold Hid ahdB; rw [hm]; rfl
    clear hm
    have HU := hide (bel2 w (bxE r s pa na ca pe ne ce) (bxE r' s' pb nb cb pf nf cf))
    have NU := hide ((hN.alloc (bxE r s pa na ca pe ne ce)).alloc (bxE r' s' pb nb cb pf nf cf))
    have c0 : ((w.alloc (bxE r s pa na ca pe ne ce)).alloc (bxE r' s' pb nb cb pf nf cf)).cell? ⟨w.heap.size, 0, none⟩ = some (.int .i64 r) := cell_old _ (cell_new w _ _ _ rfl 0 _ rfl)
    have c1 : ((w.alloc (bxE r s pa na ca pe ne ce)).alloc (bxE r' s' pb nb cb pf nf cf)).cell? ⟨w.heap.size, 1, none⟩ = some (.int .i64 s) := cell_old _ (cell_new w _ _ _ rfl 1 _ rfl)
    have d2 : ((w.alloc (bxE r s pa na ca pe ne ce)).alloc (bxE r' s' pb nb cb pf nf cf)).cell? ⟨w.heap.size + 1, 2, none⟩ = some (.slice pb nb cb) := cell_new _ _ _ _ (by simp) 2 _ rfl
    clear hN
    go_enter Try.func47, Try.ntmps47
    go_wp2
    generalize hu : (w.alloc (bxE r s pa na ca pe ne ce)).alloc (bxE r' s' pb nb cb pf nf cf) = u at *
    clear hu
    refine wp_region_held_drew (S := fun W => Below u.heap.size u W) (by kernel_rfl) ((Below.refl _ u).drew) (fun hS0 => ?_)
    refine takeInH 0 5 ?v1 rfl rfl (by kernel_rfl) (by kernel_rfl) (by kernel_rfl) (fun _ _ _ h => h) (by kernel_rfl) hS0 ?hy1 ?_
    case hy1 => (intro W hW; clear hW; go_simp; try rfl)
    simp only [Act.put, List.setIfInBounds_toArray, List.set_cons_zero, List.set_cons_succ]
    refine takeInH 1 6 ?v2 rfl rfl (by kernel_rfl) (by kernel_rfl) (by kernel_rfl) (fun _ _ _ h => h) (by kernel_rfl) hS0 ?hy2 ?_
    case hy2 => (intro W hW; have e0 := bcell hW c0; have e1 := bcell hW c1; have e2 := bcell hW d2; clear hW; go_simp; try rfl)
    simp only [Act.put, List.setIfInBounds_toArray, List.set_cons_zero, List.set_cons_succ]
    refine wpAnyH_ready (rs := [2]) (by kernel_rfl) (by simp) ?_
    refine AllReadyH.cons rfl (fun K hK => ?_) AllReadyH.nil
    go_simp
    refine (HM.out _).mono ?_
    rintro e w' ⟨rfl, hg⟩
    have hb := hg.bel
    try go_wp2_with fail
    refine hK.out _ _ ?hs3 (fun hS1 => ?_)
    case hs3 => exact bel_next hS0 hb
    clear hK K
    try simp only [Act.put, List.setIfInBounds_toArray, List.set_cons_zero, List.set_cons_succ]
    refine takeInH 3 8 ?v4 rfl rfl (by kernel_rfl) (by kernel_rfl) (by kernel_rfl) (fun _ _ _ h => h) (by kernel_rfl) hS1 ?hy4 ?_
    case hy4 => (intro W hW; clear hW; go_simp; try rfl)
    simp only [Act.put, List.setIfInBounds_toArray, List.set_cons_zero, List.set_cons_succ]
    refine takeNoH 4 9 rfl rfl (by kernel_rfl) (by kernel_rfl) (by kernel_rfl) (fun _ _ _ h => h) (by kernel_rfl) hS1 ?_
    simp only [Act.put, List.setIfInBounds_toArray, List.set_cons_zero, List.set_cons_succ]
    refine takeNoH 5 10 rfl rfl (by kernel_rfl) (by kernel_rfl) (by kernel_rfl) (fun _ _ _ h => h) (by kernel_rfl) hS1 ?_
    simp only [Act.put, List.setIfInBounds_toArray, List.set_cons_zero, List.set_cons_succ]
    refine takeNoH 6 11 rfl rfl (by kernel_rfl) (by kernel_rfl) (by kernel_rfl) (fun _ _ _ h => h) (by kernel_rfl) hS1 ?_
    simp only [Act.put, List.setIfInBounds_toArray, List.set_cons_zero, List.set_cons_succ]
    refine takeNoH 7 12 rfl rfl (by kernel_rfl) (by kernel_rfl) (by kernel_rfl) (fun _ _ _ h => h) (by kernel_rfl) hS1 ?_
    simp only [Act.put, List.setIfInBounds_toArray, List.set_cons_zero, List.set_cons_succ]
    refine takeNoH 8 13 rfl rfl (by kernel_rfl) (by kernel_rfl) (by kernel_rfl) (fun _ _ _ h => h) (by kernel_rfl) hS1 ?_
    simp only [Act.put, List.setIfInBounds_toArray, List.set_cons_zero, List.set_cons_succ]
    refine takeNoH 9 14 rfl rfl (by kernel_rfl) (by kernel_rfl) (by kernel_rfl) (fun _ _ _ h => h) (by kernel_rfl) hS1 ?_
    simp only [Act.put, List.setIfInBounds_toArray, List.set_cons_zero, List.set_cons_succ]
    refine takeNoH 10 15 rfl rfl (by kernel_rfl) (by kernel_rfl) (by kernel_rfl) (fun _ _ _ h => h) (by kernel_rfl) hS1 ?_
    simp only [Act.put, List.setIfInBounds_toArray, List.set_cons_zero, List.set_cons_succ]
    refine takeNoH 11 16 rfl rfl (by kernel_rfl) (by kernel_rfl) (by kernel_rfl) (fun _ _ _ h => h) (by kernel_rfl) hS1 ?_
    simp only [Act.put, List.setIfInBounds_toArray, List.set_cons_zero, List.set_cons_succ]
    refine takeNoH 12 17 rfl rfl (by kernel_rfl) (by kernel_rfl) (by kernel_rfl) (fun _ _ _ h => h) (by kernel_rfl) hS1 ?_
    simp only [Act.put, List.setIfInBounds_toArray, List.set_cons_zero, List.set_cons_succ]
    refine takeNoH 13 18 rfl rfl (by kernel_rfl) (by kernel_rfl) (by kernel_rfl) (fun _ _ _ h => h) (by kernel_rfl) hS1 ?_
    simp only [Act.put, List.setIfInBounds_toArray, List.set_cons_zero, List.set_cons_succ]
    refine takeInH 14 19 ?v5 rfl rfl (by kernel_rfl) (by kernel_rfl) (by kernel_rfl) (fun _ _ _ h => h) (by kernel_rfl) hS1 ?hy5 ?_
    case hy5 => (intro W hW; clear hW; go_simp; try rfl)
    simp only [Act.put, List.setIfInBounds_toArray, List.set_cons_zero, List.set_cons_succ]
    refine takeInH 15 4 ?v6 rfl rfl (by kernel_rfl) (by kernel_rfl) (by kernel_rfl) (fun _ _ _ h => h) (by kernel_rfl) hS1 ?hy6 ?_
    case hy6 => (intro W hW; clear hW; go_simp; try rfl)
    simp only [Act.put, List.setIfInBounds_toArray, List.set_cons_zero, List.set_cons_succ]
    refine wpAnyH_done (by kernel_rfl) ?_ _
    go_wp2
    go_ret
    exact ⟨retB HE.out, bel_next HU.out hS1⟩
  · have HM := hide (fun W => MayR_any r s W)
    rw [hm] at HM
    have HE : Hid (decide (getZ c r ≥ s) = ahdB (r, s) c) := by
      unfold Hid ahdB; rw [hm]; simp
    clear hm
    have HU := hide (bel2 w (bxE r s pa na ca pe ne ce) (bxE r' s' pb nb cb pf nf cf))
    have NU := hide ((hN.alloc (bxE r s pa na ca pe ne ce)).alloc (bxE r' s' pb nb cb pf nf cf))
    have c0 : ((w.alloc (bxE r s pa na ca pe ne ce)).alloc (bxE r' s' pb nb cb pf nf cf)).cell? ⟨w.heap.size, 0, none⟩ = some (.int .i64 r) := cell_old _ (cell_new w _ _ _ rfl 0 _ rfl)
    have c1 : ((w.alloc (bxE r s pa na ca pe ne ce)).alloc (bxE r' s' pb nb cb pf nf cf)).cell? ⟨w.heap.size, 1, none⟩ = some (.int .i64 s) := cell_old _ (cell_new w _ _ _ rfl 1 _ rfl)
    have d2 : ((w.alloc (bxE r s pa na ca pe ne ce)).alloc (bxE r' s' pb nb cb pf nf cf)).cell? ⟨w.heap.size + 1, 2, none⟩ = some (.slice pb nb cb) := cell_new _ _ _ _ (by simp) 2 _ rfl
    clear hN
    go_enter Try.func47, Try.ntmps47
    go_wp2
    generalize hu : (w.alloc (bxE r s pa na ca pe ne ce)).alloc (bxE r' s' pb nb cb pf nf cf) = u at *
    clear hu
    generalize getZ c r = z at HG HE
    refine wp_region_held_drew (S := fun W => Below u.heap.size u W) (by kernel_rfl) ((Below.refl _ u).drew) (fun hS0 => ?_)
    refine takeInH 0 5 ?v7 rfl rfl (by kernel_rfl) (by kernel_rfl) (by kernel_rfl) (fun _ _ _ h => h) (by kernel_rfl) hS0 ?hy7 ?_
    case hy7 => (intro W hW; clear hW; go_simp; try rfl)
    simp only [Act.put, List.setIfInBounds_toArray, List.set_cons_zero, List.set_cons_succ]
    refine takeInH 1 6 ?v8 rfl rfl (by kernel_rfl) (by kernel_rfl) (by kernel_rfl) (fun _ _ _ h => h) (by kernel_rfl) hS0 ?hy8 ?_
    case hy8 => (intro W hW; have e0 := bcell hW c0; have e1 := bcell hW c1; have e2 := bcell hW d2; clear hW; go_simp; try rfl)
    simp only [Act.put, List.setIfInBounds_toArray, List.set_cons_zero, List.set_cons_succ]
    refine wpAnyH_ready (rs := [2]) (by kernel_rfl) (by simp) ?_
    refine AllReadyH.cons rfl (fun K hK => ?_) AllReadyH.nil
    go_simp
    refine (HM.out _).mono ?_
    rintro e w' ⟨rfl, hg⟩
    have hb := hg.bel
    try go_wp2_with fail
    refine hK.out _ _ ?hs9 (fun hS1 => ?_)
    case hs9 => exact bel_next hS0 hb
    clear hK K
    try simp only [Act.put, List.setIfInBounds_toArray, List.set_cons_zero, List.set_cons_succ]
    refine takeInH 3 8 ?v10 rfl rfl (by kernel_rfl) (by kernel_rfl) (by kernel_rfl) (fun _ _ _ h => h) (by kernel_rfl) hS1 ?hy10 ?_
    case hy10 => (intro W hW; clear hW; go_simp; try rfl)
    simp only [Act.put, List.setIfInBounds_toArray, List.set_cons_zero, List.set_cons_succ]
    refine takeInH 4 9 ?v11 rfl rfl (by kernel_rfl) (by kernel_rfl) (by kernel_rfl) (fun _ _ _ h => h) (by kernel_rfl) hS1 ?hy11 ?_
    case hy11 => (intro W hW; clear hW; go_simp; try rfl)
    simp only [Act.put, List.setIfInBounds_toArray, List.set_cons_zero, List.set_cons_succ]
    refine takeInH 5 10 ?v12 rfl rfl (by kernel_rfl) (by kernel_rfl) (by kernel_rfl) (fun _ _ _ h => h) (by kernel_rfl) hS1 ?hy12 ?_
    case hy12 => (intro W hW; have e0 := bcell hW c0; have e1 := bcell hW c1; have e2 := bcell hW d2; clear hW; go_simp; try rfl)
    simp only [Act.put, List.setIfInBounds_toArray, List.set_cons_zero, List.set_cons_succ]
    refine takeInH 6 11 ?v13 rfl rfl (by kernel_rfl) (by kernel_rfl) (by kernel_rfl) (fun _ _ _ h => h) (by kernel_rfl) hS1 ?hy13 ?_
    case hy13 => (intro W hW; clear hW; go_simp; try rfl)
    simp only [Act.put, List.setIfInBounds_toArray, List.set_cons_zero, List.set_cons_succ]
    refine takeInH 7 12 ?v14 rfl rfl (by kernel_rfl) (by kernel_rfl) (by kernel_rfl) (fun _ _ _ h => h) (by kernel_rfl) hS1 ?hy14 ?_
    case hy14 => (intro W hW; clear hW; go_simp; try rfl)
    simp only [Act.put, List.setIfInBounds_toArray, List.set_cons_zero, List.set_cons_succ]
    refine takeInH 8 13 ?v15 rfl rfl (by kernel_rfl) (by kernel_rfl) (by kernel_rfl) (fun _ _ _ h => h) (by kernel_rfl) hS1 ?hy15 ?_
    case hy15 => (intro W hW; have e0 := bcell hW c0; have e1 := bcell hW c1; have e2 := bcell hW d2; clear hW; go_simp; try rfl)
    simp only [Act.put, List.setIfInBounds_toArray, List.set_cons_zero, List.set_cons_succ]
    refine takeInH 10 15 ?v16 rfl rfl (by kernel_rfl) (by kernel_rfl) (by kernel_rfl) (fun _ _ _ h => h) (by kernel_rfl) hS1 ?hy16 ?_
    case hy16 => (intro W hW; clear hW; go_simp; try rfl)
    simp only [Act.put, List.setIfInBounds_toArray, List.set_cons_zero, List.set_cons_succ]
    refine takeInH 11 16 ?v17 rfl rfl (by kernel_rfl) (by kernel_rfl) (by kernel_rfl) (fun _ _ _ h => h) (by kernel_rfl) hS1 ?hy17 ?_
    case hy17 => (intro W hW; clear hW; go_simp; try rfl)
    simp only [Act.put, List.setIfInBounds_toArray, List.set_cons_zero, List.set_cons_succ]
    refine takeInH 12 17 ?v18 rfl rfl (by kernel_rfl) (by kernel_rfl) (by kernel_rfl) (fun _ _ _ h => h) (by kernel_rfl) hS1 ?hy18 ?_
    case hy18 => (intro W hW; have e0 := bcell hW c0; have e1 := bcell hW c1; have e2 := bcell hW d2; clear hW; go_simp; try rfl)
    simp only [Act.put, List.setIfInBounds_toArray, List.set_cons_zero, List.set_cons_succ]
    refine wpAnyH_ready (rs := [9]) (by kernel_rfl) (by simp) ?_
    refine AllReadyH.cons rfl (fun K hK => ?_) AllReadyH.nil
    go_simp
    refine (HG.out _ (NU.out.below hS1)).mono ?_
    rintro e w' ⟨rfl, hw⟩
    replace hw := hw.symm
    subst hw
    try go_wp2_with fail
    refine hK.out _ _ ?hs19 (fun hS2 => ?_)
    case hs19 => exact hS1
    clear hK K
    try simp only [Act.put, List.setIfInBounds_toArray, List.set_cons_zero, List.set_cons_succ]
    refine takeInH 13 18 ?v20 rfl rfl (by kernel_rfl) (by kernel_rfl) (by kernel_rfl) (fun _ _ _ h => h) (by kernel_rfl) hS2 ?hy20 ?_
    case hy20 => (intro W hW; clear hW; go_simp; try rfl)
    simp only [Act.put, List.setIfInBounds_toArray, List.set_cons_zero, List.set_cons_succ]
    refine takeInH 14 19 ?v21 rfl rfl (by kernel_rfl) (by kernel_rfl) (by kernel_rfl) (fun _ _ _ h => h) (by kernel_rfl) hS2 ?hy21 ?_
    case hy21 => (intro W hW; clear hW; go_simp; try rfl)
    simp only [Act.put, List.setIfInBounds_toArray, List.set_cons_zero, List.set_cons_succ]
    refine takeInH 15 4 ?v22 rfl rfl (by kernel_rfl) (by kernel_rfl) (by kernel_rfl) (fun _ _ _ h => h) (by kernel_rfl) hS2 ?hy22 ?_
    case hy22 => (intro W hW; clear hW; go_simp; try rfl)
    simp only [Act.put, List.setIfInBounds_toArray, List.set_cons_zero, List.set_cons_succ]
    refine wpAnyH_done (by kernel_rfl) ?_ _
    go_wp2
    go_ret
    exact ⟨retB HE.out, bel_next HU.out hS2⟩
end Go.Proofs.Ytiodlpoeifmldaa

namespace Go.Proofs.Ytiodlpoeifmldaa
open Go.RowKit Go.Lib Go.Sort
set_option linter.unusedVariables false
theorem ES.grownT {w w' : World} {r : Option Nat} {p : Option Addr} {n : Nat} {l : List Eff} (h : ES w p n l) (hg : w.grownBy w' r) (hr : ∀ a, p = some a → some a.block ≠ r) : ES w' p n l := by
  refine ⟨⟨h.1.1, h.1.2.1, ?_⟩, h.2⟩
  rcases h.1.2.2 with h0 | ⟨b, off, ha, hc⟩
  · exact .inl h0
  · refine .inr ⟨b, off, ha, fun i x hi j v hj => ?_⟩
    have := World.block_lt_of_cell? w _ (hc i x hi j v hj)
    rw [World.cell?_of_block (hg.block b this (hr _ ha))]
    exact hc i x hi j v hj
end Go.Proofs.Ytiodlpoeifmldaa

namespace Go.Proofs.Ytiodlpoeifmldaa
open Go.RowKit
set_option linter.unusedVariables false
theorem EVS.head {w : World} {a : Option Addr} {n : Nat} {es : List Evt} (h : EVS w a n es) (k : Nat) (hk : k ≤ n) : EVS w a k (es.take k) := by
  obtain ⟨xs, h1, h2, h3⟩ := h
  refine ⟨xs.take k, ⟨by rw [List.length_take, h1.1]; omega, by have := h1.2.1; omega, ?_⟩, by rw [List.length_take, h2]; omega, fun i x e hx he => ?_⟩
  · rcases h1.2.2 with h0 | ⟨b, off, hh, hc⟩
    · exact .inl (by omega)
    · refine .inr ⟨b, off, hh, fun i x hx j v hj => ?_⟩
      rw [List.getElem?_take] at hx
      split at hx
      · exact hc i x hx j v hj
      · cases hx
  · rw [List.getElem?_take] at hx he
    split at hx
    · next hlt =>
      rw [if_pos hlt] at he
      exact h3 i x e hx he
    · cases hx
set_option maxHeartbeats 8000000 in
/-- The document's 'Closed'. -/
theorem ClosedR_any (a : Option Addr) (n cap : Nat) (es : List Evt) (w : World) (hE : EVS w a n es) (hn : n ≤ 1000) (hcap : n ≤ cap) :
    Calls Try.prog 46 #[.slice a n cap] w fun e w' => e = .returned (.bool (closedB es)) ∧ Below w.heap.size w w' := by
  have HV := hide hE
  have hlen := hide hE.len
  have hen : es.length ≤ 1000 := by rw [hE.len]; exact hn
  clear hE
  go_enter Try.func46, Try.ntmps46
  go_wp2
  go_loopw [3] (fun i wr => ∃ k : Nat, k ≤ n ∧ i = .int .i64 k ∧ Hid (∀ (i : Nat) x, i < k → es[i]? = some x → ok1 es i x) ∧ Hid (Below w.heap.size w wr)) (fun i _ => n - (intOf i).toNat)
  case atStart => exact ⟨0, by omega, rfl, (fun i x hi => absurd hi (Nat.not_lt_zero _)), Below.refl _ _⟩
  case round =>
    obtain ⟨k, hk, rfl, HA, hB⟩ := hrel
    by_cases hlt : k < n
    · obtain ⟨b, off, rfl⟩ := HV.out.addr (by omega)
      obtain ⟨r, s, pa, na, ca, pe, ne, ce, c, fs, hx, x0, x1, x2, x3, hns, hca, hes, hce⟩ := HV.out.at k hlt
      replace x0 := bcell hB.out x0
      replace x1 := bcell hB.out x1
      replace x2 := bcell hB.out x2
      replace x3 := bcell hB.out x3
      have NX := hide (hns.below hB.out)
      have EX := hide (hes.below hB.out)
      have VX := hide ((HV.out.head k hk).below hB.out)
      have HX := hide hx
      have hkc : k ≤ cap := by omega
      have hkn : (k : Int) < (n : Int) := by omega
      have HME := hide (fun W (h1 : NS W pa na c) (h2 : ES W pe ne fs) => MayE_ref r s pa na ca pe ne ce c fs W h1 h2)
      have HUU := hide (fun W (h1 : NS W pa na c) => sum_ref pa na ca c W h1)
      clear hns hca hes hce hx
      rcases hm : mayE ((r, s), c, fs) with _ | _
      · have HE : Hid (false = closedB es) := by
          unfold Hid
          cases hcl : closedB es with
          | false => rfl
          | true => exact absurd (closed_ok1 hen hcl k _ HX.out) (fun q => by have h := q.1; rw [hm] at h; cases h)
        rw [hm] at HME
        clear hm
        go_wp2
        refine wp_region_held_drew (S := fun W => Below wr.heap.size wr W) (by kernel_rfl) ((Below.refl _ wr).drew) (fun hS0 => ?_)
        refine takeInH 0 13 ?v1 rfl rfl (by kernel_rfl) (by kernel_rfl) (by kernel_rfl) (fun _ _ _ h => h) (by kernel_rfl) hS0 ?hy1 ?_
        case hy1 => (intro W hW; clear hW; go_simp; try rfl)
        simp only [Act.put, List.setIfInBounds_toArray, List.set_cons_zero, List.set_cons_succ]
        refine takeInH 1 14 ?v2 rfl rfl (by kernel_rfl) (by kernel_rfl) (by kernel_rfl) (fun _ _ _ h => h) (by kernel_rfl) hS0 ?hy2 ?_
        case hy2 => (intro W hW; clear hW; go_simp; try rfl)
        simp only [Act.put, List.setIfInBounds_toArray, List.set_cons_zero, List.set_cons_succ]
        refine takeInH 2 15 ?v3 rfl rfl (by kernel_rfl) (by kernel_rfl) (by kernel_rfl) (fun _ _ _ h => h) (by kernel_rfl) hS0 ?hy3 ?_
        case hy3 => (intro W hW; clear hW; go_simp; try rfl)
        simp only [Act.put, List.setIfInBounds_toArray, List.set_cons_zero, List.set_cons_succ]
        refine takeInH 3 16 ?v4 rfl rfl (by kernel_rfl) (by kernel_rfl) (by kernel_rfl) (fun _ _ _ h => h) (by kernel_rfl) hS0 ?hy4 ?_
        case hy4 => (intro W hW; have e0 := bcell hW x0; have e1 := bcell hW x1; have e2 := bcell hW x2; have e3 := bcell hW x3; clear hW; go_simp; try rfl)
        simp only [Act.put, List.setIfInBounds_toArray, List.set_cons_zero, List.set_cons_succ]
        refine wpAnyH_ready (rs := [4]) (by kernel_rfl) (by simp) ?_
        refine AllReadyH.cons rfl (fun K hK => ?_) AllReadyH.nil
        go_simp
        refine (HME.out _ (NX.out.below hS0) (EX.out.below hS0)).mono ?_
        rintro e w' ⟨rfl, hb⟩
        try go_wp2_with fail
        refine hK.out _ _ ?hs5 (fun hS1 => ?_)
        case hs5 => exact bel_next hS0 hb
        clear hK K
        try simp only [Act.put, List.setIfInBounds_toArray, List.set_cons_zero, List.set_cons_succ]
        refine takeInH 5 18 ?v6 rfl rfl (by kernel_rfl) (by kernel_rfl) (by kernel_rfl) (fun _ _ _ h => h) (by kernel_rfl) hS1 ?hy6 ?_
        case hy6 => (intro W hW; clear hW; go_simp; try rfl)
        simp only [Act.put, List.setIfInBounds_toArray, List.set_cons_zero, List.set_cons_succ]
        refine takeInH 6 19 ?v7 rfl rfl (by kernel_rfl) (by kernel_rfl) (by kernel_rfl) (fun _ _ _ h => h) (by kernel_rfl) hS1 ?hy7 ?_
        case hy7 => (intro W hW; clear hW; go_simp; try rfl)
        simp only [Act.put, List.setIfInBounds_toArray, List.set_cons_zero, List.set_cons_succ]
        refine takeNoH 7 20 rfl rfl (by kernel_rfl) (by kernel_rfl) (by kernel_rfl) (fun _ _ _ h => h) (by kernel_rfl) hS1 ?_
        simp only [Act.put, List.setIfInBounds_toArray, List.set_cons_zero, List.set_cons_succ]
        refine takeNoH 8 21 rfl rfl (by kernel_rfl) (by kernel_rfl) (by kernel_rfl) (fun _ _ _ h => h) (by kernel_rfl) hS1 ?_
        simp only [Act.put, List.setIfInBounds_toArray, List.set_cons_zero, List.set_cons_succ]
        refine takeNoH 9 22 rfl rfl (by kernel_rfl) (by kernel_rfl) (by kernel_rfl) (fun _ _ _ h => h) (by kernel_rfl) hS1 ?_
        simp only [Act.put, List.setIfInBounds_toArray, List.set_cons_zero, List.set_cons_succ]
        refine takeNoH 10 23 rfl rfl (by kernel_rfl) (by kernel_rfl) (by kernel_rfl) (fun _ _ _ h => h) (by kernel_rfl) hS1 ?_
        simp only [Act.put, List.setIfInBounds_toArray, List.set_cons_zero, List.set_cons_succ]
        refine takeNoH 11 24 rfl rfl (by kernel_rfl) (by kernel_rfl) (by kernel_rfl) (fun _ _ _ h => h) (by kernel_rfl) hS1 ?_
        simp only [Act.put, List.setIfInBounds_toArray, List.set_cons_zero, List.set_cons_succ]
        refine takeNoH 12 25 rfl rfl (by kernel_rfl) (by kernel_rfl) (by kernel_rfl) (fun _ _ _ h => h) (by kernel_rfl) hS1 ?_
        simp only [Act.put, List.setIfInBounds_toArray, List.set_cons_zero, List.set_cons_succ]
        refine takeNoH 13 26 rfl rfl (by kernel_rfl) (by kernel_rfl) (by kernel_rfl) (fun _ _ _ h => h) (by kernel_rfl) hS1 ?_
        simp only [Act.put, List.setIfInBounds_toArray, List.set_cons_zero, List.set_cons_succ]
        refine takeNoH 14 27 rfl rfl (by kernel_rfl) (by kernel_rfl) (by kernel_rfl) (fun _ _ _ h => h) (by kernel_rfl) hS1 ?_
        simp only [Act.put, List.setIfInBounds_toArray, List.set_cons_zero, List.set_cons_succ]
        refine takeNoH 15 28 rfl rfl (by kernel_rfl) (by kernel_rfl) (by kernel_rfl) (fun _ _ _ h => h) (by kernel_rfl) hS1 ?_
        simp only [Act.put, List.setIfInBounds_toArray, List.set_cons_zero, List.set_cons_succ]
        refine takeInH 16 29 ?v8 rfl rfl (by kernel_rfl) (by kernel_rfl) (by kernel_rfl) (fun _ _ _ h => h) (by kernel_rfl) hS1 ?hy8 ?_
        case hy8 => (intro W hW; clear hW; go_simp; try rfl)
        simp only [Act.put, List.setIfInBounds_toArray, List.set_cons_zero, List.set_cons_succ]
        refine takeInH 17 30 ?v9 rfl rfl (by kernel_rfl) (by kernel_rfl) (by kernel_rfl) (fun _ _ _ h => h) (by kernel_rfl) hS1 ?hy9 ?_
        case hy9 => (intro W hW; clear hW; go_simp; try rfl)
        simp only [Act.put, List.setIfInBounds_toArray, List.set_cons_zero, List.set_cons_succ]
        refine takeNoH 18 31 rfl rfl (by kernel_rfl) (by kernel_rfl) (by kernel_rfl) (fun _ _ _ h => h) (by kernel_rfl) hS1 ?_
        simp only [Act.put, List.setIfInBounds_toArray, List.set_cons_zero, List.set_cons_succ]
        refine takeNoH 19 32 rfl rfl (by kernel_rfl) (by kernel_rfl) (by kernel_rfl) (fun _ _ _ h => h) (by kernel_rfl) hS1 ?_
        simp only [Act.put, List.setIfInBounds_toArray, List.set_cons_zero, List.set_cons_succ]
        refine takeNoH 20 33 rfl rfl (by kernel_rfl) (by kernel_rfl) (by kernel_rfl) (fun _ _ _ h => h) (by kernel_rfl) hS1 ?_
        simp only [Act.put, List.setIfInBounds_toArray, List.set_cons_zero, List.set_cons_succ]
        refine takeNoH 21 34 rfl rfl (by kernel_rfl) (by kernel_rfl) (by kernel_rfl) (fun _ _ _ h => h) (by kernel_rfl) hS1 ?_
        simp only [Act.put, List.setIfInBounds_toArray, List.set_cons_zero, List.set_cons_succ]
        refine takeNoH 22 35 rfl rfl (by kernel_rfl) (by kernel_rfl) (by kernel_rfl) (fun _ _ _ h => h) (by kernel_rfl) hS1 ?_
        simp only [Act.put, List.setIfInBounds_toArray, List.set_cons_zero, List.set_cons_succ]
        refine takeNoH 23 36 rfl rfl (by kernel_rfl) (by kernel_rfl) (by kernel_rfl) (fun _ _ _ h => h) (by kernel_rfl) hS1 ?_
        simp only [Act.put, List.setIfInBounds_toArray, List.set_cons_zero, List.set_cons_succ]
        refine takeNoH 24 37 rfl rfl (by kernel_rfl) (by kernel_rfl) (by kernel_rfl) (fun _ _ _ h => h) (by kernel_rfl) hS1 ?_
        simp only [Act.put, List.setIfInBounds_toArray, List.set_cons_zero, List.set_cons_succ]
        refine takeNoH 25 38 rfl rfl (by kernel_rfl) (by kernel_rfl) (by kernel_rfl) (fun _ _ _ h => h) (by kernel_rfl) hS1 ?_
        simp only [Act.put, List.setIfInBounds_toArray, List.set_cons_zero, List.set_cons_succ]
        refine takeNoH 26 39 rfl rfl (by kernel_rfl) (by kernel_rfl) (by kernel_rfl) (fun _ _ _ h => h) (by kernel_rfl) hS1 ?_
        simp only [Act.put, List.setIfInBounds_toArray, List.set_cons_zero, List.set_cons_succ]
        refine takeInH 27 40 ?v10 rfl rfl (by kernel_rfl) (by kernel_rfl) (by kernel_rfl) (fun _ _ _ h => h) (by kernel_rfl) hS1 ?hy10 ?_
        case hy10 => (intro W hW; clear hW; go_simp; try rfl)
        simp only [Act.put, List.setIfInBounds_toArray, List.set_cons_zero, List.set_cons_succ]
        refine wpAnyH_done (by kernel_rfl) ?_ _
        go_wp2
        go_ret
        exact ⟨retB HE.out, bel_next hB.out hS1⟩
      · rw [hm] at HME
        rcases hf : findB (es.take k) (r, s) with _ | _
        · have HFI := hide (fun W (h : EVS W (some ⟨b, off, none⟩) k (es.take k)) => find_any (some ⟨b, off, none⟩) k cap (es.take k) r s W h false hf.symm)
          by_cases hsm : sumL c < (n : Int)
          · have HA2 : Hid (∀ (i : Nat) x, i < k + 1 → es[i]? = some x → ok1 es i x) := by
              intro i x hi hx
              rcases Nat.lt_or_ge i k with h | h
              · exact HA.out i x h hx
              · have e : i = k := by omega
                subst e
                rw [HX.out] at hx
                cases hx
                exact ⟨hm, hf, by rw [hlen.out]; exact hsm⟩
            clear hm hf
            generalize sumL c = z at HUU hsm
            go_wp2
            refine wp_region_held_drew (S := fun W => Below wr.heap.size wr W) (by kernel_rfl) ((Below.refl _ wr).drew) (fun hS0 => ?_)
            refine takeInH 0 13 ?v11 rfl rfl (by kernel_rfl) (by kernel_rfl) (by kernel_rfl) (fun _ _ _ h => h) (by kernel_rfl) hS0 ?hy11 ?_
            case hy11 => (intro W hW; clear hW; go_simp; try rfl)
            simp only [Act.put, List.setIfInBounds_toArray, List.set_cons_zero, List.set_cons_succ]
            refine takeInH 1 14 ?v12 rfl rfl (by kernel_rfl) (by kernel_rfl) (by kernel_rfl) (fun _ _ _ h => h) (by kernel_rfl) hS0 ?hy12 ?_
            case hy12 => (intro W hW; clear hW; go_simp; try rfl)
            simp only [Act.put, List.setIfInBounds_toArray, List.set_cons_zero, List.set_cons_succ]
            refine takeInH 2 15 ?v13 rfl rfl (by kernel_rfl) (by kernel_rfl) (by kernel_rfl) (fun _ _ _ h => h) (by kernel_rfl) hS0 ?hy13 ?_
            case hy13 => (intro W hW; clear hW; go_simp; try rfl)
            simp only [Act.put, List.setIfInBounds_toArray, List.set_cons_zero, List.set_cons_succ]
            refine takeInH 3 16 ?v14 rfl rfl (by kernel_rfl) (by kernel_rfl) (by kernel_rfl) (fun _ _ _ h => h) (by kernel_rfl) hS0 ?hy14 ?_
            case hy14 => (intro W hW; have e0 := bcell hW x0; have e1 := bcell hW x1; have e2 := bcell hW x2; have e3 := bcell hW x3; clear hW; go_simp; try rfl)
            simp only [Act.put, List.setIfInBounds_toArray, List.set_cons_zero, List.set_cons_succ]
            refine wpAnyH_ready (rs := [4]) (by kernel_rfl) (by simp) ?_
            refine AllReadyH.cons rfl (fun K hK => ?_) AllReadyH.nil
            go_simp
            refine (HME.out _ (NX.out.below hS0) (EX.out.below hS0)).mono ?_
            rintro e w' ⟨rfl, hb⟩
            try go_wp2_with fail
            refine hK.out _ _ ?hs15 (fun hS1 => ?_)
            case hs15 => exact bel_next hS0 hb
            clear hK K
            try simp only [Act.put, List.setIfInBounds_toArray, List.set_cons_zero, List.set_cons_succ]
            refine takeInH 5 18 ?v16 rfl rfl (by kernel_rfl) (by kernel_rfl) (by kernel_rfl) (fun _ _ _ h => h) (by kernel_rfl) hS1 ?hy16 ?_
            case hy16 => (intro W hW; clear hW; go_simp; try rfl)
            simp only [Act.put, List.setIfInBounds_toArray, List.set_cons_zero, List.set_cons_succ]
            refine takeInH 6 19 ?v17 rfl rfl (by kernel_rfl) (by kernel_rfl) (by kernel_rfl) (fun _ _ _ h => h) (by kernel_rfl) hS1 ?hy17 ?_
            case hy17 => (intro W hW; clear hW; go_simp; try rfl)
            simp only [Act.put, List.setIfInBounds_toArray, List.set_cons_zero, List.set_cons_succ]
            refine takeInH 7 20 ?v18 rfl rfl (by kernel_rfl) (by kernel_rfl) (by kernel_rfl) (fun _ _ _ h => h) (by kernel_rfl) hS1 ?hy18 ?_
            case hy18 => (intro W hW; clear hW; go_simp; try rfl)
            simp only [Act.put, List.setIfInBounds_toArray, List.set_cons_zero, List.set_cons_succ]
            refine takeInH 8 21 ?v19 rfl rfl (by kernel_rfl) (by kernel_rfl) (by kernel_rfl) (fun _ _ _ h => h) (by kernel_rfl) hS1 ?hy19 ?_
            case hy19 => (intro W hW; clear hW; go_simp; try rfl)
            simp only [Act.put, List.setIfInBounds_toArray, List.set_cons_zero, List.set_cons_succ]
            refine takeInH 9 22 ?v20 rfl rfl (by kernel_rfl) (by kernel_rfl) (by kernel_rfl) (fun _ _ _ h => h) (by kernel_rfl) hS1 ?hy20 ?_
            case hy20 => (intro W hW; clear hW; go_simp; try rfl)
            simp only [Act.put, List.setIfInBounds_toArray, List.set_cons_zero, List.set_cons_succ]
            refine takeInH 10 23 ?v21 rfl rfl (by kernel_rfl) (by kernel_rfl) (by kernel_rfl) (fun _ _ _ h => h) (by kernel_rfl) hS1 ?hy21 ?_
            case hy21 => (intro W hW; clear hW; go_simp; try rfl)
            simp only [Act.put, List.setIfInBounds_toArray, List.set_cons_zero, List.set_cons_succ]
            refine takeInH 11 24 ?v22 rfl rfl (by kernel_rfl) (by kernel_rfl) (by kernel_rfl) (fun _ _ _ h => h) (by kernel_rfl) hS1 ?hy22 ?_
            case hy22 => (intro W hW; clear hW; go_simp; try rfl)
            simp only [Act.put, List.setIfInBounds_toArray, List.set_cons_zero, List.set_cons_succ]
            refine takeInH 12 25 ?v23 rfl rfl (by kernel_rfl) (by kernel_rfl) (by kernel_rfl) (fun _ _ _ h => h) (by kernel_rfl) hS1 ?hy23 ?_
            case hy23 => (intro W hW; clear hW; go_simp; try rfl)
            simp only [Act.put, List.setIfInBounds_toArray, List.set_cons_zero, List.set_cons_succ]
            refine takeInH 13 26 ?v24 rfl rfl (by kernel_rfl) (by kernel_rfl) (by kernel_rfl) (fun _ _ _ h => h) (by kernel_rfl) hS1 ?hy24 ?_
            case hy24 => (intro W hW; clear hW; go_simp; try rfl)
            simp only [Act.put, List.setIfInBounds_toArray, List.set_cons_zero, List.set_cons_succ]
            refine takeInH 14 27 ?v25 rfl rfl (by kernel_rfl) (by kernel_rfl) (by kernel_rfl) (fun _ _ _ h => h) (by kernel_rfl) hS1 ?hy25 ?_
            case hy25 => (intro W hW; have e0 := bcell hW x0; have e1 := bcell hW x1; have e2 := bcell hW x2; have e3 := bcell hW x3; clear hW; go_simp; try rfl)
            simp only [Act.put, List.setIfInBounds_toArray, List.set_cons_zero, List.set_cons_succ]
            refine wpAnyH_ready (rs := [15]) (by kernel_rfl) (by simp) ?_
            refine AllReadyH.cons rfl (fun K hK => ?_) AllReadyH.nil
            go_simp
            refine (HFI.out _ (VX.out.below hS1)).mono ?_
            rintro e w' ⟨rfl, hb⟩
            try go_wp2_with fail
            refine hK.out _ _ ?hs26 (fun hS2 => ?_)
            case hs26 => exact bel_next hS1 hb
            clear hK K
            try simp only [Act.put, List.setIfInBounds_toArray, List.set_cons_zero, List.set_cons_succ]
            refine takeInH 16 29 ?v27 rfl rfl (by kernel_rfl) (by kernel_rfl) (by kernel_rfl) (fun _ _ _ h => h) (by kernel_rfl) hS2 ?hy27 ?_
            case hy27 => (intro W hW; clear hW; go_simp; try rfl)
            simp only [Act.put, List.setIfInBounds_toArray, List.set_cons_zero, List.set_cons_succ]
            refine takeInH 17 30 ?v28 rfl rfl (by kernel_rfl) (by kernel_rfl) (by kernel_rfl) (fun _ _ _ h => h) (by kernel_rfl) hS2 ?hy28 ?_
            case hy28 => (intro W hW; clear hW; go_simp; try rfl)
            simp only [Act.put, List.setIfInBounds_toArray, List.set_cons_zero, List.set_cons_succ]
            refine takeInH 18 31 ?v29 rfl rfl (by kernel_rfl) (by kernel_rfl) (by kernel_rfl) (fun _ _ _ h => h) (by kernel_rfl) hS2 ?hy29 ?_
            case hy29 => (intro W hW; clear hW; go_simp; try rfl)
            simp only [Act.put, List.setIfInBounds_toArray, List.set_cons_zero, List.set_cons_succ]
            refine takeInH 19 32 ?v30 rfl rfl (by kernel_rfl) (by kernel_rfl) (by kernel_rfl) (fun _ _ _ h => h) (by kernel_rfl) hS2 ?hy30 ?_
            case hy30 => (intro W hW; clear hW; go_simp; try rfl)
            simp only [Act.put, List.setIfInBounds_toArray, List.set_cons_zero, List.set_cons_succ]
            refine takeInH 20 33 ?v31 rfl rfl (by kernel_rfl) (by kernel_rfl) (by kernel_rfl) (fun _ _ _ h => h) (by kernel_rfl) hS2 ?hy31 ?_
            case hy31 => (intro W hW; clear hW; go_simp; try rfl)
            simp only [Act.put, List.setIfInBounds_toArray, List.set_cons_zero, List.set_cons_succ]
            refine takeInH 21 34 ?v32 rfl rfl (by kernel_rfl) (by kernel_rfl) (by kernel_rfl) (fun _ _ _ h => h) (by kernel_rfl) hS2 ?hy32 ?_
            case hy32 => (intro W hW; clear hW; go_simp; try rfl)
            simp only [Act.put, List.setIfInBounds_toArray, List.set_cons_zero, List.set_cons_succ]
            refine takeInH 22 35 ?v33 rfl rfl (by kernel_rfl) (by kernel_rfl) (by kernel_rfl) (fun _ _ _ h => h) (by kernel_rfl) hS2 ?hy33 ?_
            case hy33 => (intro W hW; have e0 := bcell hW x0; have e1 := bcell hW x1; have e2 := bcell hW x2; have e3 := bcell hW x3; clear hW; go_simp; try rfl)
            simp only [Act.put, List.setIfInBounds_toArray, List.set_cons_zero, List.set_cons_succ]
            refine takeInH 24 37 ?v34 rfl rfl (by kernel_rfl) (by kernel_rfl) (by kernel_rfl) (fun _ _ _ h => h) (by kernel_rfl) hS2 ?hy34 ?_
            case hy34 => (intro W hW; clear hW; go_simp; try rfl)
            simp only [Act.put, List.setIfInBounds_toArray, List.set_cons_zero, List.set_cons_succ]
            refine takeInH 25 38 ?v35 rfl rfl (by kernel_rfl) (by kernel_rfl) (by kernel_rfl) (fun _ _ _ h => h) (by kernel_rfl) hS2 ?hy35 ?_
            case hy35 => (intro W hW; clear hW; go_simp; try rfl)
            simp only [Act.put, List.setIfInBounds_toArray, List.set_cons_zero, List.set_cons_succ]
            refine wpAnyH_ready (rs := [23]) (by kernel_rfl) (by simp) ?_
            refine AllReadyH.cons rfl (fun K hK => ?_) AllReadyH.nil
            go_simp
            refine (HUU.out _ (NX.out.below hS2)).mono ?_
            rintro e w' ⟨rfl, hw⟩
            replace hw := hw.symm
            subst hw
            try go_wp2_with fail
            refine hK.out _ _ ?hs36 (fun hS3 => ?_)
            case hs36 => exact hS2
            clear hK K
            try simp only [Act.put, List.setIfInBounds_toArray, List.set_cons_zero, List.set_cons_succ]
            refine takeInH 26 39 ?v37 rfl rfl (by kernel_rfl) (by kernel_rfl) (by kernel_rfl) (fun _ _ _ h => h) (by kernel_rfl) hS3 ?hy37 ?_
            case hy37 => (intro W hW; clear hW; go_simp; try rfl)
            simp only [Act.put, List.setIfInBounds_toArray, List.set_cons_zero, List.set_cons_succ]
            refine takeInH 27 40 ?v38 rfl rfl (by kernel_rfl) (by kernel_rfl) (by kernel_rfl) (fun _ _ _ h => h) (by kernel_rfl) hS3 ?hy38 ?_
            case hy38 => (intro W hW; clear hW; go_simp; try rfl)
            simp only [Act.put, List.setIfInBounds_toArray, List.set_cons_zero, List.set_cons_succ]
            refine wpAnyH_done (by kernel_rfl) ?_ _
            go_wp2
            go_roundw
            case rel => exact ⟨k + 1, by omega, by go_num, HA2, (show Hid _ from bel_next hB.out hS3)⟩
            case measure => simp [intOf]; omega
          · have HE : Hid (false = closedB es) := by
              unfold Hid
              cases hcl : closedB es with
              | false => rfl
              | true => exact absurd (closed_ok1 hen hcl k _ HX.out) (fun q => by have h := q.2.2; rw [hlen.out] at h; exact hsm h)
            clear hm hf
            generalize sumL c = z at HUU hsm
            go_wp2
            refine wp_region_held_drew (S := fun W => Below wr.heap.size wr W) (by kernel_rfl) ((Below.refl _ wr).drew) (fun hS0 => ?_)
            refine takeInH 0 13 ?v39 rfl rfl (by kernel_rfl) (by kernel_rfl) (by kernel_rfl) (fun _ _ _ h => h) (by kernel_rfl) hS0 ?hy39 ?_
            case hy39 => (intro W hW; clear hW; go_simp; try rfl)
            simp only [Act.put, List.setIfInBounds_toArray, List.set_cons_zero, List.set_cons_succ]
            refine takeInH 1 14 ?v40 rfl rfl (by kernel_rfl) (by kernel_rfl) (by kernel_rfl) (fun _ _ _ h => h) (by kernel_rfl) hS0 ?hy40 ?_
            case hy40 => (intro W hW; clear hW; go_simp; try rfl)
            simp only [Act.put, List.setIfInBounds_toArray, List.set_cons_zero, List.set_cons_succ]
            refine takeInH 2 15 ?v41 rfl rfl (by kernel_rfl) (by kernel_rfl) (by kernel_rfl) (fun _ _ _ h => h) (by kernel_rfl) hS0 ?hy41 ?_
            case hy41 => (intro W hW; clear hW; go_simp; try rfl)
            simp only [Act.put, List.setIfInBounds_toArray, List.set_cons_zero, List.set_cons_succ]
            refine takeInH 3 16 ?v42 rfl rfl (by kernel_rfl) (by kernel_rfl) (by kernel_rfl) (fun _ _ _ h => h) (by kernel_rfl) hS0 ?hy42 ?_
            case hy42 => (intro W hW; have e0 := bcell hW x0; have e1 := bcell hW x1; have e2 := bcell hW x2; have e3 := bcell hW x3; clear hW; go_simp; try rfl)
            simp only [Act.put, List.setIfInBounds_toArray, List.set_cons_zero, List.set_cons_succ]
            refine wpAnyH_ready (rs := [4]) (by kernel_rfl) (by simp) ?_
            refine AllReadyH.cons rfl (fun K hK => ?_) AllReadyH.nil
            go_simp
            refine (HME.out _ (NX.out.below hS0) (EX.out.below hS0)).mono ?_
            rintro e w' ⟨rfl, hb⟩
            try go_wp2_with fail
            refine hK.out _ _ ?hs43 (fun hS1 => ?_)
            case hs43 => exact bel_next hS0 hb
            clear hK K
            try simp only [Act.put, List.setIfInBounds_toArray, List.set_cons_zero, List.set_cons_succ]
            refine takeInH 5 18 ?v44 rfl rfl (by kernel_rfl) (by kernel_rfl) (by kernel_rfl) (fun _ _ _ h => h) (by kernel_rfl) hS1 ?hy44 ?_
            case hy44 => (intro W hW; clear hW; go_simp; try rfl)
            simp only [Act.put, List.setIfInBounds_toArray, List.set_cons_zero, List.set_cons_succ]
            refine takeInH 6 19 ?v45 rfl rfl (by kernel_rfl) (by kernel_rfl) (by kernel_rfl) (fun _ _ _ h => h) (by kernel_rfl) hS1 ?hy45 ?_
            case hy45 => (intro W hW; clear hW; go_simp; try rfl)
            simp only [Act.put, List.setIfInBounds_toArray, List.set_cons_zero, List.set_cons_succ]
            refine takeInH 7 20 ?v46 rfl rfl (by kernel_rfl) (by kernel_rfl) (by kernel_rfl) (fun _ _ _ h => h) (by kernel_rfl) hS1 ?hy46 ?_
            case hy46 => (intro W hW; clear hW; go_simp; try rfl)
            simp only [Act.put, List.setIfInBounds_toArray, List.set_cons_zero, List.set_cons_succ]
            refine takeInH 8 21 ?v47 rfl rfl (by kernel_rfl) (by kernel_rfl) (by kernel_rfl) (fun _ _ _ h => h) (by kernel_rfl) hS1 ?hy47 ?_
            case hy47 => (intro W hW; clear hW; go_simp; try rfl)
            simp only [Act.put, List.setIfInBounds_toArray, List.set_cons_zero, List.set_cons_succ]
            refine takeInH 9 22 ?v48 rfl rfl (by kernel_rfl) (by kernel_rfl) (by kernel_rfl) (fun _ _ _ h => h) (by kernel_rfl) hS1 ?hy48 ?_
            case hy48 => (intro W hW; clear hW; go_simp; try rfl)
            simp only [Act.put, List.setIfInBounds_toArray, List.set_cons_zero, List.set_cons_succ]
            refine takeInH 10 23 ?v49 rfl rfl (by kernel_rfl) (by kernel_rfl) (by kernel_rfl) (fun _ _ _ h => h) (by kernel_rfl) hS1 ?hy49 ?_
            case hy49 => (intro W hW; clear hW; go_simp; try rfl)
            simp only [Act.put, List.setIfInBounds_toArray, List.set_cons_zero, List.set_cons_succ]
            refine takeInH 11 24 ?v50 rfl rfl (by kernel_rfl) (by kernel_rfl) (by kernel_rfl) (fun _ _ _ h => h) (by kernel_rfl) hS1 ?hy50 ?_
            case hy50 => (intro W hW; clear hW; go_simp; try rfl)
            simp only [Act.put, List.setIfInBounds_toArray, List.set_cons_zero, List.set_cons_succ]
            refine takeInH 12 25 ?v51 rfl rfl (by kernel_rfl) (by kernel_rfl) (by kernel_rfl) (fun _ _ _ h => h) (by kernel_rfl) hS1 ?hy51 ?_
            case hy51 => (intro W hW; clear hW; go_simp; try rfl)
            simp only [Act.put, List.setIfInBounds_toArray, List.set_cons_zero, List.set_cons_succ]
            refine takeInH 13 26 ?v52 rfl rfl (by kernel_rfl) (by kernel_rfl) (by kernel_rfl) (fun _ _ _ h => h) (by kernel_rfl) hS1 ?hy52 ?_
            case hy52 => (intro W hW; clear hW; go_simp; try rfl)
            simp only [Act.put, List.setIfInBounds_toArray, List.set_cons_zero, List.set_cons_succ]
            refine takeInH 14 27 ?v53 rfl rfl (by kernel_rfl) (by kernel_rfl) (by kernel_rfl) (fun _ _ _ h => h) (by kernel_rfl) hS1 ?hy53 ?_
            case hy53 => (intro W hW; have e0 := bcell hW x0; have e1 := bcell hW x1; have e2 := bcell hW x2; have e3 := bcell hW x3; clear hW; go_simp; try rfl)
            simp only [Act.put, List.setIfInBounds_toArray, List.set_cons_zero, List.set_cons_succ]
            refine wpAnyH_ready (rs := [15]) (by kernel_rfl) (by simp) ?_
            refine AllReadyH.cons rfl (fun K hK => ?_) AllReadyH.nil
            go_simp
            refine (HFI.out _ (VX.out.below hS1)).mono ?_
            rintro e w' ⟨rfl, hb⟩
            try go_wp2_with fail
            refine hK.out _ _ ?hs54 (fun hS2 => ?_)
            case hs54 => exact bel_next hS1 hb
            clear hK K
            try simp only [Act.put, List.setIfInBounds_toArray, List.set_cons_zero, List.set_cons_succ]
            refine takeInH 16 29 ?v55 rfl rfl (by kernel_rfl) (by kernel_rfl) (by kernel_rfl) (fun _ _ _ h => h) (by kernel_rfl) hS2 ?hy55 ?_
            case hy55 => (intro W hW; clear hW; go_simp; try rfl)
            simp only [Act.put, List.setIfInBounds_toArray, List.set_cons_zero, List.set_cons_succ]
            refine takeInH 17 30 ?v56 rfl rfl (by kernel_rfl) (by kernel_rfl) (by kernel_rfl) (fun _ _ _ h => h) (by kernel_rfl) hS2 ?hy56 ?_
            case hy56 => (intro W hW; clear hW; go_simp; try rfl)
            simp only [Act.put, List.setIfInBounds_toArray, List.set_cons_zero, List.set_cons_succ]
            refine takeInH 18 31 ?v57 rfl rfl (by kernel_rfl) (by kernel_rfl) (by kernel_rfl) (fun _ _ _ h => h) (by kernel_rfl) hS2 ?hy57 ?_
            case hy57 => (intro W hW; clear hW; go_simp; try rfl)
            simp only [Act.put, List.setIfInBounds_toArray, List.set_cons_zero, List.set_cons_succ]
            refine takeInH 19 32 ?v58 rfl rfl (by kernel_rfl) (by kernel_rfl) (by kernel_rfl) (fun _ _ _ h => h) (by kernel_rfl) hS2 ?hy58 ?_
            case hy58 => (intro W hW; clear hW; go_simp; try rfl)
            simp only [Act.put, List.setIfInBounds_toArray, List.set_cons_zero, List.set_cons_succ]
            refine takeInH 20 33 ?v59 rfl rfl (by kernel_rfl) (by kernel_rfl) (by kernel_rfl) (fun _ _ _ h => h) (by kernel_rfl) hS2 ?hy59 ?_
            case hy59 => (intro W hW; clear hW; go_simp; try rfl)
            simp only [Act.put, List.setIfInBounds_toArray, List.set_cons_zero, List.set_cons_succ]
            refine takeInH 21 34 ?v60 rfl rfl (by kernel_rfl) (by kernel_rfl) (by kernel_rfl) (fun _ _ _ h => h) (by kernel_rfl) hS2 ?hy60 ?_
            case hy60 => (intro W hW; clear hW; go_simp; try rfl)
            simp only [Act.put, List.setIfInBounds_toArray, List.set_cons_zero, List.set_cons_succ]
            refine takeInH 22 35 ?v61 rfl rfl (by kernel_rfl) (by kernel_rfl) (by kernel_rfl) (fun _ _ _ h => h) (by kernel_rfl) hS2 ?hy61 ?_
            case hy61 => (intro W hW; have e0 := bcell hW x0; have e1 := bcell hW x1; have e2 := bcell hW x2; have e3 := bcell hW x3; clear hW; go_simp; try rfl)
            simp only [Act.put, List.setIfInBounds_toArray, List.set_cons_zero, List.set_cons_succ]
            refine takeInH 24 37 ?v62 rfl rfl (by kernel_rfl) (by kernel_rfl) (by kernel_rfl) (fun _ _ _ h => h) (by kernel_rfl) hS2 ?hy62 ?_
            case hy62 => (intro W hW; clear hW; go_simp; try rfl)
            simp only [Act.put, List.setIfInBounds_toArray, List.set_cons_zero, List.set_cons_succ]
            refine takeInH 25 38 ?v63 rfl rfl (by kernel_rfl) (by kernel_rfl) (by kernel_rfl) (fun _ _ _ h => h) (by kernel_rfl) hS2 ?hy63 ?_
            case hy63 => (intro W hW; clear hW; go_simp; try rfl)
            simp only [Act.put, List.setIfInBounds_toArray, List.set_cons_zero, List.set_cons_succ]
            refine wpAnyH_ready (rs := [23]) (by kernel_rfl) (by simp) ?_
            refine AllReadyH.cons rfl (fun K hK => ?_) AllReadyH.nil
            go_simp
            refine (HUU.out _ (NX.out.below hS2)).mono ?_
            rintro e w' ⟨rfl, hw⟩
            replace hw := hw.symm
            subst hw
            try go_wp2_with fail
            refine hK.out _ _ ?hs64 (fun hS3 => ?_)
            case hs64 => exact hS2
            clear hK K
            try simp only [Act.put, List.setIfInBounds_toArray, List.set_cons_zero, List.set_cons_succ]
            refine takeInH 26 39 ?v65 rfl rfl (by kernel_rfl) (by kernel_rfl) (by kernel_rfl) (fun _ _ _ h => h) (by kernel_rfl) hS3 ?hy65 ?_
            case hy65 => (intro W hW; clear hW; go_simp; try rfl)
            simp only [Act.put, List.setIfInBounds_toArray, List.set_cons_zero, List.set_cons_succ]
            refine takeInH 27 40 ?v66 rfl rfl (by kernel_rfl) (by kernel_rfl) (by kernel_rfl) (fun _ _ _ h => h) (by kernel_rfl) hS3 ?hy66 ?_
            case hy66 => (intro W hW; clear hW; go_simp; try rfl)
            simp only [Act.put, List.setIfInBounds_toArray, List.set_cons_zero, List.set_cons_succ]
            refine wpAnyH_done (by kernel_rfl) ?_ _
            go_wp2
            go_ret
            exact ⟨retB HE.out, bel_next hB.out hS3⟩
        · have HE : Hid (false = closedB es) := by
            unfold Hid
            cases hcl : closedB es with
            | false => rfl
            | true => exact absurd (closed_ok1 hen hcl k _ HX.out) (fun q => by have h := q.2.1; simp only [] at h; rw [hf] at h; cases h)
          have HFI := hide (fun W (h : EVS W (some ⟨b, off, none⟩) k (es.take k)) => find_any (some ⟨b, off, none⟩) k cap (es.take k) r s W h true hf.symm)
          clear hm hf
          go_wp2
          refine wp_region_held_drew (S := fun W => Below wr.heap.size wr W) (by kernel_rfl) ((Below.refl _ wr).drew) (fun hS0 => ?_)
          refine takeInH 0 13 ?v67 rfl rfl (by kernel_rfl) (by kernel_rfl) (by kernel_rfl) (fun _ _ _ h => h) (by kernel_rfl) hS0 ?hy67 ?_
          case hy67 => (intro W hW; clear hW; go_simp; try rfl)
          simp only [Act.put, List.setIfInBounds_toArray, List.set_cons_zero, List.set_cons_succ]
          refine takeInH 1 14 ?v68 rfl rfl (by kernel_rfl) (by kernel_rfl) (by kernel_rfl) (fun _ _ _ h => h) (by kernel_rfl) hS0 ?hy68 ?_
          case hy68 => (intro W hW; clear hW; go_simp; try rfl)
          simp only [Act.put, List.setIfInBounds_toArray, List.set_cons_zero, List.set_cons_succ]
          refine takeInH 2 15 ?v69 rfl rfl (by kernel_rfl) (by kernel_rfl) (by kernel_rfl) (fun _ _ _ h => h) (by kernel_rfl) hS0 ?hy69 ?_
          case hy69 => (intro W hW; clear hW; go_simp; try rfl)
          simp only [Act.put, List.setIfInBounds_toArray, List.set_cons_zero, List.set_cons_succ]
          refine takeInH 3 16 ?v70 rfl rfl (by kernel_rfl) (by kernel_rfl) (by kernel_rfl) (fun _ _ _ h => h) (by kernel_rfl) hS0 ?hy70 ?_
          case hy70 => (intro W hW; have e0 := bcell hW x0; have e1 := bcell hW x1; have e2 := bcell hW x2; have e3 := bcell hW x3; clear hW; go_simp; try rfl)
          simp only [Act.put, List.setIfInBounds_toArray, List.set_cons_zero, List.set_cons_succ]
          refine wpAnyH_ready (rs := [4]) (by kernel_rfl) (by simp) ?_
          refine AllReadyH.cons rfl (fun K hK => ?_) AllReadyH.nil
          go_simp
          refine (HME.out _ (NX.out.below hS0) (EX.out.below hS0)).mono ?_
          rintro e w' ⟨rfl, hb⟩
          try go_wp2_with fail
          refine hK.out _ _ ?hs71 (fun hS1 => ?_)
          case hs71 => exact bel_next hS0 hb
          clear hK K
          try simp only [Act.put, List.setIfInBounds_toArray, List.set_cons_zero, List.set_cons_succ]
          refine takeInH 5 18 ?v72 rfl rfl (by kernel_rfl) (by kernel_rfl) (by kernel_rfl) (fun _ _ _ h => h) (by kernel_rfl) hS1 ?hy72 ?_
          case hy72 => (intro W hW; clear hW; go_simp; try rfl)
          simp only [Act.put, List.setIfInBounds_toArray, List.set_cons_zero, List.set_cons_succ]
          refine takeInH 6 19 ?v73 rfl rfl (by kernel_rfl) (by kernel_rfl) (by kernel_rfl) (fun _ _ _ h => h) (by kernel_rfl) hS1 ?hy73 ?_
          case hy73 => (intro W hW; clear hW; go_simp; try rfl)
          simp only [Act.put, List.setIfInBounds_toArray, List.set_cons_zero, List.set_cons_succ]
          refine takeInH 7 20 ?v74 rfl rfl (by kernel_rfl) (by kernel_rfl) (by kernel_rfl) (fun _ _ _ h => h) (by kernel_rfl) hS1 ?hy74 ?_
          case hy74 => (intro W hW; clear hW; go_simp; try rfl)
          simp only [Act.put, List.setIfInBounds_toArray, List.set_cons_zero, List.set_cons_succ]
          refine takeInH 8 21 ?v75 rfl rfl (by kernel_rfl) (by kernel_rfl) (by kernel_rfl) (fun _ _ _ h => h) (by kernel_rfl) hS1 ?hy75 ?_
          case hy75 => (intro W hW; clear hW; go_simp; try rfl)
          simp only [Act.put, List.setIfInBounds_toArray, List.set_cons_zero, List.set_cons_succ]
          refine takeInH 9 22 ?v76 rfl rfl (by kernel_rfl) (by kernel_rfl) (by kernel_rfl) (fun _ _ _ h => h) (by kernel_rfl) hS1 ?hy76 ?_
          case hy76 => (intro W hW; clear hW; go_simp; try rfl)
          simp only [Act.put, List.setIfInBounds_toArray, List.set_cons_zero, List.set_cons_succ]
          refine takeInH 10 23 ?v77 rfl rfl (by kernel_rfl) (by kernel_rfl) (by kernel_rfl) (fun _ _ _ h => h) (by kernel_rfl) hS1 ?hy77 ?_
          case hy77 => (intro W hW; clear hW; go_simp; try rfl)
          simp only [Act.put, List.setIfInBounds_toArray, List.set_cons_zero, List.set_cons_succ]
          refine takeInH 11 24 ?v78 rfl rfl (by kernel_rfl) (by kernel_rfl) (by kernel_rfl) (fun _ _ _ h => h) (by kernel_rfl) hS1 ?hy78 ?_
          case hy78 => (intro W hW; clear hW; go_simp; try rfl)
          simp only [Act.put, List.setIfInBounds_toArray, List.set_cons_zero, List.set_cons_succ]
          refine takeInH 12 25 ?v79 rfl rfl (by kernel_rfl) (by kernel_rfl) (by kernel_rfl) (fun _ _ _ h => h) (by kernel_rfl) hS1 ?hy79 ?_
          case hy79 => (intro W hW; clear hW; go_simp; try rfl)
          simp only [Act.put, List.setIfInBounds_toArray, List.set_cons_zero, List.set_cons_succ]
          refine takeInH 13 26 ?v80 rfl rfl (by kernel_rfl) (by kernel_rfl) (by kernel_rfl) (fun _ _ _ h => h) (by kernel_rfl) hS1 ?hy80 ?_
          case hy80 => (intro W hW; clear hW; go_simp; try rfl)
          simp only [Act.put, List.setIfInBounds_toArray, List.set_cons_zero, List.set_cons_succ]
          refine takeInH 14 27 ?v81 rfl rfl (by kernel_rfl) (by kernel_rfl) (by kernel_rfl) (fun _ _ _ h => h) (by kernel_rfl) hS1 ?hy81 ?_
          case hy81 => (intro W hW; have e0 := bcell hW x0; have e1 := bcell hW x1; have e2 := bcell hW x2; have e3 := bcell hW x3; clear hW; go_simp; try rfl)
          simp only [Act.put, List.setIfInBounds_toArray, List.set_cons_zero, List.set_cons_succ]
          refine wpAnyH_ready (rs := [15]) (by kernel_rfl) (by simp) ?_
          refine AllReadyH.cons rfl (fun K hK => ?_) AllReadyH.nil
          go_simp
          refine (HFI.out _ (VX.out.below hS1)).mono ?_
          rintro e w' ⟨rfl, hb⟩
          try go_wp2_with fail
          refine hK.out _ _ ?hs82 (fun hS2 => ?_)
          case hs82 => exact bel_next hS1 hb
          clear hK K
          try simp only [Act.put, List.setIfInBounds_toArray, List.set_cons_zero, List.set_cons_succ]
          refine takeInH 16 29 ?v83 rfl rfl (by kernel_rfl) (by kernel_rfl) (by kernel_rfl) (fun _ _ _ h => h) (by kernel_rfl) hS2 ?hy83 ?_
          case hy83 => (intro W hW; clear hW; go_simp; try rfl)
          simp only [Act.put, List.setIfInBounds_toArray, List.set_cons_zero, List.set_cons_succ]
          refine takeInH 17 30 ?v84 rfl rfl (by kernel_rfl) (by kernel_rfl) (by kernel_rfl) (fun _ _ _ h => h) (by kernel_rfl) hS2 ?hy84 ?_
          case hy84 => (intro W hW; clear hW; go_simp; try rfl)
          simp only [Act.put, List.setIfInBounds_toArray, List.set_cons_zero, List.set_cons_succ]
          refine takeNoH 18 31 rfl rfl (by kernel_rfl) (by kernel_rfl) (by kernel_rfl) (fun _ _ _ h => h) (by kernel_rfl) hS2 ?_
          simp only [Act.put, List.setIfInBounds_toArray, List.set_cons_zero, List.set_cons_succ]
          refine takeNoH 19 32 rfl rfl (by kernel_rfl) (by kernel_rfl) (by kernel_rfl) (fun _ _ _ h => h) (by kernel_rfl) hS2 ?_
          simp only [Act.put, List.setIfInBounds_toArray, List.set_cons_zero, List.set_cons_succ]
          refine takeNoH 20 33 rfl rfl (by kernel_rfl) (by kernel_rfl) (by kernel_rfl) (fun _ _ _ h => h) (by kernel_rfl) hS2 ?_
          simp only [Act.put, List.setIfInBounds_toArray, List.set_cons_zero, List.set_cons_succ]
          refine takeNoH 21 34 rfl rfl (by kernel_rfl) (by kernel_rfl) (by kernel_rfl) (fun _ _ _ h => h) (by kernel_rfl) hS2 ?_
          simp only [Act.put, List.setIfInBounds_toArray, List.set_cons_zero, List.set_cons_succ]
          refine takeNoH 22 35 rfl rfl (by kernel_rfl) (by kernel_rfl) (by kernel_rfl) (fun _ _ _ h => h) (by kernel_rfl) hS2 ?_
          simp only [Act.put, List.setIfInBounds_toArray, List.set_cons_zero, List.set_cons_succ]
          refine takeNoH 23 36 rfl rfl (by kernel_rfl) (by kernel_rfl) (by kernel_rfl) (fun _ _ _ h => h) (by kernel_rfl) hS2 ?_
          simp only [Act.put, List.setIfInBounds_toArray, List.set_cons_zero, List.set_cons_succ]
          refine takeNoH 24 37 rfl rfl (by kernel_rfl) (by kernel_rfl) (by kernel_rfl) (fun _ _ _ h => h) (by kernel_rfl) hS2 ?_
          simp only [Act.put, List.setIfInBounds_toArray, List.set_cons_zero, List.set_cons_succ]
          refine takeNoH 25 38 rfl rfl (by kernel_rfl) (by kernel_rfl) (by kernel_rfl) (fun _ _ _ h => h) (by kernel_rfl) hS2 ?_
          simp only [Act.put, List.setIfInBounds_toArray, List.set_cons_zero, List.set_cons_succ]
          refine takeNoH 26 39 rfl rfl (by kernel_rfl) (by kernel_rfl) (by kernel_rfl) (fun _ _ _ h => h) (by kernel_rfl) hS2 ?_
          simp only [Act.put, List.setIfInBounds_toArray, List.set_cons_zero, List.set_cons_succ]
          refine takeInH 27 40 ?v85 rfl rfl (by kernel_rfl) (by kernel_rfl) (by kernel_rfl) (fun _ _ _ h => h) (by kernel_rfl) hS2 ?hy85 ?_
          case hy85 => (intro W hW; clear hW; go_simp; try rfl)
          simp only [Act.put, List.setIfInBounds_toArray, List.set_cons_zero, List.set_cons_succ]
          refine wpAnyH_done (by kernel_rfl) ?_ _
          go_wp2
          go_ret
          exact ⟨retB HE.out, bel_next hB.out hS2⟩
    · have hkn : k = n := by omega
      have hkz : ¬ (k : Int) < (n : Int) := by omega
      have HALL : Hid (∀ (i : Nat) x, es[i]? = some x → ok1 es i x) := by
        intro i x hx
        refine HA.out i x ?_ hx
        have := (List.getElem?_eq_some_iff.1 hx).1
        rw [hlen.out] at this
        omega
      clear hkn HA
      go_wp2
      go_loopw [4] (fun i wr => ∃ k : Nat, k ≤ n ∧ i = .int .i64 k ∧ Hid (∀ e ∈ es.take k, ∀ r m : Int, 1 ≤ r → r ≤ 5 → 1 ≤ m → m ≤ getZ e.2.1 r → findB es (r, m) = true) ∧ Hid (Below w.heap.size w wr)) (fun i _ => n - (intOf i).toNat)
      case atStart => exact ⟨0, by omega, rfl, (fun e he => by simp at he), hB⟩
      case round =>
        clear hB
        obtain ⟨k, hk, rfl, HA, hB⟩ := hrel
        by_cases hlt : k < n
        · obtain ⟨b, off, rfl⟩ := HV.out.addr (by omega)
          obtain ⟨r, s, pa, na, ca, pe, ne, ce, c, fs, hx, x0, x1, x2, x3, hns, hca, hes, hce⟩ := HV.out.at k hlt
          have C2_ := hide x2
          have NX0 := hide hns
          have HX := hide hx
          have hkn : (k : Int) < (n : Int) := by omega
          clear hns hca hes hce hx x0 x1 x2 x3
          go_wp2
          go_loopw [5] (fun i wr => ∃ q : Nat, 1 ≤ q ∧ q ≤ 6 ∧ i = .int .i64 q ∧ Hid (∀ r m : Int, 1 ≤ r → r < q → 1 ≤ m → m ≤ getZ c r → findB es (r, m) = true) ∧ Hid (Below w.heap.size w wr)) (fun i _ => 6 - (intOf i).toNat)
          case atStart => exact ⟨1, by omega, by omega, rfl, (fun r m h1 h2 => by omega), hB⟩
          case round =>
            clear hB
            obtain ⟨q, hq1, hq6, rfl, HQ, hB⟩ := hrel
            by_cases hq : q ≤ 5
            · have hqz : (q : Int) ≤ 5 := by omega
              go_wp2
              have hzb := getZ_bd c (q : Int)
              go_loopw [6] (fun i wr => ∃ m : Nat, 1 ≤ m ∧ (m : Int) ≤ getZ c (q : Int) + 1 ∧ i = .int .i64 m ∧ Hid (∀ t : Int, 1 ≤ t → t < m → findB es ((q : Int), t) = true) ∧ Hid (Below w.heap.size w wr)) (fun i _ => (getZ c (q : Int) + 1 - intOf i).toNat)
              case atStart => exact ⟨1, by omega, by omega, rfl, (fun t h1 h2 => by omega), hB⟩
              case round =>
                clear hB
                obtain ⟨m, hm1, hm2, rfl, HM, hB⟩ := hrel
                have x2 := bcell hB.out C2_.out
                have HG := hide (get_refZ pa na ca c (q : Int) wr (NX0.out.below hB.out))
                by_cases hml : (m : Int) ≤ getZ c (q : Int)
                · rcases hf : findB es ((q : Int), (m : Int)) with _ | _
                  · have HE : Hid (false = closedB es) := by
                      unfold Hid
                      cases hcl : closedB es with
                      | false => rfl
                      | true =>
                        have h := closed_found hen hcl _ (List.mem_of_getElem? HX.out) (q : Int) (m : Int) (by omega) (by omega) (by omega) hml
                        rw [hf] at h
                        cases h
                    have HFI := hide (find_any (some ⟨b, off, none⟩) n cap es (q : Int) (m : Int) wr (HV.out.below hB.out) false hf.symm)
                    clear hf
                    generalize getZ c (q : Int) = z at HG hml hm2 hzb
                    go_wp2_with (first
                      | (go_at_call 31; refine HG.out.mono ?_; rintro e w' ⟨rfl, hw⟩; replace hw := hw.symm; subst hw)
                      | (go_at_call 68; refine HFI.out.mono ?_; rintro e w3 ⟨rfl, hb⟩; have HB3 := hide (bel_next hB.out hb); clear hb))
                    go_ret
                    exact ⟨retB HE.out, HB3.out⟩
                  · have HFI := hide (find_any (some ⟨b, off, none⟩) n cap es (q : Int) (m : Int) wr (HV.out.below hB.out) true hf.symm)
                    have HM2 : Hid (∀ t : Int, 1 ≤ t → t < ((m + 1 : Nat) : Int) → findB es ((q : Int), t) = true) := by
                      intro t h1 h2
                      rcases Int.lt_or_le t (m : Int) with h | h
                      · exact HM.out t h1 h
                      · have e : t = (m : Int) := by omega
                        rw [e]; exact hf
                    clear hf
                    generalize hz : getZ c (q : Int) = z at HG hml hm2 hzb ⊢
                    clear hz
                    go_wp2_with (first
                      | (go_at_call 31; refine HG.out.mono ?_; rintro e w' ⟨rfl, hw⟩; replace hw := hw.symm; subst hw)
                      | (go_at_call 68; refine HFI.out.mono ?_; rintro e w3 ⟨rfl, hb⟩; have HB3 := hide (bel_next hB.out hb); clear hb))
                    go_roundw
                    case rel => exact ⟨m + 1, by omega, by omega, by go_num, HM2, HB3⟩
                    case measure => simp [intOf]; omega
                · have HQ2 : Hid (∀ r m : Int, 1 ≤ r → r < ((q + 1 : Nat) : Int) → 1 ≤ m → m ≤ getZ c r → findB es (r, m) = true) := by
                    intro r t h1 h2 h3 h4
                    rcases Int.lt_or_le r (q : Int) with h | h
                    · exact HQ.out r t h1 h h3 h4
                    · have e : r = (q : Int) := by omega
                      subst e
                      exact HM.out t h3 (by omega)
                  generalize getZ c (q : Int) = z at HG hml hm2 hzb
                  go_wp2_with (go_at_call 31; refine HG.out.mono ?_; rintro e w' ⟨rfl, hw⟩; replace hw := hw.symm; subst hw)
                  go_roundw
                  case rel => exact ⟨q + 1, by omega, by omega, by go_num, HQ2, hB⟩
                  case measure => simp [intOf]; omega
            · have hqz : ¬ (q : Int) ≤ 5 := by omega
              have HA2 : Hid (∀ e ∈ es.take (k + 1), ∀ r m : Int, 1 ≤ r → r ≤ 5 → 1 ≤ m → m ≤ getZ e.2.1 r → findB es (r, m) = true) := by
                intro e he
                rw [take_snocE HX.out] at he
                rcases List.mem_append.1 he with h | h
                · exact HA.out e h
                · rw [List.mem_singleton.1 h]
                  exact fun r m h1 h2 h3 h4 => HQ.out r m h1 (by omega) h3 h4
              go_wp2
              go_roundw
              case rel => exact ⟨k + 1, by omega, by go_num, HA2, hB⟩
              case measure => simp [intOf]; omega
        · have hkn : k = n := by omega
          have hkz : ¬ (k : Int) < (n : Int) := by omega
          have HE : Hid (true = closedB es) := by
            unfold Hid
            refine (ok_closed hen HALL.out ?_).symm
            have q := HA.out
            rw [hkn, List.take_of_length_le (by rw [hlen.out]; exact Nat.le_refl _)] at q
            exact q
          clear hkn
          go_wp2
          go_ret
          exact ⟨retB HE.out, hB.out⟩
end Go.Proofs.Ytiodlpoeifmldaa

