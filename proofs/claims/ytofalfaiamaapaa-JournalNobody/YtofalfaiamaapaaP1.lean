/- The program's disk in memory, and what it tells without a change. -/
import Derived.Test.YtofalfaiamaapaaK1
namespace Go.Proofs.Ytofalfaiamaapaa
open Go.RowKit
set_option linter.unusedVariables false

/-- A disk's seven cells. -/
abbrev DC (d : Dk) (va vb : Value) : Array Value := #[.bool true, .int .i64 d.room, va, .int .i64 d.a.s, vb, .int .i64 d.b.s, .int .i64 d.stop]
/-- The blocks of a disk. -/
def Xs (g : Nat) (va vb : Value) (b : Nat) : Prop := b = g ∨ va.ownBlock = some b ∨ vb.ownBlock = some b
/-- A disk that the call made, and its bytes, each in a block of its own. -/
def PD (N g : Nat) (w : World) (va vb : Value) (d : Dk) : Prop := BX w g (DC d va vb) 69 ∧ Own N w va d.a.l ∧ Own N w vb d.b.l ∧ (∀ b, va.ownBlock = some b → vb.ownBlock ≠ some b) ∧ N ≤ g ∧ d.ok
theorem PD.below {N g : Nat} {w w' : World} {va vb : Value} {d : Dk} (h : PD N g w va vb d) (hb : Below w.heap.size w w') : PD N g w' va vb d := ⟨h.1.below hb, h.2.1.below hb, h.2.2.1.below hb, h.2.2.2⟩
theorem PD.ok {N g : Nat} {w : World} {va vb : Value} {d : Dk} (h : PD N g w va vb d) : d.ok := h.2.2.2.2.2
theorem PD.box {N g : Nat} {w : World} {va vb : Value} {d : Dk} (h : PD N g w va vb d) : BX w g (DC d va vb) 69 := h.1
theorem PD.vals {N g : Nat} {w : World} {va vb : Value} {d : Dk} (h : PD N g w va vb d) : ∃ pa ca pb cb, va = .slice pa d.a.l.length ca ∧ vb = .slice pb d.b.l.length cb ∧ BS w pa d.a.l.length d.a.l ∧ CP pa d.a.l.length ca ∧ BS w pb d.b.l.length d.b.l ∧ CP pb d.b.l.length cb := by
  obtain ⟨pa, ca, h1, h2, h3⟩ := h.2.1.open h.ok.1.1
  obtain ⟨pb, cb, k1, k2, k3⟩ := h.2.2.1.open h.ok.2.1.1
  exact ⟨pa, ca, pb, cb, h1, k1, h2, h3, k2, k3⟩
theorem isMade_any (g : Nat) (C : Array Value) (w : World) (h : BX w g C 69) (h0 : C[0]? = some (.bool true)) : Calls Try.prog 38 #[.pointer (some ⟨g, 0, none⟩)] w fun e w' => e = .returned (.bool true) ∧ w' = w := by
  have c0 := h.cell 0 _ h0
  clear h h0
  go_enter Try.func38, Try.ntmps38
  go_wp2
  go_ret
  exact ⟨rfl, rfl⟩
theorem Dead_any (g : Nat) (C : Array Value) (s : Int) (w : World) (h : BX w g C 69) (h0 : C[0]? = some (.bool true)) (h6 : C[6]? = some (.int .i64 s)) : Calls Try.prog 19 #[.pointer (some ⟨g, 0, none⟩)] w fun e w' => e = .returned (.bool (s == 0)) ∧ w' = w := by
  have c6 := h.cell 6 _ h6
  have H := hide (isMade_any g C w h h0)
  clear h h0 h6
  go_enter Try.func19, Try.ntmps19
  go_wp2_with fail
  refine H.out.mono ?_
  rintro e w' ⟨rfl, rfl⟩
  go_wp2
  go_ret
  exact ⟨by simp, rfl⟩
/-- Why nothing is done at a slot. -/
def refD (s i : Int) : Int := if s = 0 then 9 else if i ≠ 0 ∧ i ≠ 1 then 1 else 0
theorem refuses_any (g : Nat) (C : Array Value) (s i : Int) (w : World) (h : BX w g C 69) (h0 : C[0]? = some (.bool true)) (h6 : C[6]? = some (.int .i64 s)) : Calls Try.prog 30 #[.pointer (some ⟨g, 0, none⟩), .int .i64 i] w fun e w' => e = .returned (.int .i64 (refD s i)) ∧ w' = w := by
  have H := hide (Dead_any g C s w h h0 h6)
  clear h h0 h6
  unfold refD
  by_cases hs : s = 0
  · rw [if_pos hs]
    have hb : (s == 0) = true := by simpa using hs
    rw [hb] at H
    clear hb hs
    go_enter Try.func30, Try.ntmps30
    go_wp2_with fail
    refine H.out.mono ?_
    rintro e w' ⟨rfl, rfl⟩
    go_wp2
    go_ret
    exact ⟨rfl, rfl⟩
  · rw [if_neg hs]
    have hb : (s == 0) = false := by simpa using hs
    rw [hb] at H
    clear hb hs
    by_cases hi : i ≠ 0 ∧ i ≠ 1
    · rw [if_pos hi]
      by_cases hi0 : i < 0
      · clear hi
        go_enter Try.func30, Try.ntmps30
        go_wp2_with fail
        refine H.out.mono ?_
        rintro e w' ⟨rfl, rfl⟩
        go_wp2
        go_ret
        exact ⟨rfl, rfl⟩
      · have hi2 : i ≥ 2 := by omega
        clear hi
        go_enter Try.func30, Try.ntmps30
        go_wp2_with fail
        refine H.out.mono ?_
        rintro e w' ⟨rfl, rfl⟩
        go_wp2
        go_ret
        exact ⟨rfl, rfl⟩
    · rw [if_neg hi]
      have hi0 : ¬ i < 0 := by omega
      have hi2 : ¬ i ≥ 2 := by omega
      clear hi
      go_enter Try.func30, Try.ntmps30
      go_wp2_with fail
      refine H.out.mono ?_
      rintro e w' ⟨rfl, rfl⟩
      go_wp2
      go_ret
      exact ⟨rfl, rfl⟩
/-- An act is counted. -/
theorem act_any (g : Nat) (C : Array Value) (s : Int) (w : World) (h : BX w g C 69) (h6 : C[6]? = some (.int .i64 s)) (h1 : -1 ≤ s) (h2 : s ≤ 9223372036854775807) (hs : s ≠ 0) : Calls Try.prog 31 #[.pointer (some ⟨g, 0, none⟩)] w fun e w' => e = .returned (.tuple #[]) ∧ ((s = -1 ∧ w' = w) ∨ (0 < s ∧ w' = w.setCell ⟨g, 6, none⟩ (.int .i64 (s - 1)))) := by
  have c6 := h.cell 6 _ h6
  have f6 := h.free 6
  clear h h6
  by_cases hn : s = -1
  · subst hn
    go_enter Try.func31, Try.ntmps31
    go_wp2
    refine bodyPost_end (v := .tuple #[]) (by simp [results, Try.results31, go_sem]) rfl ?_
    exact ⟨rfl, .inl ⟨trivial, rfl⟩⟩
  · have hb : (s != -1) = true := by simpa using hn
    go_enter Try.func31, Try.ntmps31
    go_wp2
    refine bodyPost_end (v := .tuple #[]) (by simp [results, Try.results31, go_sem]) rfl ?_
    exact ⟨rfl, .inr ⟨by omega, rfl⟩⟩
theorem Try.indexP (i : Nat) (hi : i < 2) (x0 x1 x2 x3 : Value) (w : World) : (Instr.index 67 (.agg #[x0, x1, x2, x3]) (.int .i64 i)).run Try.prog w = .ok (if i = 0 then .agg #[x0, x1] else .agg #[x2, x3]) w := by
  rcases (by omega : i = 0 ∨ i = 1) with rfl | rfl
  · kernel_rfl
  · kernel_rfl
theorem Left_any {N g : Nat} {va vb : Value} {d : Dk} (w : World) (h : PD N g w va vb d) : Calls Try.prog 24 #[.pointer (some ⟨g, 0, none⟩)] w fun e w' => e = .returned (.int .i64 d.left) ∧ Below w.heap.size w w' := by
  obtain ⟨pa, ca, pb, cb, rfl, rfl, _⟩ := h.vals
  have hl := h.ok.lens
  have hr : d.room ≤ 1048576 := h.ok.2.2.2.1
  obtain ⟨hl, h0⟩ := hl
  have c1 := h.1.cell 1 _ rfl
  have c2 := h.1.cell 2 _ rfl
  have c3 := h.1.cell 3 _ rfl
  have c4 := h.1.cell 4 _ rfl
  have c5 := h.1.cell 5 _ rfl
  have H := hide (isMade_any g _ w h.1 rfl)
  clear h
  unfold Dk.left
  go_enter Try.func24, Try.ntmps24
  go_wp2_with fail
  refine H.out.mono ?_
  rintro e w' ⟨rfl, rfl⟩
  go_wp2
  go_loopw [3, 17] (fun x i wr => ((i = .int .i64 0 ∧ x = .int .i64 d.room) ∨ (i = .int .i64 1 ∧ x = .int .i64 (d.room - d.a.l.length)) ∨ (i = .int .i64 2 ∧ x = .int .i64 (d.room - d.a.l.length - d.b.l.length))) ∧ Hid (Below w'.heap.size w' wr)) (fun _ i _ => 2 - (intOf i).toNat)
  case atStart => exact ⟨.inl ⟨rfl, rfl⟩, Below.refl _ _⟩
  case round =>
    have i0 := Try.indexP 0 (by omega) (.slice pa d.a.l.length ca) (.int .i64 d.a.s) (.slice pb d.b.l.length cb) (.int .i64 d.b.s)
    have i1 := Try.indexP 1 (by omega) (.slice pa d.a.l.length ca) (.int .i64 d.a.s) (.slice pb d.b.l.length cb) (.int .i64 d.b.s)
    simp at i0 i1
    obtain ⟨⟨rfl, rfl⟩ | ⟨rfl, rfl⟩ | ⟨rfl, rfl⟩, HB⟩ := hrel
    · go_wp2
      go_roundw
      case rel => exact ⟨.inr (.inl ⟨rfl, rfl⟩), HB.out.alloc HB.out.size _⟩
      case measure => simp [intOf]
    · go_wp2
      go_roundw
      case rel => exact ⟨.inr (.inr ⟨rfl, rfl⟩), HB.out.alloc HB.out.size _⟩
      case measure => simp [intOf]
    · go_wp2
      go_ret
      exact ⟨rfl, HB.out⟩
end Go.Proofs.Ytofalfaiamaapaa
