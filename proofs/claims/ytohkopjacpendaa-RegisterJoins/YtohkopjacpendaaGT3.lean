/- What comes into layer 10's statements. -/
import Derived.Test.YtohkopjacpendaaGT2
import Derived.Test.YtohkopjacpendaaGW
namespace Go.Proofs.Ytohkopjacpendaa
open Go.RowKit Go.ChangeShapes Go.WideShapes
set_option linter.unusedVariables false
def celR : Rl Ce := fun _ cs x => cs = [.string x.1, .int .i64 x.2]
theorem Try.cellsI10 : Try.prog.cellsOf 3 = 1 := by kernel_rfl
theorem Try.cellsS10 : Try.prog.cellsOf 9 = 1 := by kernel_rfl
theorem len2T {α : Type} (l : List α) (h : l.length = 2) : ∃ a b, l = [a, b] := by
  match l, h with
  | [a, b], _ => exact ⟨a, b, rfl⟩
theorem SR.ts {w : World} {a : Option Addr} {n : Nat} {s : List Ce} (h : SR 2 celR w a n s) : TS w a n s := by
  obtain ⟨h1, h2, h3⟩ := h
  refine ⟨h1, h2, h3.imp id ?_⟩
  rintro ⟨b, off, ha, hc⟩
  refine ⟨b, off, ha, fun i x hx j v hj => ?_⟩
  obtain ⟨r, _, hr, hcell⟩ := hc i x hx
  rw [hr] at hcell
  exact hcell j v hj
/-- A tally that came in. -/
def InTs (w : World) (v : Value) : Prop := ∃ a n cap s, v = .slice a n cap ∧ TS w a n s ∧ CP a n cap
/-- A text that came in. -/
def InS10 (w : World) (v : Value) : Prop := ∃ t, v = .string t
set_option maxRecDepth 100000 in
theorem in_str10 {H : Type} {enc : TypeId × Value → H} {W : World} {v : Value} {d : DataW H} {p : List MemPlace} {base : Nat} (hok : Value.okWide Try.prog W .any base 9 v) (h : DataW.Trod enc Try.prog W 0 (fun _ => true) true 9 v d p) (hw : ∀ n ∈ d.weights Try.prog 9, n ≤ reachBytes) : InS10 W v := by
  obtain ⟨s, hs⟩ := okWide_string Try.underlying9 hok
  exact ⟨s, hs⟩
/-- What a check tells. -/
def chkT (s : List Ce) : Int := if mayT s = true then 0 else 1
def get10 (s : List Ce) (t : ByteArray) : Int := if mayT s = true then numT s t else 0
def all10 (s : List Ce) : List Ce := if mayT s = true then s else []
theorem chkT_yes {s : List Ce} (h : mayT s = true) : chkT s = 0 := by unfold chkT; rw [if_pos h]
theorem chkT_no {s : List Ce} (h : mayT s = false) : chkT s = 1 := by unfold chkT; rw [h]; rfl
end Go.Proofs.Ytohkopjacpendaa
