/- Rows of records, and what Scan tells (layer 7). -/
import Derived.Test.YtofalfaiamaapaaJ3
import Derived.Deep.CutBlock
import Derived.Deep.CutRange
namespace Go.Proofs.Ytofalfaiamaapaa
open Go.RowKit
set_option linter.unusedVariables false
theorem Try.infoFd : (Try.prog.info? 32).map (·.size) = some 3 := by kernel_rfl
theorem Try.infoRec : (Try.prog.info? 71).map (fun i => (i.zero, i.size, i.bytes)) = some (some (.agg #[.int .i64 0, .slice none 0 0]), 2, 32) := by kernel_rfl
theorem Try.infoI8 : (Try.prog.info? 3).map (fun i => (i.zero, i.size, i.bytes)) = some (some (.int .i64 0), 1, 8) := by kernel_rfl
theorem encW_len (x : Rw) : (encW x).length = 2 := rfl
theorem encI_len (x : Int) : (encI x).length = 1 := rfl
/-- What Scan tells. -/
def SC (l : List Int) (w : World) (e : Ending) (w' : World) : Prop := ∃ p m c, e = .returned (.agg #[.int .u64 (scanRs l).1, .slice p m c, .int .i64 ((scanRs l).2.2 : Int)]) ∧ RC w' p m (scanRs l).2.1 ∧ CP p m c ∧ Below w.heap.size w w'
theorem SC.zero {l : List Int} {w w' : World} (h : scanRs l = (0, [], 0)) (hb : Below w.heap.size w w') : SC l w (.returned (.agg #[.int .u64 0, .slice none 0 0, .int .i64 0])) w' := by
  unfold SC
  rw [h]
  exact ⟨none, 0, 0, rfl, SR.nil _ _, ⟨Nat.le_refl _, by decide, fun _ => rfl⟩, hb⟩
theorem RSW.one (w : World) (x : Rw) : RS encW 2 (w.alloc (.cells #[.int .i64 x.k, x.v] 71)) (some ⟨w.heap.size, 0, none⟩) 1 [x] := by
  have hb := BX.new w w.heap.size rfl #[.int .i64 x.k, x.v] 71
  refine ⟨rfl, by decide, .inr ⟨w.heap.size, 0, rfl, fun i y hi j u hj => ?_⟩⟩
  have h0 : i = 0 := by have := (List.getElem?_eq_some_iff.1 hi).1; simp at this; omega
  subst h0
  cases hi
  have hj2 : j < 2 := (List.getElem?_eq_some_iff.1 hj).1
  rcases (by omega : j = 0 ∨ j = 1) with rfl | rfl
  · cases hj; exact hb.cell 0 _ rfl
  · cases hj; exact hb.cell 1 _ rfl
theorem RSI.one (w : World) (x : Int) : RS encI 1 (w.alloc (.cells #[.int .i64 x] 3)) (some ⟨w.heap.size, 0, none⟩) 1 [x] := by
  have hb := BX.new w w.heap.size rfl #[.int .i64 x] 3
  refine ⟨rfl, by decide, .inr ⟨w.heap.size, 0, rfl, fun i y hi j u hj => ?_⟩⟩
  have h0 : i = 0 := by have := (List.getElem?_eq_some_iff.1 hi).1; simp at this; omega
  subst h0
  cases hi
  have hj2 : j < 1 := (List.getElem?_eq_some_iff.1 hj).1
  obtain rfl : j = 0 := by omega
  cases hj; exact hb.cell 0 _ rfl
theorem oneW' (x : Rw) : ∀ v ∈ encW x, v.oneCell' = true := by
  intro v hv
  simp [encW] at hv
  rcases hv with rfl | rfl <;> rfl
theorem RW.rc {w : World} {p : Option Addr} {l : List Rw} (h : RS encW 2 w p l.length l) (hx : ∀ x ∈ l, BS w x.p x.b.length x.b ∧ CP x.p x.b.length x.c) : RC w p l.length (l.map Rw.rc) := by
  obtain ⟨h1, h2, h3⟩ := h
  refine ⟨by simp, h2, ?_⟩
  rcases h3 with h3 | ⟨b, off, rfl, hc⟩
  · exact .inl h3
  · refine .inr ⟨b, off, rfl, fun i x hi => ?_⟩
    rw [List.getElem?_map, Option.map_eq_some_iff] at hi
    obtain ⟨y, hy, rfl⟩ := hi
    obtain ⟨e2, e3⟩ := hx y (List.mem_of_getElem? hy)
    exact ⟨encW y, rfl, ⟨y.p, _, y.c, rfl, e2, e3⟩, fun j v hj => hc i y hy j v hj⟩
/-- What stands when a slot's records are being chosen. -/
def L2 (wM : World) (u : Int) (rs : List Rw) (en : Nat) (wr : World) : Prop := ∃ VR, BX wr wM.heap.size #[.int .u64 u, VR, .int .i64 (en : Int)] 32 ∧ OwnW wM.heap.size wr VR rs ∧ Below wM.heap.size wM wr
end Go.Proofs.Ytofalfaiamaapaa
