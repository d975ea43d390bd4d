/- Parts and bytes told cell by cell, in whatever order they were laid. -/
import Derived.Test.YtedifnkafoepkaaCut
import Derived.Test.YtedifnkafoepkaaReg
namespace Go.Proofs.Ytedifnkafoepkaa
open Go.RowKit

theorem PS.one {W : World} {n : Nat} {a1 : Option Addr} {len1 c1 : Nat} {l1 : List Int} (h0 : W.cell? ⟨n, 0, Option.none⟩ = some (.slice a1 len1 c1)) (b1 : BS W a1 len1 l1) :
    PS W (some ⟨n, 0, Option.none⟩) 1 [l1] := by
  refine ⟨rfl, by decide, .inr ⟨n, 0, rfl, fun i hi => ?_⟩⟩
  match i, hi with
  | 0, _ => exact ⟨a1, len1, c1, h0, b1⟩
theorem PS.two {W : World} {n : Nat} {a1 a2 : Option Addr} {len1 c1 len2 c2 : Nat} {l1 l2 : List Int} (h0 : W.cell? ⟨n, 0, Option.none⟩ = some (.slice a1 len1 c1)) (h1 : W.cell? ⟨n, 1, Option.none⟩ = some (.slice a2 len2 c2))
    (b1 : BS W a1 len1 l1) (b2 : BS W a2 len2 l2) : PS W (some ⟨n, 0, Option.none⟩) 2 [l1, l2] := by
  refine ⟨rfl, by decide, .inr ⟨n, 0, rfl, fun i hi => ?_⟩⟩
  match i, hi with
  | 0, _ => exact ⟨a1, len1, c1, h0, b1⟩
  | 1, _ => exact ⟨a2, len2, c2, h1, b2⟩
theorem BS.four {W : World} {n : Nat} {x0 x1 x2 x3 : Int} (h0 : W.cell? ⟨n, 0, Option.none⟩ = some (.int .u8 x0)) (h1 : W.cell? ⟨n, 1, Option.none⟩ = some (.int .u8 x1))
    (h2 : W.cell? ⟨n, 2, Option.none⟩ = some (.int .u8 x2)) (h3 : W.cell? ⟨n, 3, Option.none⟩ = some (.int .u8 x3)) (hb : ∀ x ∈ [x0, x1, x2, x3], 0 ≤ x ∧ x < 256) : BS W (some ⟨n, 0, Option.none⟩) 4 [x0, x1, x2, x3] := by
  refine ⟨rfl, by decide, hb, .inr ⟨n, 0, rfl, fun i hi => ?_⟩⟩
  match i, hi with
  | 0, _ => exact h0
  | 1, _ => exact h1
  | 2, _ => exact h2
  | 3, _ => exact h3
theorem cut_bytes (s : Int) : ∀ n ∈ [s / 16777216 % 256, s / 65536 % 256, s / 256 % 256, s % 256], 0 ≤ n ∧ n < 256 := by
  intro n hn
  simp only [List.mem_cons, List.not_mem_nil, or_false] at hn
  omega
theorem u8_wrap (n : Int) : IntKind.u8.wrap n = n % 256 := by simp [IntKind.wrap, IntKind.bits, IntKind.signed]
theorem wrap_bytes (a b c d : Int) : ∀ n ∈ [IntKind.u8.wrap a, IntKind.u8.wrap b, IntKind.u8.wrap c, IntKind.u8.wrap d], 0 ≤ n ∧ n < 256 := by
  intro n hn
  simp only [List.mem_cons, List.not_mem_nil, or_false, u8_wrap] at hn
  omega
theorem closes_wrap (l : List Int) (hl : ∀ n ∈ l, 0 ≤ n ∧ n < 256) (s : Int) (hs : of [l] = s) :
    of [l, [IntKind.u8.wrap (s / 16777216), IntKind.u8.wrap (s / 65536), IntKind.u8.wrap (s / 256), IntKind.u8.wrap s]] = of [[0, 0, 0, 0]] := by
  subst hs
  simp only [u8_wrap]
  exact closes l hl
theorem Try.info5 : (Try.prog.info? 5).map (fun i => (i.zero, i.size, i.bytes)) = some (some (.int .u8 0), 1, 1) := by kernel_rfl
theorem make4 (w : World) : (Instr.makeSlice 23 (.int .i64 4) (.int .i64 4)).run Try.prog w = .ok (.slice (some ⟨w.heap.size, 0, Option.none⟩) 4 4) (w.alloc (.cells #[.int .u8 0, .int .u8 0, .int .u8 0, .int .u8 0] 5)) := by
  obtain ⟨i0, hi, hz0, hz1, hz2⟩ := info_parts Try.info5
  have h := run_make (P := Try.prog) w 23 5 i0 (.int .u8 0) Try.underlying23 hi hz0 .i64 .i64 4 4 (by omega) (by omega) (by rw [hz2]; omega) (by omega)
  have hm : madeCells (Value.int .u8 0).cells (Int.toNat 4 * i0.size) = #[.int .u8 0, .int .u8 0, .int .u8 0, .int .u8 0] := by
    rw [hz1]
    apply Array.ext
    · rw [size_madeCells]; rfl
    · intro i h1 h2
      have h3 : i < 4 := h2
      match i, h3 with
      | 0, _ => simp [madeCells, Value.cells]
      | 1, _ => simp [madeCells, Value.cells]
      | 2, _ => simp [madeCells, Value.cells]
      | 3, _ => simp [madeCells, Value.cells]
  rw [h, hm]
  rfl
end Go.Proofs.Ytedifnkafoepkaa
