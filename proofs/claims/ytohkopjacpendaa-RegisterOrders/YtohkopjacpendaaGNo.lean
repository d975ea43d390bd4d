/- What comes into layer 12's statements. -/
import Derived.Test.YtohkopjacpendaaGN2
import Derived.Test.YtohkopjacpendaaGT3
namespace Go.Proofs.Ytohkopjacpendaa
open Go.RowKit Go.ChangeShapes Go.WideShapes
set_option linter.unusedVariables false
def notR : Rl Nt := fun _ cs x => cs = encN x
theorem Try.cellsNot : Try.prog.cellsOf 24 = 4 := by kernel_rfl
theorem Try.cellsI12 : Try.prog.cellsOf 3 = 1 := by kernel_rfl
theorem Try.cellsS12 : Try.prog.cellsOf 9 = 1 := by kernel_rfl
theorem len4N {α : Type} (l : List α) (h : l.length = 4) : ∃ a b c d, l = [a, b, c, d] := by
  match l, h with
  | [a, b, c, d], _ => exact ⟨a, b, c, d, rfl⟩
set_option maxRecDepth 100000 in
theorem open_not : Opens 24 notR := by
  intro H enc W fuel cs y h
  obtain ⟨xs, k, hk, hxy, hcl, hxl, hf⟩ := DataW.trod_struct Try.underlying24 h
  rw [Try.cellsNot] at hcl
  obtain ⟨a0, a1, a2, a3, rfl⟩ := len4N cs hcl
  obtain ⟨y0, y1, y2, y3, rfl⟩ := len4N xs hxl
  have g0 : DataW.trod enc Try.prog W 0 (fun _ => true) true k 9 (([a0, a1, a2, a3].drop 0).take (Try.prog.cellsOf 9)) = some y0 := hf 0 _ rfl
  have g1 : DataW.trod enc Try.prog W 0 (fun _ => true) true k 3 (([a0, a1, a2, a3].drop 1).take (Try.prog.cellsOf 3)) = some y1 := hf 1 _ rfl
  have g2 : DataW.trod enc Try.prog W 0 (fun _ => true) true k 3 (([a0, a1, a2, a3].drop 2).take (Try.prog.cellsOf 3)) = some y2 := hf 2 _ rfl
  have g3 : DataW.trod enc Try.prog W 0 (fun _ => true) true k 9 (([a0, a1, a2, a3].drop 3).take (Try.prog.cellsOf 9)) = some y3 := hf 3 _ rfl
  rw [Try.cellsS12] at g0 g3
  rw [Try.cellsI12] at g1 g2
  obtain ⟨s0, h0⟩ := Opens.string Try.underlying9 _ _ _ _ _ _ g0
  obtain ⟨x1, h1⟩ := Opens.int Try.underlying3 _ _ _ _ _ _ g1
  obtain ⟨x2, h2⟩ := Opens.int Try.underlying3 _ _ _ _ _ _ g2
  obtain ⟨s3, h3⟩ := Opens.string Try.underlying9 _ _ _ _ _ _ g3
  simp [strR] at h0 h3
  simp [intR] at h1 h2
  exact ⟨(s0, x1, x2, s3), by rw [h0, h1, h2, h3]; rfl⟩
theorem SR.nn {w : World} {a : Option Addr} {n : Nat} {s : List Nt} (h : SR 4 notR w a n s) : NN w a n s := by
  obtain ⟨h1, h2, h3⟩ := h
  refine ⟨h1, h2, h3.imp id ?_⟩
  rintro ⟨b, off, ha, hc⟩
  refine ⟨b, off, ha, fun i x hx j v hj => ?_⟩
  obtain ⟨r, _, hr, hcell⟩ := hc i x hx
  rw [hr] at hcell
  exact hcell j v hj
/-- A register that came in. -/
def InNn (w : World) (v : Value) : Prop := ∃ a n cap s, v = .slice a n cap ∧ NN w a n s ∧ CP a n cap
set_option maxRecDepth 100000 in
theorem in_notes {H : Type} {enc : TypeId × Value → H} {W : World} {v : Value} {d : DataW H} {p : List MemPlace} {base : Nat} (hok : Value.okWide Try.prog W .any base 22 v) (h : DataW.Trod enc Try.prog W 0 (fun _ => true) true 22 v d p) (hw : ∀ n ∈ d.weights Try.prog 22, n ≤ reachBytes) : InNn W v := by
  obtain ⟨l, a, n, cap, hv, h1, h2⟩ := Opens.in Try.underlying22 (Opens.slice Try.underlying22 Try.cellsNot (by decide) open_not (⟨#[]⟩, 0, 0, ⟨#[]⟩)) hok h
  exact ⟨a, n, cap, l, by simpa using hv, h1.nn, h2⟩
/-- A note that came in. -/
def InNo (w : World) (v : Value) : Prop := ∃ (k : ByteArray) (ta rp : Int) (wd : ByteArray), v = .agg #[.string k, .int .i64 ta, .int .i64 rp, .string wd]
set_option maxRecDepth 100000 in
theorem in_note {H : Type} {enc : TypeId × Value → H} {W : World} {v : Value} {d : DataW H} {p : List MemPlace} {base : Nat} (hok : Value.okWide Try.prog W .any base 24 v) (h : DataW.Trod enc Try.prog W 0 (fun _ => true) true 24 v d p) (hw : ∀ n ∈ d.weights Try.prog 24, n ≤ reachBytes) : InNo W v := by
  obtain ⟨cs, rfl, hsz⟩ := okWide_struct Try.underlying24 hok
  obtain ⟨cs⟩ := cs
  obtain ⟨fuel, hf⟩ := h
  obtain ⟨⟨k, ta, rp, wd⟩, hx⟩ := open_not H enc W fuel cs (d, p) (by simpa [Value.cells] using hf)
  have hx' : cs = encN (k, ta, rp, wd) := hx
  exact ⟨k, ta, rp, wd, by rw [hx']; rfl⟩
theorem Try.arrN2 : Try.prog.underlying 38 = some (.array 2 24) := by kernel_rfl
theorem Try.cellsN2 : Try.prog.cellsOf 38 = 8 := by kernel_rfl
/-- Two notes that came in. -/
def InN2 (w : World) (v : Value) : Prop := ∃ (k : ByteArray) (ta rp : Int) (wd k' : ByteArray) (ta' rp' : Int) (wd' : ByteArray), v = .agg #[.string k, .int .i64 ta, .int .i64 rp, .string wd, .string k', .int .i64 ta', .int .i64 rp', .string wd']
set_option maxRecDepth 100000 in
theorem in_two {H : Type} {enc : TypeId × Value → H} {W : World} {v : Value} {d : DataW H} {p : List MemPlace} {base : Nat} (hok : Value.okWide Try.prog W .any base 38 v) (h : DataW.Trod enc Try.prog W 0 (fun _ => true) true 38 v d p) (hw : ∀ n ∈ d.weights Try.prog 38, n ≤ reachBytes) : InN2 W v := by
  unfold Value.okWide at hok
  rw [Try.arrN2] at hok
  obtain ⟨⟨cs⟩, rfl, hsz, _⟩ := hok
  obtain ⟨fuel, hf⟩ := h
  have hf2 : DataW.trod enc Try.prog W 0 (fun _ => true) true fuel 38 cs = some (d, p) := by simpa [Value.cells] using hf
  obtain ⟨xs, m, hm, hx, hl, hn, hg⟩ := DataW.trod_array Try.arrN2 hf2
  rw [Try.cellsN2] at hl
  obtain ⟨x0, x1, rfl⟩ := len2T xs hn
  have g0 := hg 0 (by decide)
  have g1 := hg 1 (by decide)
  rw [Try.cellsNot] at g0 g1
  obtain ⟨⟨k, ta, rp, wd⟩, h0⟩ := open_not _ _ _ _ _ _ g0
  obtain ⟨⟨k', ta', rp', wd'⟩, h1⟩ := open_not _ _ _ _ _ _ g1
  have e0 : cs.take 4 = encN (k, ta, rp, wd) := by have := h0; unfold notR at this; simpa using this
  have e1 : (cs.drop 4).take 4 = encN (k', ta', rp', wd') := by have := h1; unfold notR at this; simpa using this
  have e2 : (cs.drop 4).take 4 = cs.drop 4 := List.take_of_length_le (by rw [List.length_drop, hl]; decide)
  have e3 : cs = encN (k, ta, rp, wd) ++ encN (k', ta', rp', wd') := by rw [← e0, ← e1, e2, List.take_append_drop]
  exact ⟨k, ta, rp, wd, k', ta', rp', wd', by rw [e3]; rfl⟩
end Go.Proofs.Ytohkopjacpendaa
