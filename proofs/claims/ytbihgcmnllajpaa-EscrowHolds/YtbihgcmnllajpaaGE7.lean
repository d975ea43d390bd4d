/- Steps that come into layer 11's theorem of rights. -/
import Derived.Test.YtbihgcmnllajpaaGE5
namespace Go.Proofs.Ytbihgcmnllajpaa
open Go.RowKit Go.ChangeShapes Go.WideShapes
set_option linter.unusedVariables false
/-- A step: Rep, From, Kind, To, N. -/
structure Sp11 where
  rep : Int
  src : Int
  kind : Int
  tgt : Int
  n : Int
def encSp (x : Sp11) : List Value := [.int .i64 x.rep, .int .i64 x.src, .int .i64 x.kind, .int .i64 x.tgt, .int .i64 x.n]
def spR : Rl Sp11 := fun _ cs x => cs = encSp x
theorem Try.cellsSp11 : Try.prog.cellsOf 46 = 5 := by kernel_rfl
set_option maxRecDepth 100000 in
theorem open_sp11 : Opens 46 spR := by
  intro H enc W fuel cs y h
  obtain ⟨xs, k, hk, hxy, hcl, hxl, hf⟩ := DataW.trod_struct Try.underlying46 h
  rw [Try.cellsSp11] at hcl
  obtain ⟨v0, v1, v2, v3, v4, rfl⟩ := len5A cs hcl
  obtain ⟨y0, y1, y2, y3, y4, rfl⟩ := len5A xs hxl
  have g0 : DataW.trod enc Try.prog W 0 (fun _ => true) true k 3 (([v0, v1, v2, v3, v4].drop 0).take (Try.prog.cellsOf 3)) = some y0 := hf 0 _ rfl
  have g1 : DataW.trod enc Try.prog W 0 (fun _ => true) true k 3 (([v0, v1, v2, v3, v4].drop 1).take (Try.prog.cellsOf 3)) = some y1 := hf 1 _ rfl
  have g2 : DataW.trod enc Try.prog W 0 (fun _ => true) true k 3 (([v0, v1, v2, v3, v4].drop 2).take (Try.prog.cellsOf 3)) = some y2 := hf 2 _ rfl
  have g3 : DataW.trod enc Try.prog W 0 (fun _ => true) true k 3 (([v0, v1, v2, v3, v4].drop 3).take (Try.prog.cellsOf 3)) = some y3 := hf 3 _ rfl
  have g4 : DataW.trod enc Try.prog W 0 (fun _ => true) true k 3 (([v0, v1, v2, v3, v4].drop 4).take (Try.prog.cellsOf 3)) = some y4 := hf 4 _ rfl
  rw [Try.cellsI11] at g0 g1 g2 g3 g4
  obtain ⟨x0, h0⟩ := Opens.int Try.underlying3 _ _ _ _ _ _ g0
  obtain ⟨x1, h1⟩ := Opens.int Try.underlying3 _ _ _ _ _ _ g1
  obtain ⟨x2, h2⟩ := Opens.int Try.underlying3 _ _ _ _ _ _ g2
  obtain ⟨x3, h3⟩ := Opens.int Try.underlying3 _ _ _ _ _ _ g3
  obtain ⟨x4, h4⟩ := Opens.int Try.underlying3 _ _ _ _ _ _ g4
  simp [intR] at h0 h1 h2 h3 h4
  exact ⟨⟨x0, x1, x2, x3, x4⟩, by rw [h0, h1, h2, h3, h4]; rfl⟩
/-- Steps in memory. -/
def SPS (w : World) (a : Option Addr) (n : Nat) (s : List Sp11) : Prop := RS encSp 5 w a n s
theorem SR.sps {w : World} {a : Option Addr} {n : Nat} {s : List Sp11} (h : SR 5 spR w a n s) : SPS w a n s := by
  obtain ⟨h1, h2, h3⟩ := h
  refine ⟨h1, h2, h3.imp id ?_⟩
  rintro ⟨b, off, ha, hc⟩
  refine ⟨b, off, ha, fun i x hx j v hj => ?_⟩
  obtain ⟨r, _, hr, hcell⟩ := hc i x hx
  rw [hr] at hcell
  exact hcell j v hj
theorem SPS.at {w : World} {b off n : Nat} {s : List Sp11} (h : SPS w (some ⟨b, off, none⟩) n s) (i : Nat) (hi : i < n) : ∃ x : Sp11, s[i]? = some x ∧ w.cell? ⟨b, off + i * 5, none⟩ = some (.int .i64 x.rep) ∧ w.cell? ⟨b, off + i * 5 + 1, none⟩ = some (.int .i64 x.src) ∧ w.cell? ⟨b, off + i * 5 + 2, none⟩ = some (.int .i64 x.kind) ∧ w.cell? ⟨b, off + i * 5 + 3, none⟩ = some (.int .i64 x.tgt) ∧ w.cell? ⟨b, off + i * 5 + 4, none⟩ = some (.int .i64 x.n) := by
  have hl : i < s.length := by rw [h.1]; exact hi
  have hx : s[i]? = some s[i] := List.getElem?_eq_getElem hl
  rcases h.2.2 with h0 | ⟨b', off', ha, hc⟩
  · omega
  · cases ha
    have q := hc i _ hx
    exact ⟨s[i], hx, q 0 _ rfl, q 1 _ rfl, q 2 _ rfl, q 3 _ rfl, q 4 _ rfl⟩
/-- Steps that came in. -/
def InSp11 (w : World) (v : Value) : Prop := ∃ a n cap s, v = .slice a n cap ∧ SPS w a n s ∧ CP a n cap
set_option maxRecDepth 100000 in
theorem in_steps11 {H : Type} {enc : TypeId × Value → H} {W : World} {v : Value} {d : DataW H} {p : List MemPlace} {base : Nat} (hok : Value.okWide Try.prog W .any base 40 v) (h : DataW.Trod enc Try.prog W 0 (fun _ => true) true 40 v d p) (hw : ∀ n ∈ d.weights Try.prog 40, n ≤ reachBytes) : InSp11 W v := by
  obtain ⟨l, a, n, cap, hv, h1, h2⟩ := Opens.in Try.underlying40 (Opens.slice Try.underlying40 Try.cellsSp11 (by decide) open_sp11 ⟨0, 0, 0, 0, 0⟩) hok h
  exact ⟨a, n, cap, l, by simpa using hv, h1.sps, h2⟩
end Go.Proofs.Ytbihgcmnllajpaa
