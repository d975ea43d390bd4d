/- Records and acts of a journal that came in (layer 7). -/
import Derived.Test.YtofalfaiamaapaaJ1
import Derived.Test.YtofalfaiamaapaaGW
namespace Go.Proofs.Ytofalfaiamaapaa
open Go.RowKit Go.ChangeShapes Go.WideShapes
set_option linter.unusedVariables false
theorem Try.cellsRec : Try.prog.cellsOf 71 = 2 := by kernel_rfl
theorem Try.cellsRecs : Try.prog.cellsOf 30 = 1 := by kernel_rfl
theorem Try.cellsA7 : Try.prog.cellsOf 52 = 2 := by kernel_rfl
theorem Try.cellsI1 : Try.prog.cellsOf 3 = 1 := by kernel_rfl
theorem Try.cellsU1 : Try.prog.cellsOf 5 = 1 := by kernel_rfl
theorem Try.cellsB1 : Try.prog.cellsOf 22 = 1 := by kernel_rfl
theorem Try.bytesU1 : Try.prog.bytesOf 5 = 1 := by kernel_rfl
theorem SR.imp {α : Type} {k : Nat} {R R' : Rl α} {w : World} {a : Option Addr} {n : Nat} {l : List α} (h : ∀ r x, R w r x → R' w r x) (hs : SR k R w a n l) : SR k R' w a n l := by
  obtain ⟨h1, h2, h3⟩ := hs
  refine ⟨h1, h2, h3.imp id ?_⟩
  rintro ⟨b, off, e, hc⟩
  refine ⟨b, off, e, fun i x hi => ?_⟩
  obtain ⟨r, q1, q2, q3⟩ := hc i x hi
  exact ⟨r, q1, h r x q2, q3⟩
theorem SR.all {α : Type} {k : Nat} {R : Rl α} {w : World} {a : Option Addr} {n : Nat} {l : List α} (Q : α → Prop) (h : ∀ r x, R w r x → Q x) (hs : SR k R w a n l) : ∀ x ∈ l, Q x := by
  intro x hx
  obtain ⟨i, hi, rfl⟩ := List.getElem_of_mem hx
  obtain ⟨h1, h2, h3⟩ := hs
  rcases h3 with h3 | ⟨b, off, e, hc⟩
  · omega
  · obtain ⟨r, q1, q2, q3⟩ := hc i _ (List.getElem?_eq_getElem hi)
    exact h r _ q2
/-- A record whose bytes memory can hold. -/
def recW : Rl Rc := fun w cs x => recR w cs x ∧ x.b.length ≤ 140737488351232
theorem len2 {α : Type} (l : List α) (h : l.length = 2) : ∃ a b, l = [a, b] := by
  match l, h with
  | [a, b], _ => exact ⟨a, b, rfl⟩
set_option maxRecDepth 100000 in
theorem open_rec : OpensW 71 recW := by
  intro H enc W fuel cs y h hw
  obtain ⟨xs, k, hk, hxy, hcl, hxl, hf⟩ := DataW.trod_struct Try.underlying71 h
  rw [Try.cellsRec] at hcl
  obtain ⟨v0, v1, rfl⟩ := len2 cs hcl
  obtain ⟨y0, y1, rfl⟩ := len2 xs hxl
  have g0 : DataW.trod enc Try.prog W 0 (fun _ => true) true k 3 (([v0, v1].drop 0).take (Try.prog.cellsOf 3)) = some y0 := hf 0 _ rfl
  have g1 : DataW.trod enc Try.prog W 0 (fun _ => true) true k 22 (([v0, v1].drop 1).take (Try.prog.cellsOf 22)) = some y1 := hf 1 _ rfl
  rw [Try.cellsI1] at g0
  rw [Try.cellsB1] at g1
  obtain ⟨a0, h0⟩ := Opens.int Try.underlying3 _ _ _ _ _ _ g0
  obtain ⟨l1, p1, n1, c1, h1, q1, r1, s1⟩ := OpensW.bytes Try.underlying22 Try.underlying5 Try.cellsU1 Try.bytesU1 _ _ _ _ _ _ g1 (fun n hn => hw n (by
    rw [hxy]
    simp only [DataW.weights, Try.underlying71]
    exact DataW.weights_mem_each (j := 1) (t := 22) (d := y1.1) rfl rfl n hn))
  simp [intR] at h0 h1
  subst h0 h1
  exact ⟨⟨a0, l1⟩, ⟨p1, n1, c1, rfl, q1, r1⟩, s1⟩
theorem open_recs : OpensW 30 (fun w cs (l : List Rc) => ∃ a n cap, cs = [.slice a n cap] ∧ SR 2 recW w a n l ∧ CP a n cap) := OpensW.slice Try.underlying30 Try.cellsRec (by decide) open_rec ⟨0, []⟩
/-- Records that came in. -/
def InRs (w : World) (v : Value) : Prop := ∃ a n cap l, v = .slice a n cap ∧ RC w a n l ∧ CP a n cap ∧ ∀ y ∈ l, y.b.length ≤ 140737488351232
set_option maxRecDepth 100000 in
theorem in_recs {H : Type} {enc : TypeId × Value → H} {W : World} {v : Value} {d : DataW H} {p : List MemPlace} {base : Nat} (hok : Value.okWide Try.prog W .any base 30 v) (h : DataW.Trod enc Try.prog W 0 (fun _ => true) true 30 v d p) (hw : ∀ n ∈ d.weights Try.prog 30, n ≤ reachBytes) : InRs W v := by
  obtain ⟨l, a, n, cap, hv, h1, h2⟩ := OpensW.in Try.underlying30 open_recs hok h hw
  exact ⟨a, n, cap, l, by simpa using hv, h1.imp (fun _ _ q => q.1), h2, h1.all _ (fun _ _ q => q.2)⟩
/-- Something that is done with a journal. -/
structure A7 where
  o : Int
  l : List Rc
def a7R : Rl A7 := fun w cs x => ∃ p n c, cs = [.int .i64 x.o, .slice p n c] ∧ RC w p n x.l ∧ CP p n c
theorem a7R.stb : Stb a7R := fun w w' r x hx ⟨p, n, c, h1, h2, h3⟩ => ⟨p, n, c, h1, h2.ext recR.stb hx, h3⟩
def a7W : Rl A7 := fun w cs x => ∃ p n c, cs = [.int .i64 x.o, .slice p n c] ∧ SR 2 recW w p n x.l ∧ CP p n c
abbrev AS7 (w : World) (a : Option Addr) (n : Nat) (l : List A7) : Prop := SR 2 a7R w a n l
set_option maxRecDepth 100000 in
theorem open_a7 : OpensW 52 a7W := by
  intro H enc W fuel cs y h hw
  obtain ⟨xs, k, hk, hxy, hcl, hxl, hf⟩ := DataW.trod_struct Try.underlying52 h
  rw [Try.cellsA7] at hcl
  obtain ⟨v0, v1, rfl⟩ := len2 cs hcl
  obtain ⟨y0, y1, rfl⟩ := len2 xs hxl
  have g0 : DataW.trod enc Try.prog W 0 (fun _ => true) true k 3 (([v0, v1].drop 0).take (Try.prog.cellsOf 3)) = some y0 := hf 0 _ rfl
  have g1 : DataW.trod enc Try.prog W 0 (fun _ => true) true k 30 (([v0, v1].drop 1).take (Try.prog.cellsOf 30)) = some y1 := hf 1 _ rfl
  rw [Try.cellsI1] at g0
  rw [Try.cellsRecs] at g1
  obtain ⟨a0, h0⟩ := Opens.int Try.underlying3 _ _ _ _ _ _ g0
  obtain ⟨l1, p1, n1, c1, h1, q1, r1⟩ := open_recs _ _ _ _ _ _ g1 (fun n hn => hw n (by
    rw [hxy]
    simp only [DataW.weights, Try.underlying52]
    exact DataW.weights_mem_each (j := 1) (t := 30) (d := y1.1) rfl rfl n hn))
  simp [intR] at h0 h1
  subst h0 h1
  exact ⟨⟨a0, l1⟩, p1, n1, c1, rfl, q1, r1⟩
/-- Acts that came in. -/
def InA7 (w : World) (v : Value) : Prop := ∃ a n cap l, v = .slice a n cap ∧ AS7 w a n l ∧ CP a n cap ∧ ∀ x ∈ l, ∀ y ∈ x.l, y.b.length ≤ 140737488351232
set_option maxRecDepth 100000 in
theorem in_acts7 {H : Type} {enc : TypeId × Value → H} {W : World} {v : Value} {d : DataW H} {p : List MemPlace} {base : Nat} (hok : Value.okWide Try.prog W .any base 40 v) (h : DataW.Trod enc Try.prog W 0 (fun _ => true) true 40 v d p) (hw : ∀ n ∈ d.weights Try.prog 40, n ≤ reachBytes) : InA7 W v := by
  obtain ⟨l, a, n, cap, hv, h1, h2⟩ := OpensW.in Try.underlying40 (OpensW.slice Try.underlying40 Try.cellsA7 (by decide) open_a7 ⟨0, []⟩) hok h hw
  refine ⟨a, n, cap, l, by simpa using hv, h1.imp ?_, h2, h1.all _ ?_⟩
  · rintro r x ⟨p, m, c, e, q1, q2⟩
    exact ⟨p, m, c, e, q1.imp (fun _ _ q => q.1), q2⟩
  · rintro r x ⟨p, m, c, e, q1, q2⟩
    exact q1.all _ (fun _ _ q => q.2)
end Go.Proofs.Ytofalfaiamaapaa
