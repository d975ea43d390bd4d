/- The lines of a rule set (layer 15), in plain mathematics: a line is told by its tokens up to the first one that ends it. -/
import Derived.Test.YtadmibfnjhockaaDoorM1
namespace Go.Proofs.YtadmibfnjhockaaDoor
set_option linter.unusedVariables false
/-- A deed: Kind, Name, N. A line: Kind, Strict, Name, Other, N, Does, Line. -/
abbrev Dd := Int × ByteArray × Int
abbrev Dc := Int × Bool × ByteArray × ByteArray × Int × List Dd × Int
def keptL : List ByteArray := [⟨#[115, 101, 116]⟩, ⟨#[99, 111, 117, 110, 116]⟩, ⟨#[110, 111, 116, 101]⟩, ⟨#[114, 117, 108, 101]⟩, ⟨#[111, 112]⟩, ⟨#[115, 116, 114, 105, 99, 116]⟩, ⟨#[114, 101, 102]⟩, ⟨#[98, 111, 116, 104]⟩, ⟨#[108, 105, 109, 105, 116]⟩, ⟨#[109, 111, 115, 116]⟩, ⟨#[108, 101, 97, 115, 116]⟩, ⟨#[110, 101, 101, 100, 115]⟩, ⟨#[97, 100, 100]⟩, ⟨#[100, 114, 111, 112]⟩, ⟨#[117, 112]⟩, ⟨#[100, 111, 119, 110]⟩, ⟨#[112, 117, 116]⟩]
def keptB (s : ByteArray) : Bool := keptL.any (fun x => decide (x = s))
def nameB (s : ByteArray) : Bool := wordB (bytesL s) && !keptB s
/-- What is asked of the token at a place. -/
def isU (U : List Tk) (i : Nat) (k : Int) : Bool := match U[i]? with
  | some t => decide (t.1 = k)
  | none => false
def txtU (U : List Tk) (i : Nat) : ByteArray := match U[i]? with
  | some t => if t.1 = 1 then t.2.1 else ⟨#[]⟩
  | none => ⟨#[]⟩
def numU (U : List Tk) (i : Nat) : Int := match U[i]? with
  | some t => t.2.2.1
  | none => 0
def namU (U : List Tk) (i : Nat) : Bool := match U[i]? with
  | some t => decide (t.1 = 1) && !keptB t.2.1
  | none => false
/-- How many tokens are as a form says (110: a name, 100: a number). -/
def frmU (U : List Tk) : Nat → List Int → Nat
  | _, [] => 0
  | i, c :: cs => if (if c = 110 then namU U i else isU U i 2) = true then frmU U (i + 1) cs + 1 else 0
def ruleU (s : ByteArray) : Int × List Int :=
  if s = ⟨#[114, 101, 102]⟩ then (4, [110, 110]) else
  if s = ⟨#[98, 111, 116, 104]⟩ then (5, [110, 110]) else
  if s = ⟨#[110, 101, 101, 100, 115]⟩ then (9, [110, 110]) else
  if s = ⟨#[108, 105, 109, 105, 116]⟩ then (6, [110, 100]) else
  if s = ⟨#[109, 111, 115, 116]⟩ then (7, [110, 100]) else
  if s = ⟨#[108, 101, 97, 115, 116]⟩ then (8, [110, 100]) else
  (0, [])
def deedU (s : ByteArray) : Int × List Int :=
  if s = ⟨#[97, 100, 100]⟩ then (1, [110]) else
  if s = ⟨#[100, 114, 111, 112]⟩ then (2, [110]) else
  if s = ⟨#[112, 117, 116]⟩ then (6, [110]) else
  if s = ⟨#[117, 112]⟩ then (3, [110, 100]) else
  if s = ⟨#[100, 111, 119, 110]⟩ then (4, [110, 100]) else
  (0, [])
/-- An operation's deeds, from a colon or a comma on. -/
def opU (U : List Tk) : Nat → Nat → List Dd → List Dd × Nat × Bool
  | 0, i, ds => (ds, i, false)
  | f + 1, i, ds =>
    let q := deedU (txtU U (i + 1))
    if q.1 = 0 then (ds, i + 1, false)
    else
      let k := frmU U (i + 2) q.2
      if k < q.2.length then (ds, i + 2 + k, false)
      else
        let ds2 := ds ++ [(q.1, txtU U (i + 2), if q.2.length = 2 then numU U (i + 3) else 0)]
        if isU U (i + 2 + k) 4 = false ∨ ds2.length = 16 then (ds2, i + 2 + k, true) else opU U f (i + 2 + k) ds2
/-- The line that tokens are; how far they fit; whether they do. -/
def dclU (U : List Tk) : Dc × Nat × Bool :=
  let s := txtU U 0
  let z : Dc := (0, false, ⟨#[]⟩, ⟨#[]⟩, 0, [], 0)
  if s = ⟨#[115, 101, 116]⟩ ∨ s = ⟨#[99, 111, 117, 110, 116]⟩ ∨ s = ⟨#[110, 111, 116, 101]⟩ then
    if namU U 1 = true then ((if s = ⟨#[115, 101, 116]⟩ then 1 else if s = ⟨#[99, 111, 117, 110, 116]⟩ then 2 else 3, false, txtU U 1, ⟨#[]⟩, 0, [], 0), 2, true) else (z, 1, false)
  else if s = ⟨#[111, 112]⟩ then
    if namU U 1 = false then ((10, false, ⟨#[]⟩, ⟨#[]⟩, 0, [], 0), 1, false)
    else if isU U 2 3 = false then ((10, false, txtU U 1, ⟨#[]⟩, 0, [], 0), 2, false)
    else
      let r := opU U 17 2 []
      ((10, false, txtU U 1, ⟨#[]⟩, 0, r.1, 0), r.2)
  else if s = ⟨#[114, 117, 108, 101]⟩ then
    let st := decide (txtU U 1 = ⟨#[115, 116, 114, 105, 99, 116]⟩)
    let i := if st = true then 2 else 1
    let q := ruleU (txtU U i)
    if q.1 = 0 then ((0, st, ⟨#[]⟩, ⟨#[]⟩, 0, [], 0), i, false)
    else
      let k := frmU U (i + 1) q.2
      if k < 2 then ((0, st, ⟨#[]⟩, ⟨#[]⟩, 0, [], 0), i + 1 + k, false)
      else ((q.1, st, txtU U (i + 1), txtU U (i + 2), numU U (i + 2), [], 0), i + 3, true)
  else (z, 0, false)
def lnD (d : Dc) (n : Int) : Dc := (d.1, d.2.1, d.2.2.1, d.2.2.2.1, d.2.2.2.2.1, d.2.2.2.2.2.1, n)
/-- Does a token not end a line? -/
def inU (t : Tk) : Bool := decide (t.1 ≠ 0 ∧ t.1 ≠ 5)
/-- The lines of tokens. -/
def linP : Nat → List Tk → List Dc → Except (Int × Int) (List Dc)
  | 0, _, out => .ok out
  | f + 1, l, out => match l with
    | [] => .ok out
    | t :: r =>
      if t.1 = 0 then .ok out
      else if t.1 = 5 then linP f r out
      else if out.length = 60 then .error (t.2.2.2, 7)
      else
        let U := (t :: r).takeWhile inU
        let q := dclU U
        if q.2.2 = false ∨ q.2.1 ≠ U.length then .error ((((t :: r)[q.2.1]?).getD (0, ⟨#[]⟩, 0, 0)).2.2.2, 2)
        else linP f ((t :: r).drop U.length) (out ++ [lnD q.1 t.2.2.2])
/-- A line's tokens, so many lines further on, say the same. -/
theorem isU_sh (d : Int) (U : List Tk) (i : Nat) (k : Int) : isU (U.map (shT d)) i k = isU U i k := by
  unfold isU
  rw [List.getElem?_map]
  cases U[i]? <;> rfl
theorem txtU_sh (d : Int) (U : List Tk) (i : Nat) : txtU (U.map (shT d)) i = txtU U i := by
  unfold txtU
  rw [List.getElem?_map]
  cases U[i]? <;> rfl
theorem numU_sh (d : Int) (U : List Tk) (i : Nat) : numU (U.map (shT d)) i = numU U i := by
  unfold numU
  rw [List.getElem?_map]
  cases U[i]? <;> rfl
theorem namU_sh (d : Int) (U : List Tk) (i : Nat) : namU (U.map (shT d)) i = namU U i := by
  unfold namU
  rw [List.getElem?_map]
  cases U[i]? <;> rfl
theorem frmU_sh (d : Int) (U : List Tk) : ∀ (cs : List Int) (i : Nat), frmU (U.map (shT d)) i cs = frmU U i cs
  | [], i => rfl
  | c :: cs, i => by
    rw [frmU, frmU, namU_sh, isU_sh, frmU_sh d U cs]
theorem opU_sh (d : Int) (U : List Tk) : ∀ (f i : Nat) (ds : List Dd), opU (U.map (shT d)) f i ds = opU U f i ds
  | 0, i, ds => rfl
  | f + 1, i, ds => by
    simp only [opU, txtU_sh, frmU_sh, numU_sh, isU_sh, opU_sh d U f]
theorem dclU_sh (d : Int) (U : List Tk) : dclU (U.map (shT d)) = dclU U := by
  simp only [dclU, txtU_sh, frmU_sh, numU_sh, isU_sh, namU_sh, opU_sh]
theorem inU_sh (d : Int) (t : Tk) : inU (shT d t) = inU t := rfl
theorem takeU_sh (d : Int) (l : List Tk) : (l.map (shT d)).takeWhile inU = (l.takeWhile inU).map (shT d) := by
  induction l with
  | nil => rfl
  | cons t r ih =>
    rw [List.map_cons, List.takeWhile_cons, List.takeWhile_cons, inU_sh, ih]
    split <;> rfl
end Go.Proofs.YtadmibfnjhockaaDoor
