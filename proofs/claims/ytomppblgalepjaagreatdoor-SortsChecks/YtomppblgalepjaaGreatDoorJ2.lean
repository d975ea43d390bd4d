/- Texts of this claim, joined: L0, M2, T0, GOw. -/
import Derived.Test.YtomppblgalepjaaGreatDoorJ1
/- Tokens of a text (layer 14), in plain mathematics. -/
namespace Go.Proofs.YtomppblgalepjaaGreatDoor
set_option linter.unusedVariables false
abbrev Tk := Int × ByteArray × Int × Int
def isLt (c : Int) : Bool := decide (97 ≤ c ∧ c ≤ 122)
def isDg (c : Int) : Bool := decide (48 ≤ c ∧ c ≤ 57)
def isWd (c : Int) : Bool := isLt c || isDg c || decide (c = 45)
def wordB (l : List Int) : Bool := match l with
 | [] => false
 | c :: t => isLt c && t.all (fun x => isLt x || isDg x) && decide (t.length < 16)
def digU : Nat → Nat → List Int
 | 0, _ => []
 | f + 1, n => if n < 10 then [48 + (n : Int)] else digU f (n / 10) ++ [48 + ((n % 10 : Nat) : Int)]
def digs (n : Int) : List Int := if n < 0 then 45 :: digU 5 n.natAbs else digU 5 n.toNat
def valU (l : List Int) : Nat := (l.filter isDg).foldl (fun n c => 10 * n + (c - 48).toNat) 0
def valN (l : List Int) : Int := if l.head? = some 45 then -(valU (l.take 6) : Int) else (valU (l.take 6) : Int)
def numB (l : List Int) : Bool := decide (-9999 ≤ valN l ∧ valN l ≤ 9999 ∧ digs (valN l) = l)
def tokW (l : List Int) (ln : Int) : Option Tk := if wordB l = true then some (1, strOfNums l, 0, ln) else if numB l = true then some (2, ⟨#[]⟩, valN l, ln) else none
abbrev LxR := Except (Int × Int) (Int × List Tk)
def pushT (out : List Tk) (t : Tk) (ln2 : Int) (k : Int → List Tk → LxR) : LxR := if 800 < out.length + 1 then .error (t.2.2.2, 7) else k ln2 (out ++ [t])
def lexP : Nat → List Int → Int → List Tk → LxR
 | 0, _, ln, out => .ok (ln, out)
 | f + 1, l, ln, out => match l with
  | [] => .ok (ln, out)
  | c :: t =>
   if c = 32 ∨ c = 9 then lexP f t ln out
   else if c = 35 then lexP f (t.dropWhile (fun x => decide (x ≠ 10))) ln out
   else if c = 58 then pushT out (3, ⟨#[]⟩, 0, ln) ln (lexP f t)
   else if c = 44 then pushT out (4, ⟨#[]⟩, 0, ln) ln (lexP f t)
   else if c = 10 then pushT out (5, ⟨#[]⟩, 0, ln) (ln + 1) (lexP f t)
   else if isWd c = true then match tokW (c :: t.takeWhile isWd) ln with
    | none => .error (ln, 2)
    | some tk => pushT out tk ln (lexP f (t.dropWhile isWd))
   else .error (ln, 2)
def finL : LxR → List Tk × Int × Int
 | .error (ln, e) => ([], ln, e)
 | .ok (ln, out) => if 800 < out.length + 1 then ([], ln, 7) else (out ++ [(0, ⟨#[]⟩, 0, ln)], 0, 0)
def lexB (l : List Int) : List Tk × Int × Int := if 4096 < l.length then ([], 0, 7) else finL (lexP l.length l 1 [])
/-! Fuel does not matter, if there is enough of it -/
theorem dropW_len {p : Int → Bool} (l : List Int) : (l.dropWhile p).length ≤ l.length := by
 induction l with
 | nil => simp
 | cons c t ih =>
  rw [List.dropWhile_cons]
  split
  ·simp only [List.length_cons]; omega
  ·exact Nat.le_refl _
theorem pushT_congr {out : List Tk} {t : Tk} {ln : Int} {k k' : Int → List Tk → LxR} (h : ∀ ln out, k ln out = k' ln out) : pushT out t ln k = pushT out t ln k' := by
 unfold pushT
 rw [h]
theorem lexP_fuel : ∀ (f g : Nat) (l : List Int) (ln : Int) (out : List Tk), l.length ≤ f → l.length ≤ g → lexP f l ln out = lexP g l ln out
 | 0, 0, l, ln, out, hf, hg => rfl
 | 0, g + 1, l, ln, out, hf, hg => by
  have : l = [] := List.length_eq_zero_iff.1 (by omega)
  subst this
  rfl
 | f + 1, 0, l, ln, out, hf, hg => by
  have : l = [] := List.length_eq_zero_iff.1 (by omega)
  subst this
  rfl
 | f + 1, g + 1, [], ln, out, hf, hg => rfl
 | f + 1, g + 1, c :: t, ln, out, hf, hg => by
  have ht : t.length ≤ f := by simp only [List.length_cons] at hf; omega
  have ht2 : t.length ≤ g := by simp only [List.length_cons] at hg; omega
  have e0 : ∀ ln out, lexP f t ln out = lexP g t ln out := fun ln out => lexP_fuel f g t ln out ht ht2
  have e1 : ∀ p ln out, lexP f (t.dropWhile p) ln out = lexP g (t.dropWhile p) ln out := fun p ln out => lexP_fuel f g _ ln out (Nat.le_trans (dropW_len t) ht) (Nat.le_trans (dropW_len t) ht2)
  simp only [lexP]
  rw [e0, e1, pushT_congr e0, pushT_congr (ln := ln) e0, pushT_congr (ln := ln + 1) e0]
  split
  ·rfl
  split
  ·rfl
  split
  ·rfl
  split
  ·rfl
  split
  ·rfl
  split
  ·split
   ·rfl
   ·exact pushT_congr (e1 isWd)
  ·rfl
theorem tokW_line {l : List Int} {ln : Int} {tk : Tk} (h : tokW l ln = some tk) : tk.2.2.2 = ln := by
 unfold tokW at h
 split at h
 ·cases h; rfl
 ·split at h
  ·cases h; rfl
  ·cases h
end Go.Proofs.YtomppblgalepjaaGreatDoor

/- The lines of a rule set (layer 15), in plain mathematics: a line is told by its tokens up to the first one that ends it. -/
namespace Go.Proofs.YtomppblgalepjaaGreatDoor
set_option linter.unusedVariables false
abbrev Dd := Int × ByteArray × Int
abbrev Dc := Int × Bool × ByteArray × ByteArray × Int × List Dd × Int
def keptL : List ByteArray := [⟨#[115, 101, 116]⟩, ⟨#[99, 111, 117, 110, 116]⟩, ⟨#[110, 111, 116, 101]⟩, ⟨#[114, 117, 108, 101]⟩, ⟨#[111, 112]⟩, ⟨#[115, 116, 114, 105, 99, 116]⟩, ⟨#[114, 101, 102]⟩, ⟨#[98, 111, 116, 104]⟩, ⟨#[108, 105, 109, 105, 116]⟩, ⟨#[109, 111, 115, 116]⟩, ⟨#[108, 101, 97, 115, 116]⟩, ⟨#[110, 101, 101, 100, 115]⟩, ⟨#[97, 100, 100]⟩, ⟨#[100, 114, 111, 112]⟩, ⟨#[117, 112]⟩, ⟨#[100, 111, 119, 110]⟩, ⟨#[112, 117, 116]⟩]
def keptB (s : ByteArray) : Bool := keptL.any (fun x => decide (x = s))
def nameB (s : ByteArray) : Bool := wordB (bytesL s) && !keptB s
def isU (U : List Tk) (i : Nat) (k : Int) : Bool := match U[i]? with
 | some t => decide (t.1 = k)
 | none => false
def txtU (U : List Tk) (i : Nat) : ByteArray := match U[i]? with
 | some t => if t.1 = 1 then t.2.1 else ⟨#[]⟩
 | none => ⟨#[]⟩
def numU (U : List Tk) (i : Nat) : Int := match U[i]? with
 | some t => t.2.2.1
 | none => 0
def namU (U : List Tk) (i : Nat) : Bool := match U[i]? with
 | some t => decide (t.1 = 1) && !keptB t.2.1
 | none => false
def frmU (U : List Tk) : Nat → List Int → Nat
 | _, [] => 0
 | i, c :: cs => if (if c = 110 then namU U i else isU U i 2) = true then frmU U (i + 1) cs + 1 else 0
def ruleU (s : ByteArray) : Int × List Int :=
 if s = ⟨#[114, 101, 102]⟩ then (4, [110, 110]) else
 if s = ⟨#[98, 111, 116, 104]⟩ then (5, [110, 110]) else
 if s = ⟨#[110, 101, 101, 100, 115]⟩ then (9, [110, 110]) else
 if s = ⟨#[108, 105, 109, 105, 116]⟩ then (6, [110, 100]) else
 if s = ⟨#[109, 111, 115, 116]⟩ then (7, [110, 100]) else
 if s = ⟨#[108, 101, 97, 115, 116]⟩ then (8, [110, 100]) else
 (0, [])
def deedU (s : ByteArray) : Int × List Int :=
 if s = ⟨#[97, 100, 100]⟩ then (1, [110]) else
 if s = ⟨#[100, 114, 111, 112]⟩ then (2, [110]) else
 if s = ⟨#[112, 117, 116]⟩ then (6, [110]) else
 if s = ⟨#[117, 112]⟩ then (3, [110, 100]) else
 if s = ⟨#[100, 111, 119, 110]⟩ then (4, [110, 100]) else
 (0, [])
def opU (U : List Tk) : Nat → Nat → List Dd → List Dd × Nat × Bool
 | 0, i, ds => (ds, i, false)
 | f + 1, i, ds =>
  let q := deedU (txtU U (i + 1))
  if q.1 = 0 then (ds, i + 1, false)
  else
   let k := frmU U (i + 2) q.2
   if k < q.2.length then (ds, i + 2 + k, false)
   else
    let ds2 := ds ++ [(q.1, txtU U (i + 2), if q.2.length = 2 then numU U (i + 3) else 0)]
    if isU U (i + 2 + k) 4 = false ∨ ds2.length = 16 then (ds2, i + 2 + k, true) else opU U f (i + 2 + k) ds2
def dclU (U : List Tk) : Dc × Nat × Bool :=
 let s := txtU U 0
 let z : Dc := (0, false, ⟨#[]⟩, ⟨#[]⟩, 0, [], 0)
 if s = ⟨#[115, 101, 116]⟩ ∨ s = ⟨#[99, 111, 117, 110, 116]⟩ ∨ s = ⟨#[110, 111, 116, 101]⟩ then
  if namU U 1 = true then ((if s = ⟨#[115, 101, 116]⟩ then 1 else if s = ⟨#[99, 111, 117, 110, 116]⟩ then 2 else 3, false, txtU U 1, ⟨#[]⟩, 0, [], 0), 2, true) else (z, 1, false)
 else if s = ⟨#[111, 112]⟩ then
  if namU U 1 = false then ((10, false, ⟨#[]⟩, ⟨#[]⟩, 0, [], 0), 1, false)
  else if isU U 2 3 = false then ((10, false, txtU U 1, ⟨#[]⟩, 0, [], 0), 2, false)
  else
   let r := opU U 17 2 []
   ((10, false, txtU U 1, ⟨#[]⟩, 0, r.1, 0), r.2)
 else if s = ⟨#[114, 117, 108, 101]⟩ then
  let st := decide (txtU U 1 = ⟨#[115, 116, 114, 105, 99, 116]⟩)
  let i := if st = true then 2 else 1
  let q := ruleU (txtU U i)
  if q.1 = 0 then ((0, st, ⟨#[]⟩, ⟨#[]⟩, 0, [], 0), i, false)
  else
   let k := frmU U (i + 1) q.2
   if k < 2 then ((0, st, ⟨#[]⟩, ⟨#[]⟩, 0, [], 0), i + 1 + k, false)
   else ((q.1, st, txtU U (i + 1), txtU U (i + 2), numU U (i + 2), [], 0), i + 3, true)
 else (z, 0, false)
def lnD (d : Dc) (n : Int) : Dc := (d.1, d.2.1, d.2.2.1, d.2.2.2.1, d.2.2.2.2.1, d.2.2.2.2.2.1, n)
def inU (t : Tk) : Bool := decide (t.1 ≠ 0 ∧ t.1 ≠ 5)
end Go.Proofs.YtomppblgalepjaaGreatDoor

/- Rules of lines (layer 16), in plain mathematics: which rules there may be; the rules that lines say; what is told may be. -/
namespace Go.Proofs.YtomppblgalepjaaGreatDoor
set_option linter.unusedVariables false
abbrev Cl := Int × Bool × Int × Int × Int
abbrev Dg := Int × Int × Int
abbrev Op := ByteArray × List Dg
abbrev Ru := List ByteArray × List ByteArray × List ByteArray × List Cl × List Op
def zeroR : Ru := ([], [], [], [], [])
def allR (r : Ru) : List ByteArray := r.1 ++ r.2.1 ++ r.2.2.1 ++ r.2.2.2.2.map (·.1)
def atF (s : ByteArray) : Nat → List ByteArray → Int
 | _, [] => -1
 | i, x :: t => if x = s then (i : Int) else atF s (i + 1) t
def atL (l : List ByteArray) (s : ByteArray) : Int := atF s 0 l
theorem atF_neg (s : ByteArray) : ∀ (i : Nat) (l : List ByteArray), atF s i l < 0 ↔ s ∉ l
 | i, [] => by simp [atF]
 | i, x :: t => by
  rw [atF]
  by_cases h : x = s
  ·rw [if_pos h, h]
   simp only [List.mem_cons, true_or, not_true_eq_false, iff_false]
   omega
  ·rw [if_neg h, atF_neg s (i + 1) t, List.mem_cons]
   exact ⟨fun q => by rintro (e | e); exact h e.symm; exact q e, fun q e => q (.inr e)⟩
theorem atL_neg (l : List ByteArray) (s : ByteArray) : atL l s < 0 ↔ s ∉ l := atF_neg s 0 l
def allN (n : Nat) (f : Nat → Bool) : Bool := (List.range n).all f
theorem allN_succ (n : Nat) (f : Nat → Bool) : allN (n + 1) f = (allN n f && f n) := by
 unfold allN
 rw [List.range_succ, List.all_append]
 simp
theorem allN_iff {n : Nat} {f : Nat → Bool} : allN n f = true ↔ ∀ i, i < n → f i = true := by
 unfold allN
 rw [List.all_eq_true]
 exact ⟨fun h i hi => h i (List.mem_range.2 hi), fun h i hi => h i (List.mem_range.1 hi)⟩
theorem allN_bad {n i : Nat} {f : Nat → Bool} (hi : i < n) (h : f i = false) : allN n f = false := by
 cases hq : allN n f
 ·rfl
 ·rw [allN_iff.1 hq i hi] at h; cases h
def okN (l : List ByteArray) (i : Nat) : Bool := match l[i]? with
 | some s => nameB s && decide (atL (l.take i) s < 0)
 | none => true
def unlB (l : List ByteArray) : Bool := allN l.length (okN l)
theorem unlB_iff {l : List ByteArray} : unlB l = true ↔ (∀ x ∈ l, nameB x = true) ∧ l.Nodup := by
 unfold unlB
 rw [allN_iff]
 constructor
 ·intro h
  have h2 : ∀ i x, l[i]? = some x → nameB x = true ∧ x ∉ l.take i := fun i x hx => by
   have q := h i (List.getElem?_eq_some_iff.1 hx).1
   unfold okN at q
   rw [hx] at q
   simp only [Bool.and_eq_true, decide_eq_true_iff, atL_neg] at q
   exact q
  refine ⟨fun x hx => ?_, ?_⟩
  ·obtain ⟨i, hi⟩ := List.getElem?_of_mem hx
   exact (h2 i x hi).1
  ·refine List.pairwise_iff_getElem.2 (fun i j hi hj hij e => ?_)
   refine (h2 j _ (List.getElem?_eq_getElem hj)).2 ?_
   rw [List.mem_take_iff_getElem]
   exact ⟨i, by omega, e⟩
 ·rintro ⟨h1, h2⟩ i hi
  unfold okN
  rw [List.getElem?_eq_getElem hi]
  simp only [Bool.and_eq_true, decide_eq_true_iff, atL_neg]
  refine ⟨h1 _ (List.getElem_mem hi), fun hm => ?_⟩
  rw [List.mem_take_iff_getElem] at hm
  obtain ⟨j, hj, he⟩ := hm
  exact List.pairwise_iff_getElem.1 h2 j i (by omega) hi (by omega) he
def inR (n many : Int) : Bool := decide (0 ≤ n ∧ n < many)
def clB (s c : Int) (x : Cl) : Bool :=
 if x.1 = 4 ∨ x.1 = 5 then inR x.2.2.1 s && inR x.2.2.2.1 s && decide (x.2.2.1 ≠ x.2.2.2.1) && decide (x.2.2.2.2 = 0)
 else if x.1 = 9 then inR x.2.2.1 c && inR x.2.2.2.1 s && decide (x.2.2.2.2 = 0)
 else if x.1 = 6 then inR x.2.2.1 s && decide (x.2.2.2.1 = 0) && decide (0 ≤ x.2.2.2.2) && decide (x.2.2.2.2 ≤ 1000) && !x.2.1
 else if x.1 = 7 then inR x.2.2.1 c && decide (x.2.2.2.1 = 0) && decide (0 ≤ x.2.2.2.2) && decide (x.2.2.2.2 ≤ 1000) && !x.2.1
 else if x.1 = 8 then inR x.2.2.1 c && decide (x.2.2.2.1 = 0) && decide (-1000 ≤ x.2.2.2.2) && decide (x.2.2.2.2 ≤ 0) && x.2.1
 else false
def srt (k : Int) : Nat := if k = 1 ∨ k = 2 then 1 else if k = 3 ∨ k = 4 then 2 else if k = 6 then 3 else 0
def manyR (a b c : Int) : Nat → Int
 | 1 => a
 | 2 => b
 | 3 => c
 | _ => 0
def twoB (ds : List Dg) (d : Dg) (k : Nat) : Bool := match ds[k]? with
 | some x => !(decide (srt x.1 = srt d.1) && decide (x.2.1 = d.2.1))
 | none => true
def dgB (a b c : Int) (d : Dg) : Bool := inR d.2.1 (manyR a b c (srt d.1)) && (if srt d.1 = 2 then decide (1 ≤ d.2.2) && decide (d.2.2 ≤ 1000) else decide (d.2.2 = 0))
def doB (a b c : Int) (ds : List Dg) (i : Nat) : Bool := match ds[i]? with
 | some d => dgB a b c d && allN i (twoB ds d)
 | none => true
def opB (a b c : Int) (ds : List Dg) : Bool := allN ds.length (doB a b c ds) && (decide (1 ≤ ds.length) && decide (ds.length ≤ 16))
def fl2 (cs : List Cl) (c : Cl) (k : Nat) : Bool := match cs[k]? with
 | some x => !(decide (c.1 = 8) && decide (x.1 = 8) && decide (c.2.2.1 = x.2.2.1))
 | none => true
def fl1 (cs : List Cl) (i : Nat) : Bool := match cs[i]? with
 | some c => allN i (fl2 cs c)
 | none => true
def flB (cs : List Cl) : Bool := allN cs.length (fl1 cs)
def fitR (r : Ru) : Bool := decide (r.1.length ≤ 6) && decide (r.2.1.length ≤ 4) && decide (r.2.2.1.length ≤ 3) && decide (r.2.2.2.2.length ≤ 16) && decide (r.2.2.2.1.length ≤ 12)
def clsB (r : Ru) : Bool := r.2.2.2.1.all (clB r.1.length r.2.1.length)
def opsB (r : Ru) : Bool := r.2.2.2.2.all (fun o => opB r.1.length r.2.1.length r.2.2.1.length o.2)
def mayR (r : Ru) : Bool := fitR r && unlB (allR r) && flB r.2.2.2.1 && clsB r && opsB r
end Go.Proofs.YtomppblgalepjaaGreatDoor

/- Rows of the call's own beside each other. -/
namespace Go.Proofs.YtomppblgalepjaaGreatDoor
open Go.RowKit Go.Lib
set_option linter.unusedVariables false
section
variable {α β : Type} {enc : α → List Value} {enc' : β → List Value} {k k' : Nat} {T T' : TypeId}
theorem OwnR.grown {N : Nat} {w w' : World} {r : Option Nat} {v : Value} {l : List α} (h : OwnR enc k T N w v l) (hg : w.grownBy w' r) (hr : ∀ g, v.ownBlock = some g → r ≠ some g) : OwnR enc k T N w' v l := by
 refine ⟨h.1, ?_⟩
 rcases h.2 with hn | ⟨g, cap, cur, rfl, hb', hgg, rest⟩
 ·exact .inl hn
 ·refine .inr ⟨g, cap, cur, rfl, hb', ?_, rest⟩
  rw [hg.block g (Array.getElem?_eq_some_iff.1 hgg).1 (fun e => hr g (by simp [Value.ownBlock]) e.symm)]
  exact hgg
theorem OwnR.apart {N N' : Nat} {w : World} {v v' : Value} {l : List α} {l' : List β} (h : OwnR enc k T N w v l) (h' : OwnR enc' k' T' N' w v' l') (hne : T ≠ T') : ∀ g, v.ownBlock = some g → v'.ownBlock ≠ some g := by
 intro g e e'
 rcases h.2 with ⟨rfl, _⟩ | ⟨g1, cap, cur, rfl, _, hg, _⟩
 ·simp [Value.ownBlock] at e
 ·rcases h'.2 with ⟨rfl, _⟩ | ⟨g2, cap2, cur2, rfl, _, hg2, _⟩
  ·simp [Value.ownBlock] at e'
  ·simp [Value.ownBlock] at e e'
   subst e
   subst e'
   rw [hg] at hg2
   simp at hg2
   exact hne hg2.2
theorem OwnR.old {N : Nat} {w : World} {v : Value} {l : List α} (h : OwnR enc k T N w v l) {g : Nat} (hg : w.heap.size ≤ g) : v.ownBlock ≠ some g := by
 rcases h.2 with ⟨rfl, _⟩ | ⟨g1, cap, cur, rfl, _, hgg, _⟩
 ·intro hh; simp [Value.ownBlock] at hh
 ·intro hh
  simp [Value.ownBlock] at hh
  have := (Array.getElem?_eq_some_iff.1 hgg).1
  omega
end
end Go.Proofs.YtomppblgalepjaaGreatDoor

