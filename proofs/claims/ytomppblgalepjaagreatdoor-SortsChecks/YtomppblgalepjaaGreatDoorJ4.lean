/- Texts of this claim, joined: GRel, GPut, L6, M4, NG. -/
import Derived.SizedLaws
import Derived.Deep.Matrix
import Derived.Deep.SlicePairs
import Derived.Lib.SmallJoins
import Derived.OpenShut
import Derived.ProofKit
import Derived.Test.YtomppblgalepjaaGreatDoorJ1
import Derived.Test.YtomppblgalepjaaGreatDoorJ2
import Derived.Test.YtomppblgalepjaaGreatDoorJ3
/- What lies in memory, told by relations that are put together of parts; what a statement is told of values that came in. -/
namespace Go.Proofs.YtomppblgalepjaaGreatDoor
open Go.RowKit Go.ChangeShapes Go.WideShapes
set_option linter.unusedVariables false

abbrev Rl (α : Type) := World → List Value → α → Prop
def SR {α : Type} (k : Nat) (R : Rl α) (w : World) (a : Option Addr) (n : Nat) (l : List α) : Prop :=
 l.length = n ∧ n ≤ maxLen ∧ (n = 0 ∨ ∃ b off, a = some ⟨b, off, none⟩ ∧ ∀ i x, l[i]? = some x → ∃ r, r.length = k ∧ R w r x ∧ ∀ j v, r[j]? = some v → w.cell? ⟨b, off + i * k + j, none⟩ = some v)
section
variable {α : Type} {k : Nat} {R : Rl α}
theorem SR.nil (w : World) (p : Option Addr) : SR k R w p 0 [] := ⟨rfl, by decide, .inl rfl⟩
end
def Opens {α : Type} (T : TypeId) (R : Rl α) : Prop := ∀ (H : Type) (enc : TypeId × Value → H) (W : World) (fuel : Nat) (cs : List Value) (y : DataW H × List MemPlace), DataW.trod enc Tryz.prog W 0 (fun _ => true) true fuel T cs = some y → ∃ x, R W cs x
theorem Opens.slice {α : Type} {T E : TypeId} {R : Rl α} {k : Nat} (hu : Tryz.prog.underlying T = some (.slice E)) (hk : Tryz.prog.cellsOf E = k) (hk0 : 0 < k) (hE : Opens E R) (d : α) :
  Opens T (fun w cs (l : List α) => ∃ a n cap, cs = [.slice a n cap] ∧ SR k R w a n l ∧ CP a n cap) := by
 intro H enc W fuel cs y h
 rcases Deep.open_slice hu h with ⟨hcs, _⟩ | ⟨a, len, cap, m, n, D, Pl, hcs, _, hl, hm, hmm, _, hx⟩
 ·exact ⟨[], _, _, _, hcs, SR.nil _ _, Nat.le_refl _, by decide, fun _ => rfl⟩
 ·have hmm' : m = cap := by simpa using hmm
  subst hmm'
  rw [hk] at hx
  have each : ∀ i, i < len → ∃ p : α × List Value, p.2.length = k ∧ R W p.2 p.1 ∧ ∀ j u, p.2[j]? = some u → W.cell? (a.add (i * k + j)) = some u := by
   intro i hi
   obtain ⟨cs', h1, h2⟩ := hx i (by omega)
   obtain ⟨_, hlen, hcell⟩ := World.cells?_some h1
   obtain ⟨x, he⟩ := hE _ _ _ _ _ _ h2
   refine ⟨(x, cs'), hlen, he, fun j u hj => ?_⟩
   have hj4 : j < k := by have := (List.getElem?_eq_some_iff.1 hj).1; simp only [] at this; omega
   have q := hcell j hj4
   rw [Deep.add_add] at q
   rw [q]
   exact hj
  have hf : ∃ f : Nat → α × List Value, ∀ i, i < len → (f i).2.length = k ∧ R W (f i).2 (f i).1 ∧ ∀ j u, (f i).2[j]? = some u → W.cell? (a.add (i * k + j)) = some u := by
   refine ⟨fun i => if h : i < len then Classical.choose (each i h) else (d, []), fun i hi => ?_⟩
   have := Classical.choose_spec (each i hi)
   simpa [hi] using this
  obtain ⟨f, hf⟩ := hf
  refine ⟨(List.range len).map (fun i => (f i).1), _, _, _, hcs, ⟨by simp, by omega, ?_⟩, hl, hm, fun h => by cases h⟩
  rcases Nat.eq_zero_or_pos len with h0 | hp
  ·exact .inl h0
  ·obtain ⟨b, off, spot⟩ := a
   have hspot : spot = none := by
    obtain ⟨q1, _, q3⟩ := hf 0 hp
    have := q3 0 ((f 0).2[0]'(by omega)) (List.getElem?_eq_getElem _)
    simpa [Addr.add] using World.cell?_spot this
   subst hspot
   refine .inr ⟨b, off, rfl, fun i x hi => ?_⟩
   have hil : i < len := by have := (List.getElem?_eq_some_iff.1 hi).1; simpa using this
   have hxf : x = (f i).1 := by simpa [hil] using hi.symm
   subst hxf
   obtain ⟨q1, q2, q3⟩ := hf i hil
   refine ⟨(f i).2, q1, q2, fun j v hj => ?_⟩
   have q := q3 j v hj
   rw [addr_add] at q
   rw [Nat.add_assoc]
   exact q
def intR : Rl Int := fun _ cs x => cs = [.int .i64 x]
def boolR : Rl Bool := fun _ cs x => cs = [.bool x]
def strR : Rl ByteArray := fun _ cs x => cs = [.string x]
theorem Opens.int {T : TypeId} (hu : Tryz.prog.underlying T = some (.int .i64)) : Opens T intR := by
 intro H enc W fuel cs y h
 obtain ⟨a, h0, _, _⟩ := DataW.trod_int hu h
 exact ⟨a, h0⟩
theorem Opens.bool {T : TypeId} (hu : Tryz.prog.underlying T = some .bool) : Opens T boolR := by
 intro H enc W fuel cs y h
 obtain ⟨a, h0, _⟩ := DataW.trod_bool hu h
 exact ⟨a, h0⟩
theorem Opens.string {T : TypeId} (hu : Tryz.prog.underlying T = some .string) : Opens T strR := by
 intro H enc W fuel cs y h
 obtain ⟨a, h0, _, _⟩ := DataW.trod_string hu h
 exact ⟨a, h0⟩
end Go.Proofs.YtomppblgalepjaaGreatDoor

/- A struct of k cells stored into a block that is known whole: what the block holds then, and what stays. -/
namespace Go.Proofs.YtomppblgalepjaaGreatDoor
open Go.RowKit
set_option linter.unusedVariables false
theorem BX.other {u : World} {g k : Nat} {C : Array Value} {t : TypeId} (h : BX u g C t) (hne : k ≠ g) (i : Nat) (v : Value) : BX (u.setCell ⟨k, i, none⟩ v) g C t := by
 unfold BX at *
 simp [World.setCell, Array.getElem?_modify, hne, h]
theorem BX.put3 {u : World} {g : Nat} {t : TypeId} {c0 c1 c2 : Value} (h : BX u g #[c0, c1, c2] t) (v0 v1 v2 : Value) :
  BX (((u.setCell ⟨g, 0, none⟩ v0).setCell ⟨g, 1, none⟩ v1).setCell ⟨g, 2, none⟩ v2) g #[v0, v1, v2] t ∧ KP g u (((u.setCell ⟨g, 0, none⟩ v0).setCell ⟨g, 1, none⟩ v1).setCell ⟨g, 2, none⟩ v2) ∧ (∀ B W0, Below B W0 u → B ≤ g → Below B W0 (((u.setCell ⟨g, 0, none⟩ v0).setCell ⟨g, 1, none⟩ v1).setCell ⟨g, 2, none⟩ v2)) ∧ ∀ k D r, BX u k D r → g ≠ k → BX (((u.setCell ⟨g, 0, none⟩ v0).setCell ⟨g, 1, none⟩ v1).setCell ⟨g, 2, none⟩ v2) k D r := by
 have h0 : BX (u.setCell ⟨g, 0, none⟩ v0) g #[v0, c1, c2] t := h.set 0 v0
 have h1 : BX ((u.setCell ⟨g, 0, none⟩ v0).setCell ⟨g, 1, none⟩ v1) g #[v0, v1, c2] t := h0.set 1 v1
 have h2 : BX (((u.setCell ⟨g, 0, none⟩ v0).setCell ⟨g, 1, none⟩ v1).setCell ⟨g, 2, none⟩ v2) g #[v0, v1, v2] t := h1.set 2 v2
 exact ⟨h2, ((((((KP.refl g u).set 0 v0)).set 1 v1)).set 2 v2), fun B W0 hb hB => ((((((hb).setCell hB _)).setCell hB _)).setCell hB _), fun k D r hk hne => ((((((hk).other hne 0 v0)).other hne 1 v1)).other hne 2 v2)⟩
theorem BX.put5 {u : World} {g : Nat} {t : TypeId} {c0 c1 c2 c3 c4 : Value} (h : BX u g #[c0, c1, c2, c3, c4] t) (v0 v1 v2 v3 v4 : Value) :
  BX (((((u.setCell ⟨g, 0, none⟩ v0).setCell ⟨g, 1, none⟩ v1).setCell ⟨g, 2, none⟩ v2).setCell ⟨g, 3, none⟩ v3).setCell ⟨g, 4, none⟩ v4) g #[v0, v1, v2, v3, v4] t ∧ KP g u (((((u.setCell ⟨g, 0, none⟩ v0).setCell ⟨g, 1, none⟩ v1).setCell ⟨g, 2, none⟩ v2).setCell ⟨g, 3, none⟩ v3).setCell ⟨g, 4, none⟩ v4) ∧ (∀ B W0, Below B W0 u → B ≤ g → Below B W0 (((((u.setCell ⟨g, 0, none⟩ v0).setCell ⟨g, 1, none⟩ v1).setCell ⟨g, 2, none⟩ v2).setCell ⟨g, 3, none⟩ v3).setCell ⟨g, 4, none⟩ v4)) ∧ ∀ k D r, BX u k D r → g ≠ k → BX (((((u.setCell ⟨g, 0, none⟩ v0).setCell ⟨g, 1, none⟩ v1).setCell ⟨g, 2, none⟩ v2).setCell ⟨g, 3, none⟩ v3).setCell ⟨g, 4, none⟩ v4) k D r := by
 have h0 : BX (u.setCell ⟨g, 0, none⟩ v0) g #[v0, c1, c2, c3, c4] t := h.set 0 v0
 have h1 : BX ((u.setCell ⟨g, 0, none⟩ v0).setCell ⟨g, 1, none⟩ v1) g #[v0, v1, c2, c3, c4] t := h0.set 1 v1
 have h2 : BX (((u.setCell ⟨g, 0, none⟩ v0).setCell ⟨g, 1, none⟩ v1).setCell ⟨g, 2, none⟩ v2) g #[v0, v1, v2, c3, c4] t := h1.set 2 v2
 have h3 : BX ((((u.setCell ⟨g, 0, none⟩ v0).setCell ⟨g, 1, none⟩ v1).setCell ⟨g, 2, none⟩ v2).setCell ⟨g, 3, none⟩ v3) g #[v0, v1, v2, v3, c4] t := h2.set 3 v3
 have h4 : BX (((((u.setCell ⟨g, 0, none⟩ v0).setCell ⟨g, 1, none⟩ v1).setCell ⟨g, 2, none⟩ v2).setCell ⟨g, 3, none⟩ v3).setCell ⟨g, 4, none⟩ v4) g #[v0, v1, v2, v3, v4] t := h3.set 4 v4
 exact ⟨h4, ((((((((((KP.refl g u).set 0 v0)).set 1 v1)).set 2 v2)).set 3 v3)).set 4 v4), fun B W0 hb hB => ((((((((((hb).setCell hB _)).setCell hB _)).setCell hB _)).setCell hB _)).setCell hB _), fun k D r hk hne => ((((((((((hk).other hne 0 v0)).other hne 1 v1)).other hne 2 v2)).other hne 3 v3)).other hne 4 v4)⟩
theorem BX.put7 {u : World} {g : Nat} {t : TypeId} {c0 c1 c2 c3 c4 c5 c6 : Value} (h : BX u g #[c0, c1, c2, c3, c4, c5, c6] t) (v0 v1 v2 v3 v4 v5 v6 : Value) :
  BX (((((((u.setCell ⟨g, 0, none⟩ v0).setCell ⟨g, 1, none⟩ v1).setCell ⟨g, 2, none⟩ v2).setCell ⟨g, 3, none⟩ v3).setCell ⟨g, 4, none⟩ v4).setCell ⟨g, 5, none⟩ v5).setCell ⟨g, 6, none⟩ v6) g #[v0, v1, v2, v3, v4, v5, v6] t ∧ KP g u (((((((u.setCell ⟨g, 0, none⟩ v0).setCell ⟨g, 1, none⟩ v1).setCell ⟨g, 2, none⟩ v2).setCell ⟨g, 3, none⟩ v3).setCell ⟨g, 4, none⟩ v4).setCell ⟨g, 5, none⟩ v5).setCell ⟨g, 6, none⟩ v6) ∧ (∀ B W0, Below B W0 u → B ≤ g → Below B W0 (((((((u.setCell ⟨g, 0, none⟩ v0).setCell ⟨g, 1, none⟩ v1).setCell ⟨g, 2, none⟩ v2).setCell ⟨g, 3, none⟩ v3).setCell ⟨g, 4, none⟩ v4).setCell ⟨g, 5, none⟩ v5).setCell ⟨g, 6, none⟩ v6)) ∧ ∀ k D r, BX u k D r → g ≠ k → BX (((((((u.setCell ⟨g, 0, none⟩ v0).setCell ⟨g, 1, none⟩ v1).setCell ⟨g, 2, none⟩ v2).setCell ⟨g, 3, none⟩ v3).setCell ⟨g, 4, none⟩ v4).setCell ⟨g, 5, none⟩ v5).setCell ⟨g, 6, none⟩ v6) k D r := by
 have h0 : BX (u.setCell ⟨g, 0, none⟩ v0) g #[v0, c1, c2, c3, c4, c5, c6] t := h.set 0 v0
 have h1 : BX ((u.setCell ⟨g, 0, none⟩ v0).setCell ⟨g, 1, none⟩ v1) g #[v0, v1, c2, c3, c4, c5, c6] t := h0.set 1 v1
 have h2 : BX (((u.setCell ⟨g, 0, none⟩ v0).setCell ⟨g, 1, none⟩ v1).setCell ⟨g, 2, none⟩ v2) g #[v0, v1, v2, c3, c4, c5, c6] t := h1.set 2 v2
 have h3 : BX ((((u.setCell ⟨g, 0, none⟩ v0).setCell ⟨g, 1, none⟩ v1).setCell ⟨g, 2, none⟩ v2).setCell ⟨g, 3, none⟩ v3) g #[v0, v1, v2, v3, c4, c5, c6] t := h2.set 3 v3
 have h4 : BX (((((u.setCell ⟨g, 0, none⟩ v0).setCell ⟨g, 1, none⟩ v1).setCell ⟨g, 2, none⟩ v2).setCell ⟨g, 3, none⟩ v3).setCell ⟨g, 4, none⟩ v4) g #[v0, v1, v2, v3, v4, c5, c6] t := h3.set 4 v4
 have h5 : BX ((((((u.setCell ⟨g, 0, none⟩ v0).setCell ⟨g, 1, none⟩ v1).setCell ⟨g, 2, none⟩ v2).setCell ⟨g, 3, none⟩ v3).setCell ⟨g, 4, none⟩ v4).setCell ⟨g, 5, none⟩ v5) g #[v0, v1, v2, v3, v4, v5, c6] t := h4.set 5 v5
 have h6 : BX (((((((u.setCell ⟨g, 0, none⟩ v0).setCell ⟨g, 1, none⟩ v1).setCell ⟨g, 2, none⟩ v2).setCell ⟨g, 3, none⟩ v3).setCell ⟨g, 4, none⟩ v4).setCell ⟨g, 5, none⟩ v5).setCell ⟨g, 6, none⟩ v6) g #[v0, v1, v2, v3, v4, v5, v6] t := h5.set 6 v6
 exact ⟨h6, ((((((((((((((KP.refl g u).set 0 v0)).set 1 v1)).set 2 v2)).set 3 v3)).set 4 v4)).set 5 v5)).set 6 v6), fun B W0 hb hB => ((((((((((((((hb).setCell hB _)).setCell hB _)).setCell hB _)).setCell hB _)).setCell hB _)).setCell hB _)).setCell hB _), fun k D r hk hne => ((((((((((((((hk).other hne 0 v0)).other hne 1 v1)).other hne 2 v2)).other hne 3 v3)).other hne 4 v4)).other hne 5 v5)).other hne 6 v6)⟩
end Go.Proofs.YtomppblgalepjaaGreatDoor

/- Tokens in memory; a text gone through step by step (layer 14). -/
namespace Go.Proofs.YtomppblgalepjaaGreatDoor
open Go.RowKit Go.Lib
set_option linter.unusedVariables false
def encTk (t : Tk) : List Value := [.int .i64 t.1, .string t.2.1, .int .i64 t.2.2.1, .int .i64 t.2.2.2]
theorem encTk_len (t : Tk) : (encTk t).length = 4 := rfl
theorem encTk_one (t : Tk) : ∀ v ∈ encTk t, v.oneCell' = true := fun v hv => by
 simp only [encTk, List.mem_cons, List.not_mem_nil, or_false] at hv
 rcases hv with rfl | rfl | rfl | rfl <;> rfl
theorem Tryz.infoTk : (Tryz.prog.info? 129).map (fun i => (i.zero, i.size, i.bytes)) = some (some (.agg #[.int .i64 0, .string ⟨#[]⟩, .int .i64 0, .int .i64 0]), 4, 40) := by kernel_rfl
abbrev KS (w : World) (a : Option Addr) (n : Nat) (l : List Tk) : Prop := RS encTk 4 w a n l
abbrev OK14 (N : Nat) (w : World) (v : Value) (l : List Tk) : Prop := OwnR encTk 4 129 N w v l
def lexS (l : List Int) (ln : Int) (out : List Tk) : LxR := lexP l.length l ln out
theorem lexS_nil (ln : Int) (out : List Tk) : lexS [] ln out = .ok (ln, out) := rfl
theorem lexS_drop (p : Int → Bool) (t : List Int) (ln : Int) (out : List Tk) : lexP t.length (t.dropWhile p) ln out = lexS (t.dropWhile p) ln out := lexP_fuel _ _ _ _ _ (dropW_len t) (Nat.le_refl _)
theorem lexS_blank {c : Int} (h : c = 32 ∨ c = 9) (t : List Int) (ln : Int) (out : List Tk) : lexS (c :: t) ln out = lexS t ln out := by
 unfold lexS
 rw [List.length_cons, lexP, if_pos h]
theorem lexS_hash (t : List Int) (ln : Int) (out : List Tk) : lexS (35 :: t) ln out = lexS (t.dropWhile (fun x => decide (x ≠ 10))) ln out := by
 show lexP (t.length + 1) (35 :: t) ln out = _
 rw [lexP, if_neg (by decide), if_pos rfl]
 exact lexS_drop _ t ln out
theorem lexS_colon (t : List Int) (ln : Int) (out : List Tk) : lexS (58 :: t) ln out = pushT out (3, ⟨#[]⟩, 0, ln) ln (lexS t) := by
 show lexP (t.length + 1) (58 :: t) ln out = _
 rw [lexP, if_neg (by decide), if_neg (by decide), if_pos rfl]
 rfl
theorem lexS_comma (t : List Int) (ln : Int) (out : List Tk) : lexS (44 :: t) ln out = pushT out (4, ⟨#[]⟩, 0, ln) ln (lexS t) := by
 show lexP (t.length + 1) (44 :: t) ln out = _
 rw [lexP, if_neg (by decide), if_neg (by decide), if_neg (by decide), if_pos rfl]
 rfl
theorem lexS_line (t : List Int) (ln : Int) (out : List Tk) : lexS (10 :: t) ln out = pushT out (5, ⟨#[]⟩, 0, ln) (ln + 1) (lexS t) := by
 show lexP (t.length + 1) (10 :: t) ln out = _
 rw [lexP, if_neg (by decide), if_neg (by decide), if_neg (by decide), if_neg (by decide), if_pos rfl]
 rfl
theorem lexS_none {c : Int} (h : isWd c = true) (t : List Int) (ln : Int) (out : List Tk) (hk : tokW (c :: t.takeWhile isWd) ln = none) : lexS (c :: t) ln out = .error (ln, 2) := by
 have n := isWd_not h
 show lexP (t.length + 1) (c :: t) ln out = _
 rw [lexP, if_neg n.1, if_neg n.2.1, if_neg n.2.2.1, if_neg n.2.2.2.1, if_neg n.2.2.2.2, if_pos h, hk]
theorem lexS_word {c : Int} (h : isWd c = true) (t : List Int) (ln : Int) (out : List Tk) {tk : Tk} (hk : tokW (c :: t.takeWhile isWd) ln = some tk) : lexS (c :: t) ln out = pushT out tk ln (lexS (t.dropWhile isWd)) := by
 have n := isWd_not h
 show lexP (t.length + 1) (c :: t) ln out = _
 rw [lexP, if_neg n.1, if_neg n.2.1, if_neg n.2.2.1, if_neg n.2.2.2.1, if_neg n.2.2.2.2, if_pos h, hk]
 exact pushT_congr (lexS_drop isWd t)
theorem lexS_bad {c : Int} (h1 : ¬ (c = 32 ∨ c = 9)) (h2 : c ≠ 35) (h3 : c ≠ 58) (h4 : c ≠ 44) (h5 : c ≠ 10) (h6 : isWd c = false) (t : List Int) (ln : Int) (out : List Tk) : lexS (c :: t) ln out = .error (ln, 2) := by
 show lexP (t.length + 1) (c :: t) ln out = _
 rw [lexP, if_neg h1, if_neg h2, if_neg h3, if_neg h4, if_neg h5, if_neg (by rw [h6]; decide)]
theorem push_ok {out : List Tk} {t : Tk} {ln : Int} {k : Int → List Tk → LxR} (h : out.length + 1 ≤ 800) : pushT out t ln k = k ln (out ++ [t]) := by unfold pushT; rw [if_neg (by omega)]
theorem push_big {out : List Tk} {t : Tk} {ln : Int} {k : Int → List Tk → LxR} (h : 800 < out.length + 1) : pushT out t ln k = .error (t.2.2.2, 7) := by unfold pushT; rw [if_pos h]
/-! Where a run of bytes stops -/
theorem drop_at {l : List Int} {i : Nat} {c : Int} (h : l[i]? = some c) : l.drop i = c :: l.drop (i + 1) := by
 obtain ⟨hi, rfl⟩ := List.getElem?_eq_some_iff.1 h
 exact List.drop_eq_getElem_cons hi
theorem dropW_go {p : Int → Bool} {l : List Int} {i : Nat} {c : Int} (h : l[i]? = some c) (hp : p c = true) : (l.drop i).dropWhile p = (l.drop (i + 1)).dropWhile p := by
 rw [drop_at h, List.dropWhile_cons, if_pos hp]
end Go.Proofs.YtomppblgalepjaaGreatDoor

/- How many tokens and lines a text has (layers 14 and 15), in plain mathematics; two texts have the lines of both. -/
namespace Go.Proofs.YtomppblgalepjaaGreatDoor
set_option linter.unusedVariables false
def Ne0 : LxR → Prop
 | .error _ => True
 | .ok (_, out) => ∀ t ∈ out, t.1 ≠ 0
theorem tokW_ne {l : List Int} {ln : Int} {tk : Tk} (h : tokW l ln = some tk) : tk.1 ≠ 0 := by
 unfold tokW at h
 split at h
 ·cases h; exact (show (1 : Int) ≠ 0 by decide)
 ·split at h
  ·cases h; exact (show (2 : Int) ≠ 0 by decide)
  ·cases h
theorem Ne0.push {out : List Tk} {tk : Tk} {ln : Int} {k : Int → List Tk → LxR} (h : ∀ ln out, (∀ t ∈ out, t.1 ≠ 0) → Ne0 (k ln out)) (ho : ∀ t ∈ out, t.1 ≠ 0) (ht : tk.1 ≠ 0) : Ne0 (pushT out tk ln k) := by
 unfold pushT
 split
 ·trivial
 ·exact h _ _ (fun t hm => (List.mem_append.1 hm).elim (ho t) (fun q => by rw [List.mem_singleton.1 q]; exact ht))
theorem lexP_ne : ∀ (f : Nat) (l : List Int) (ln : Int) (out : List Tk), (∀ t ∈ out, t.1 ≠ 0) → Ne0 (lexP f l ln out)
 | 0, l, ln, out, h => h
 | f + 1, [], ln, out, h => h
 | f + 1, c :: t, ln, out, h => by
  rw [lexP]
  split
  ·exact lexP_ne f _ _ _ h
  split
  ·exact lexP_ne f _ _ _ h
  split
  ·exact Ne0.push (fun ln out h => lexP_ne f t ln out h) h (show (3 : Int) ≠ 0 by decide)
  split
  ·exact Ne0.push (fun ln out h => lexP_ne f t ln out h) h (show (4 : Int) ≠ 0 by decide)
  split
  ·exact Ne0.push (fun ln out h => lexP_ne f t ln out h) h (show (5 : Int) ≠ 0 by decide)
  split
  ·split
   ·trivial
   ·rename_i htk
    exact Ne0.push (fun ln out h => lexP_ne f _ ln out h) h (tokW_ne htk)
  ·trivial
def ErR : LxR → Prop
 | .error (_, e) => e ≠ 0
 | .ok _ => True
theorem ErR.push {out : List Tk} {tk : Tk} {ln : Int} {k : Int → List Tk → LxR} (h : ∀ ln out, ErR (k ln out)) : ErR (pushT out tk ln k) := by
 unfold pushT
 split
 ·exact (show (7 : Int) ≠ 0 by decide)
 ·exact h _ _
theorem lexP_err : ∀ (f : Nat) (l : List Int) (ln : Int) (out : List Tk), ErR (lexP f l ln out)
 | 0, l, ln, out => trivial
 | f + 1, [], ln, out => trivial
 | f + 1, c :: t, ln, out => by
  rw [lexP]
  split
  ·exact lexP_err f _ _ _
  split
  ·exact lexP_err f _ _ _
  split
  ·exact ErR.push (fun ln out => lexP_err f t ln out)
  split
  ·exact ErR.push (fun ln out => lexP_err f t ln out)
  split
  ·exact ErR.push (fun ln out => lexP_err f t ln out)
  split
  ·split
   ·exact (show (2 : Int) ≠ 0 by decide)
   ·exact ErR.push (fun ln out => lexP_err f _ ln out)
  ·exact (show (2 : Int) ≠ 0 by decide)
end Go.Proofs.YtomppblgalepjaaGreatDoor

/- The program's lines (layer 15), in plain mathematics: all lines are told first, and then how many they are. -/
namespace Go.Proofs.YtomppblgalepjaaGreatDoor
set_option linter.unusedVariables false
def linA : Nat → List Tk → List Dc → Except Int (List Dc)
 | 0, _, out => .ok out
 | f + 1, l, out => match l with
  | [] => .ok out
  | t :: r =>
   if t.1 = 0 then .ok out
   else if t.1 = 5 then linA f r out
   else
    let U := (t :: r).takeWhile inU
    let q := dclU U
    if q.2.2 = false ∨ q.2.1 ≠ U.length then .error (((t :: r)[q.2.1]?).getD (0, ⟨#[]⟩, 0, 0)).2.2.2
    else linA f ((t :: r).drop U.length) (out ++ [lnD q.1 t.2.2.2])
theorem linA_fuel : ∀ (f g : Nat) (l : List Tk) (out : List Dc), l.length ≤ f → l.length ≤ g → linA f l out = linA g l out
 | 0, 0, l, out, hf, hg => rfl
 | 0, g + 1, l, out, hf, hg => by
  have : l = [] := List.length_eq_zero_iff.1 (by omega)
  subst this
  rfl
 | f + 1, 0, l, out, hf, hg => by
  have : l = [] := List.length_eq_zero_iff.1 (by omega)
  subst this
  rfl
 | f + 1, g + 1, [], out, hf, hg => rfl
 | f + 1, g + 1, t :: r, out, hf, hg => by
  rw [linA, linA]
  split
  ·rfl
  rename_i h0
  split
  ·exact linA_fuel f g r out (by simpa using hf) (by simpa using hg)
  rename_i h5
  dsimp only
  split
  ·rfl
  have hl : 0 < ((t :: r).takeWhile inU).length := by
   rw [List.takeWhile_cons, if_pos (by unfold inU; rw [decide_eq_true_iff]; exact ⟨h0, h5⟩)]
   simp
  rw [List.length_cons] at hf hg
  exact linA_fuel f g _ _ (by rw [List.length_drop, List.length_cons]; omega) (by rw [List.length_drop, List.length_cons]; omega)
def linX (l : List Tk) (out : List Dc) : Except Int (List Dc) := linA l.length l out
theorem linX_end {t : Tk} (h : t.1 = 0) (r : List Tk) (out : List Dc) : linX (t :: r) out = .ok out := by
 show linA (r.length + 1) (t :: r) out = _
 rw [linA, if_pos h]
theorem linX_line {t : Tk} (h : t.1 = 5) (r : List Tk) (out : List Dc) : linX (t :: r) out = linX r out := by
 show linA (r.length + 1) (t :: r) out = _
 rw [linA, if_neg (by omega), if_pos h]
 rfl
theorem linX_bad {t : Tk} (h0 : t.1 ≠ 0) (h5 : t.1 ≠ 5) (r : List Tk) {out : List Dc} {d : Dc} {at' : Nat} {ok : Bool} (hd : dclU ((t :: r).takeWhile inU) = (d, at', ok)) (hb : ok = false ∨ at' ≠ ((t :: r).takeWhile inU).length) {u : Tk} (hu : (t :: r)[at']? = some u) : linX (t :: r) out = .error u.2.2.2 := by
 show linA (r.length + 1) (t :: r) out = _
 rw [linA, if_neg h0, if_neg h5]
 simp only
 rw [hd, if_pos hb, hu]
 rfl
theorem linX_good {t : Tk} (h0 : t.1 ≠ 0) (h5 : t.1 ≠ 5) (r : List Tk) {out : List Dc} {d : Dc} {at' : Nat} (hd : dclU ((t :: r).takeWhile inU) = (d, at', true)) (hb : at' = ((t :: r).takeWhile inU).length) : linX (t :: r) out = linX ((t :: r).drop at') (out ++ [lnD d t.2.2.2]) := by
 have hl : 0 < ((t :: r).takeWhile inU).length := by
  rw [List.takeWhile_cons, if_pos (by unfold inU; rw [decide_eq_true_iff]; exact ⟨h0, h5⟩)]
  simp
 show linA (r.length + 1) (t :: r) out = _
 rw [linA, if_neg h0, if_neg h5]
 simp only
 rw [hd, if_neg (by rintro (h | h); cases h; exact h hb), ← hb]
 unfold linX
 refine linA_fuel _ _ _ _ ?_ (Nat.le_refl _)
 rw [List.length_drop, List.length_cons]
 omega
def EndZ (l : List Tk) : Prop := ∀ (i : Nat) t, l[i]? = some t → t.1 = 0 → i + 1 = l.length
theorem EndZ.drop {l : List Tk} (h : EndZ l) (k : Nat) : EndZ (l.drop k) := fun i t ht h0 => by
 rw [List.getElem?_drop] at ht
 have := h _ t ht h0
 rw [List.length_drop]
 omega
theorem lexB_endz {l : List Int} {ts : List Tk} {x e : Int} (h : lexB l = (ts, x, e)) : EndZ ts := by
 have nil : EndZ [] := fun i t ht => by simp at ht
 unfold lexB at h
 split at h
 ·cases h; exact nil
 ·have q := lexP_ne l.length l 1 [] (by simp)
  rcases hr : lexP l.length l 1 [] with ⟨y, e'⟩ | ⟨ln, A⟩
  ·rw [hr] at h
   cases h
   exact nil
  ·rw [hr] at h q
   unfold finL at h
   split at h
   ·rename_i heq
    cases heq
   ·rename_i heq
    cases heq
    split at h
    ·cases h; exact nil
    ·cases h
     intro i t ht h0
     rcases Nat.lt_or_ge i A.length with hi | hi
     ·exfalso
      rw [List.getElem?_append_left hi] at ht
      exact q t (List.mem_of_getElem? ht) h0
     ·have := (List.getElem?_eq_some_iff.1 ht).1
      simp at this ⊢
      omega
def gQ (r : Except Int (List Dc)) : List Dc × Int × Int := match r with
 | .error x => ([], x, 2)
 | .ok out => if 60 < out.length then ([], ((out[60]?).getD (0, false, ⟨#[]⟩, ⟨#[]⟩, 0, [], 0)).2.2.2.2.2.2, 7) else (out, 0, 0)
def linG (l : List Int) : List Dc × Int × Int := if (lexB l).2.2 ≠ 0 then ([], (lexB l).2.1, (lexB l).2.2) else gQ (linX (lexB l).1 [])
theorem linG_lex {l : List Int} {z e : Int} (h : lexB l = ([], z, e)) (he : e ≠ 0) : linG l = ([], z, e) := by
 unfold linG
 rw [h]
 exact if_pos he
end Go.Proofs.YtomppblgalepjaaGreatDoor

