/- Texts of this claim, joined: N2, GAp, GFt. -/
import Derived.Test.YtomppblgalepjaaGreatDoorJ1
import Derived.Test.YtomppblgalepjaaGreatDoorJ2
/- A line's tokens with what stands behind them say what they say alone (layer 15), in plain mathematics. -/
namespace Go.Proofs.YtomppblgalepjaaGreatDoor
set_option linter.unusedVariables false
theorem isU_at {l : List Tk} {i : Nat} {t : Tk} (h : l[i]? = some t) (k : Int) : isU l i k = decide (t.1 = k) := by unfold isU; rw [h]
theorem isU_far {l : List Tk} {i : Nat} (h : l.length ≤ i) (k : Int) : isU l i k = false := by unfold isU; rw [List.getElem?_eq_none h]
theorem txtU_at {l : List Tk} {i : Nat} {t : Tk} (h : l[i]? = some t) : txtU l i = if t.1 = 1 then t.2.1 else ⟨#[]⟩ := by unfold txtU; rw [h]
theorem txtU_far {l : List Tk} {i : Nat} (h : isU l i 1 = false) : txtU l i = ⟨#[]⟩ := by
 unfold isU at h
 unfold txtU
 cases hx : l[i]? with
 | none => rfl
 | some t =>
  rw [hx] at h
  simp only [decide_eq_false_iff_not] at h
  simp only
  rw [if_neg h]
theorem namU_is {l : List Tk} {i : Nat} : namU l i = (isU l i 1 && !keptB (txtU l i)) := by
 unfold namU isU txtU
 cases l[i]? with
 | none => rfl
 | some t =>
  simp only
  by_cases h : t.1 = 1
  ·rw [if_pos h]
  ·rw [decide_eq_false h]; rfl
def Agr (l U : List Tk) : Prop := (∀ i, i < U.length → l[i]? = U[i]?) ∧ ∀ k : Int, 1 ≤ k → k ≤ 4 → isU l U.length k = false
theorem agr_take : ∀ {l : List Tk}, (∃ t, t ∈ l ∧ inU t = false) → Agr l (l.takeWhile inU) ∧ ∃ t, l[(l.takeWhile inU).length]? = some t ∧ inU t = false
 | [], h => by
  obtain ⟨t, ht, _⟩ := h
  cases ht
 | t :: r, h => by
  by_cases hi : inU t = true
  ·have hr : ∃ x, x ∈ r ∧ inU x = false := by
    obtain ⟨x, hx, hf⟩ := h
    rcases List.mem_cons.1 hx with rfl | hx
    ·rw [hi] at hf; cases hf
    ·exact ⟨x, hx, hf⟩
   obtain ⟨⟨h1, h2⟩, h3⟩ := agr_take hr
   rw [List.takeWhile_cons, if_pos hi]
   refine ⟨⟨fun i hl => ?_, fun k k1 k4 => ?_⟩, ?_⟩
   ·rcases i with _ | i
    ·rfl
    ·rw [List.getElem?_cons_succ, List.getElem?_cons_succ]
     exact h1 i (by simpa using hl)
   ·have q := h2 k k1 k4
    unfold isU at q ⊢
    rw [List.length_cons, List.getElem?_cons_succ]
    exact q
   ·rw [List.length_cons, List.getElem?_cons_succ]
    exact h3
  ·rw [List.takeWhile_cons, if_neg hi]
   have hf : inU t = false := by simpa using hi
   refine ⟨⟨fun i hl => absurd hl (by simp), fun k k1 k4 => ?_⟩, t, rfl, hf⟩
   rw [isU_at (show (t :: r)[([] : List Tk).length]? = some t from rfl)]
   unfold inU at hf
   rw [decide_eq_false_iff_not] at hf
   rw [decide_eq_false_iff_not]
   omega
section
variable {l U : List Tk}
theorem Agr.is (h : Agr l U) {i : Nat} (hi : i ≤ U.length) {k : Int} (k1 : 1 ≤ k) (k4 : k ≤ 4) : isU l i k = isU U i k := by
 by_cases hl : i < U.length
 ·unfold isU
  rw [h.1 i hl]
 ·obtain rfl : i = U.length := by omega
  rw [h.2 k k1 k4, isU_far (Nat.le_refl _)]
theorem Agr.txt (h : Agr l U) {i : Nat} (hi : i ≤ U.length) : txtU l i = txtU U i := by
 by_cases hl : i < U.length
 ·unfold txtU
  rw [h.1 i hl]
 ·obtain rfl : i = U.length := by omega
  rw [txtU_far (h.2 1 (by decide) (by decide)), txtU_far (isU_far (Nat.le_refl _) 1)]
theorem Agr.nam (h : Agr l U) {i : Nat} (hi : i ≤ U.length) : namU l i = namU U i := by
 rw [namU_is, namU_is, h.is hi (by decide) (by decide), h.txt hi]
theorem Agr.num (h : Agr l U) {i : Nat} (hi : i < U.length) : numU l i = numU U i := by
 unfold numU
 rw [h.1 i hi]
theorem isU_lt {i : Nat} {k : Int} (h : isU U i k = true) : i < U.length := by
 by_cases hl : i < U.length
 ·exact hl
 ·rw [isU_far (by omega)] at h; cases h
theorem namU_lt {i : Nat} (h : namU U i = true) : i < U.length := by
 rw [namU_is, Bool.and_eq_true] at h
 exact isU_lt h.1
theorem txtU_lt {i : Nat} (h : txtU U i ≠ ⟨#[]⟩) : i < U.length := by
 rcases hi : isU U i 1 with _ | _
 ·exact absurd (txtU_far hi) h
 ·exact isU_lt hi
theorem Agr.frm (h : Agr l U) : ∀ (cs : List Int) (i : Nat), i ≤ U.length → frmU l i cs = frmU U i cs ∧ i + frmU U i cs ≤ U.length ∧ frmU U i cs ≤ cs.length
 | [], i, hi => ⟨rfl, hi, Nat.le_refl _⟩
 | c :: cs, i, hi => by
  rw [frmU, frmU]
  have e : (if c = 110 then namU l i else isU l i 2) = (if c = 110 then namU U i else isU U i 2) := by
   rw [h.nam hi, h.is hi (by decide) (by decide)]
  rw [e]
  by_cases ht : (if c = 110 then namU U i else isU U i 2) = true
  ·have hl : i < U.length := by
    by_cases hc : c = 110
    ·rw [if_pos hc] at ht; exact namU_lt ht
    ·rw [if_neg hc] at ht; exact isU_lt ht
   obtain ⟨q1, q2, q3⟩ := h.frm cs (i + 1) hl
   rw [if_pos ht, if_pos ht, q1]
   refine ⟨rfl, by omega, ?_⟩
   rw [List.length_cons]
   omega
  ·rw [if_neg ht, if_neg ht]
   exact ⟨rfl, hi, by omega⟩
theorem deedU_some {s : ByteArray} (h : (deedU s).1 ≠ 0) : s ≠ ⟨#[]⟩ ∧ ((deedU s).2.length = 1 ∨ (deedU s).2.length = 2) := by
 refine ⟨fun e => ?_, ?_⟩
 ·subst e
  exact h (by decide)
 ·revert h
  unfold deedU
  repeat' split
  all_goals (intro h; simp at h ⊢)
theorem ruleU_some {s : ByteArray} (h : (ruleU s).1 ≠ 0) : s ≠ ⟨#[]⟩ ∧ (ruleU s).2.length = 2 := by
 refine ⟨fun e => ?_, ?_⟩
 ·subst e
  exact h (by decide)
 ·revert h
  unfold ruleU
  repeat' split
  all_goals (intro h; simp at h ⊢)
theorem Agr.op (h : Agr l U) : ∀ (f i : Nat) (ds : List Dd), i < U.length → opU l f i ds = opU U f i ds ∧ (opU U f i ds).2.1 ≤ U.length
 | 0, i, ds, hi => ⟨rfl, Nat.le_of_lt hi⟩
 | f + 1, i, ds, hi => by
  simp only [opU]
  rw [h.txt (i := i + 1) hi]
  by_cases h0 : (deedU (txtU U (i + 1))).1 = 0
  ·rw [if_pos h0, if_pos h0]
   exact ⟨rfl, hi⟩
  ·obtain ⟨s1, s2⟩ := deedU_some h0
   have hi1 := txtU_lt s1
   obtain ⟨q1, q2, q3⟩ := h.frm (deedU (txtU U (i + 1))).2 (i + 2) hi1
   rw [if_neg h0, if_neg h0, q1]
   by_cases hk : frmU U (i + 2) (deedU (txtU U (i + 1))).2 < (deedU (txtU U (i + 1))).2.length
   ·rw [if_pos hk, if_pos hk]
    exact ⟨rfl, q2⟩
   ·rw [if_neg hk, if_neg hk]
    have hn : (if (deedU (txtU U (i + 1))).2.length = 2 then numU l (i + 3) else 0) = (if (deedU (txtU U (i + 1))).2.length = 2 then numU U (i + 3) else 0) := by
     by_cases h2 : (deedU (txtU U (i + 1))).2.length = 2
     ·rw [if_pos h2, if_pos h2, h.num (by omega)]
     ·rw [if_neg h2, if_neg h2]
    rw [h.txt (i := i + 2) hi1, hn, h.is q2 (by decide) (by decide)]
    generalize ds ++ [((deedU (txtU U (i + 1))).1, txtU U (i + 2), if (deedU (txtU U (i + 1))).2.length = 2 then numU U (i + 3) else 0)] = ds2
    by_cases he : isU U (i + 2 + frmU U (i + 2) (deedU (txtU U (i + 1))).2) 4 = false ∨ ds2.length = 16
    ·rw [if_pos he, if_pos he]
     exact ⟨rfl, q2⟩
    ·rw [if_neg he, if_neg he]
     exact h.op f _ ds2 (isU_lt (by
      rcases hx : isU U (i + 2 + frmU U (i + 2) (deedU (txtU U (i + 1))).2) 4 with _ | _
      ·exact absurd (.inl hx) he
      ·rfl))
theorem Agr.dcl (h : Agr l U) : dclU l = dclU U ∧ (dclU U).2.1 ≤ U.length := by
 unfold dclU
 simp only
 rw [h.txt (i := 0) (Nat.zero_le _)]
 by_cases h1 : txtU U 0 = ⟨#[115, 101, 116]⟩ ∨ txtU U 0 = ⟨#[99, 111, 117, 110, 116]⟩ ∨ txtU U 0 = ⟨#[110, 111, 116, 101]⟩
 ·have hl : 0 < U.length := txtU_lt (by rcases h1 with e | e | e <;> (rw [e]; decide))
  rw [if_pos h1, if_pos h1, h.nam (i := 1) hl]
  by_cases hn : namU U 1 = true
  ·rw [if_pos hn, if_pos hn, h.txt (i := 1) hl]
   exact ⟨rfl, namU_lt hn⟩
  ·rw [if_neg hn, if_neg hn]
   exact ⟨rfl, hl⟩
 ·rw [if_neg h1, if_neg h1]
  by_cases h2 : txtU U 0 = ⟨#[111, 112]⟩
  ·have hl : 0 < U.length := txtU_lt (by rw [h2]; decide)
   rw [if_pos h2, if_pos h2, h.nam (i := 1) hl]
   by_cases hn : namU U 1 = false
   ·rw [if_pos hn, if_pos hn]
    exact ⟨rfl, hl⟩
   ·have hn1 : 1 < U.length := namU_lt (by simpa using hn)
    rw [if_neg hn, if_neg hn, h.is (i := 2) hn1 (by decide) (by decide), h.txt (i := 1) hl]
    by_cases hc : isU U 2 3 = false
    ·rw [if_pos hc, if_pos hc]
     exact ⟨rfl, hn1⟩
    ·obtain ⟨q1, q2⟩ := h.op 17 2 [] (isU_lt (k := 3) (by simpa using hc))
     rw [if_neg hc, if_neg hc, q1]
     exact ⟨rfl, q2⟩
  ·rw [if_neg h2, if_neg h2]
   by_cases h3 : txtU U 0 = ⟨#[114, 117, 108, 101]⟩
   ·have hl : 0 < U.length := txtU_lt (by rw [h3]; decide)
    rw [if_pos h3, if_pos h3, h.txt (i := 1) hl]
    have hi : (if decide (txtU U 1 = ⟨#[115, 116, 114, 105, 99, 116]⟩) = true then 2 else 1) ≤ U.length := by
     by_cases hs : txtU U 1 = ⟨#[115, 116, 114, 105, 99, 116]⟩
     ·rw [if_pos (by simpa using hs)]
      exact txtU_lt (by rw [hs]; decide)
     ·rw [if_neg (by simpa using hs)]
      exact hl
    generalize (if decide (txtU U 1 = ⟨#[115, 116, 114, 105, 99, 116]⟩) = true then 2 else 1) = i at hi
    rw [h.txt hi]
    by_cases h0 : (ruleU (txtU U i)).1 = 0
    ·rw [if_pos h0, if_pos h0]
     exact ⟨rfl, hi⟩
    ·obtain ⟨s1, s2⟩ := ruleU_some h0
     have hi1 := txtU_lt s1
     obtain ⟨q1, q2, q3⟩ := h.frm (ruleU (txtU U i)).2 (i + 1) hi1
     rw [if_neg h0, if_neg h0, q1]
     by_cases hk : frmU U (i + 1) (ruleU (txtU U i)).2 < 2
     ·rw [if_pos hk, if_pos hk]
      exact ⟨rfl, q2⟩
     ·rw [if_neg hk, if_neg hk, h.txt (i := i + 1) (by omega), h.txt (i := i + 2) (by omega), h.num (i := i + 2) (by omega)]
      refine ⟨rfl, ?_⟩
      show i + 3 ≤ U.length
      omega
   ·rw [if_neg h3, if_neg h3]
    exact ⟨rfl, Nat.zero_le _⟩
end
end Go.Proofs.YtomppblgalepjaaGreatDoor

/- 'append' of rows at an operation. -/
namespace Go.Proofs.YtomppblgalepjaaGreatDoor
open Go.RowKit Go.Lib
set_option linter.unusedVariables false
section
variable {α : Type} {enc : α → List Value} {k : Nat} {T : TypeId}
theorem append_rg {w : World} {o : Oper} {a : Act} {K : Act → World → Prop} {Q : Exit → Act → World → Prop} (s x : Operand) (t : TypeId)
  (ho : o.op = .call { callee := .builtin .append, args := #[s, x], argTypes := #[t, t] })
  (ht : Tryz.prog.underlying t = some (.slice T)) {z : Value} {by_ : Nat} (hi : (Tryz.prog.info? T).map (fun i => (i.zero, i.size, i.bytes)) = some (some z, k, by_)) (hz : z.cells.size = k) (hk0 : 0 < k) (hby : by_ ≤ 1000)
  (hk : ∀ x, (enc x).length = k) (h1 : ∀ x, ∀ v ∈ enc x, v.oneCell' = true)
  (N : Nat) (v : Value) (l m : List α) (hs : a.eval s = v) (hown : OwnR enc k T N w v l) (p : Option Addr) (len cap : Nat) (hx : a.eval x = .slice p len cap) (hp : p = none → cap = 0) (hB : RS enc k w p len m)
  (hbig : l.length + m.length ≤ 1000000) (hN : N ≤ w.heap.size)
  (h : ∀ v' w', OwnR enc k T N w' v' (l ++ m) → w.grownBy w' v.ownBlock → (∀ w0, Below N w0 w → Below N w0 w') → K (a.put o.dst v') w') : Oper.wp Tryz.prog o a w K Q := by
 obtain ⟨i0, hi, hz0, hz1, hz2⟩ := info_parts hi
 have g1 := hB.1
 rcases p with _ | ad
 ·have hc := hp rfl
  have hl0 : len = 0 := by
   rcases hB.2.2 with h0 | ⟨b, off, hh, _⟩
   ·exact h0
   ·cases hh
  subst hc hl0
  obtain rfl : m = [] := List.eq_nil_of_length_eq_zero g1
  have hrun := run_append_owned_none (P := Tryz.prog) (w := w) N t o.type T i0 k ht hi v _ _ hown
  have hk := h v w (by rw [List.append_nil]; exact hown) ⟨rfl, rfl, rfl, Nat.le_refl _, fun _ _ _ => rfl⟩ (fun _ h => h)
  unfold Oper.wp execOp
  simp only [ho, resolve, invoke, builtin, Sem.run_bind, Sem.run_pure, Result.andThen_ok, List.map_toArray, List.map_cons, List.map_nil, hs, hx, hrun]
  exact hk
 ·have hmul : (l.length + len) * by_ ≤ 1000000 * 1000 := Nat.mul_le_mul (by omega) hby
  obtain ⟨v', w', hr, q1, q2, _⟩ := run_append_own (P := Tryz.prog) w N t o.type T i0 z k by_ ht hi hz0 hz1 hz2 hz hk0 v _ _ hown ad len cap (m.flatMap enc) (by rw [flatR_len enc k hk, g1])
   (by
    intro j u hj
    have hjl : j < m.length * k := by rw [← flatR_len enc k hk m]; exact (List.getElem?_eq_some_iff.1 hj).1
    rcases hB.2.2 with h0 | ⟨b, off, hh, hc⟩
    ·rw [g1, h0] at hjl; omega
    ·cases hh
     rw [addr_add]
     exact hB.cells j u hj hk hk0)
   (flatR_one enc h1 m) (by rw [← g1]; unfold maxLen; omega) (by omega) hN
  have e : l.length + len = (l ++ m).length := by rw [List.length_append, g1]
  rw [e, ← List.flatMap_append] at q1
  have hk := h v' w' q1 q2 (fun w0 hb => hb.grown q2 hN (fun j hj => (World.ownsRow.lt hown j hj).1))
  unfold Oper.wp execOp
  simp only [ho, resolve, invoke, builtin, Sem.run_bind, Sem.run_pure, Result.andThen_ok, List.map_toArray, List.map_cons, List.map_nil, hs, hx, hr]
  exact hk
end
theorem takeP {P : Program} {md : Region.Mode} {ops : Array Oper} {Q : Exit → Act → World → Prop} (i d : Nat) (v : Value) {oi : Oper} {fuel : Nat} {listed : Array Bool} {a : Act} {w : World} (hi : ops[i]? = some oi) (hd : oi.dst = some d)
  (hs : Region.noSelect ops = true) (hf : Region.free md ops listed i = true) (hr : (Region.ready md ops listed).contains i = true)
  (hQ : ∀ c a w, Q (.panic c) (a.put oi.dst v) w → Q (.panic c) a w) (hw : Region.wanted oi (yielded ops a.tmps) = true) (hy : ∀ w, (execOp a.eval oi).run P w = .ok (.value v) w)
  (h : wpAny P md ops Q fuel (listed.setIfInBounds i true) (a.put (some d) v) w) : wpAny P md ops Q (fuel + 1) listed a w :=
 wpAny_take hi hs hf hr hQ (Or.inl ⟨hw, hy⟩) (by rw [hd]; exact h)
end Go.Proofs.YtomppblgalepjaaGreatDoor

/- Rows of structs that lead elsewhere, told with where they lead (the blocks that a row's meaning hangs on): for lists of structs with slices in them. -/
namespace Go.Proofs.YtomppblgalepjaaGreatDoor
open Go.RowKit Go.Lib
set_option linter.unusedVariables false
abbrev FP := Nat → Prop
abbrev Row (k : Nat) := {r : List Value // r.length = k ∧ ∀ v ∈ r, v.oneCell' = true}
abbrev rv {k : Nat} (r : Row k) : List Value := r.1
theorem rv_len {k : Nat} (r : Row k) : (rv r).length = k := r.2.1
theorem rv_one {k : Nat} (r : Row k) : ∀ v ∈ rv r, v.oneCell' = true := r.2.2
abbrev Rf (α : Type) := World → List Value → α → FP → Prop
def StF {α : Type} (R : Rf α) : Prop := (∀ w w' r x F, R w r x F → (∀ g, F g → w'.heap[g]? = w.heap[g]?) → R w' r x F) ∧ ∀ w r x F, R w r x F → ∀ g, F g → g < w.heap.size
def Fok (N : Nat) (T : TypeId) (w : World) (F : FP) : Prop := ∀ g, F g → g < N ∨ ∃ C t fr, w.heap[g]? = some (.cells C t fr) ∧ t ≠ T
theorem Fok.mono {T : TypeId} {w : World} {F : FP} (h : Fok 0 T w F) (N : Nat) : Fok N T w F := fun g hg => (h g hg).imp (fun q => absurd q (Nat.not_lt_zero _)) id
theorem Fok.keep {N : Nat} {T : TypeId} {w w' : World} {F : FP} (h : Fok N T w F) (hk : ∀ g, F g → w'.heap[g]? = w.heap[g]?) : Fok N T w' F := fun g hg => by
 rcases h g hg with q | ⟨C, t, fr, q, r⟩
 ·exact .inl q
 ·exact .inr ⟨C, t, fr, by rw [hk g hg]; exact q, r⟩
section
variable {α : Type} {enc : α → List Value} {k : Nat} {T : TypeId}
theorem RS.keep {w w' : World} {a : Option Addr} {n : Nat} {l : List α} (h : RS enc k w a n l) (hk : 0 < n → ∀ b, a = some b → w'.heap[b.block]? = w.heap[b.block]?) : RS enc k w' a n l := by
 obtain ⟨h1, h2, h3⟩ := h
 refine ⟨h1, h2, ?_⟩
 rcases h3 with h0 | ⟨b, off, rfl, hc⟩
 ·exact .inl h0
 ·by_cases h0 : n = 0
  ·exact .inl h0
  ·refine .inr ⟨b, off, rfl, fun i x hx j v hv => ?_⟩
   rw [World.cell?_of_block (a := ⟨b, off + i * k + j, none⟩) (show w'.heap[b]? = w.heap[b]? from hk (by omega) ⟨b, off, none⟩ rfl)]
   exact hc i x hx j v hv
def FlF (w : World) (p : Option Addr) (n : Nat) (F : FP) : Prop := (∀ g, F g → g < w.heap.size) ∧ (0 < n → ∀ a, p = some a → F a.block)
theorem OwnR.at {N : Nat} {w : World} {v : Value} {l : List α} (h : OwnR enc k T N w v l) {g : Nat} (hg : v.ownBlock = some g) : N ≤ g ∧ ∃ C fr, w.heap[g]? = some (.cells C T fr) := by
 rcases h.2 with ⟨rfl, _⟩ | ⟨g', cap, cur, rfl, hb, hgg, _⟩
 ·simp [Value.ownBlock] at hg
 ·simp [Value.ownBlock] at hg
  subst hg
  exact ⟨hb, _, _, hgg⟩
theorem OwnR.others {N : Nat} {w w' : World} {v : Value} {l : List α} (h : OwnR enc k T N w v l) (hg : w.grownBy w' v.ownBlock) {F : FP} (hf : Fok N T w F) (hl : ∀ g, F g → g < w.heap.size) : ∀ g, F g → w'.heap[g]? = w.heap[g]? := fun g hg' => by
 refine hg.block g (hl g hg') (fun e => ?_)
 obtain ⟨h1, C, fr, h2⟩ := h.at e.symm
 rcases hf g hg' with q | ⟨C', t, fr', q, hne⟩
 ·omega
 ·rw [h2] at q
  cases q
  exact hne rfl
end
section
variable {α : Type} {k : Nat} {R : Rf α} {T : TypeId}
def SF (k : Nat) (R : Rf α) (w : World) (p : Option Addr) (n : Nat) (l : List α) : Prop := ∃ rows : List (Row k), RS rv k w p n rows ∧ rows.length = l.length ∧ ∀ (i : Nat) r x, rows[i]? = some r → l[i]? = some x → ∃ F, R w r.1 x F
theorem SF.below (hR : StF R) {w w' : World} {p : Option Addr} {n : Nat} {l : List α} (h : SF k R w p n l) (hb : Below w.heap.size w w') : SF k R w' p n l := by
 obtain ⟨rows, h1, h2, h3⟩ := h
 refine ⟨rows, h1.below hb, h2, fun i r x hr hx => ?_⟩
 obtain ⟨F, hF⟩ := h3 i r x hr hx
 exact ⟨F, hR.1 _ _ _ _ _ hF (fun g hg => hb.block g (hR.2 _ _ _ _ hF g hg))⟩
theorem SF.len {w : World} {p : Option Addr} {n : Nat} {l : List α} (h : SF k R w p n l) : l.length = n := by
 obtain ⟨rows, h1, h2, _⟩ := h
 rw [← h2]
 exact h1.1
theorem SF.nil (w : World) (p : Option Addr) : SF k R w p 0 [] := ⟨[], RS.nil w p, rfl, fun i r x hr => by simp at hr⟩
theorem SF.addr {w : World} {p : Option Addr} {n : Nat} {l : List α} (h : SF k R w p n l) (h0 : 0 < n) : ∃ b off, p = some ⟨b, off, none⟩ := by
 obtain ⟨rows, h1, _⟩ := h
 rcases h1.2.2 with hz | ⟨b, off, ha, _⟩
 ·omega
 ·exact ⟨b, off, ha⟩
theorem SF.at {w : World} {b off n : Nat} {l : List α} (h : SF k R w (some ⟨b, off, none⟩) n l) (i : Nat) (hi : i < n) : ∃ (r : Row k) (x : α) (F : FP), l[i]? = some x ∧ R w r.1 x F ∧ ∀ j v, r.1[j]? = some v → w.cell? ⟨b, off + i * k + j, none⟩ = some v := by
 obtain ⟨rows, h1, h2, h3⟩ := h
 have hr : i < rows.length := by rw [h1.1]; exact hi
 have hx : i < l.length := by rw [← h2]; exact hr
 obtain ⟨F, hF⟩ := h3 i _ _ (List.getElem?_eq_getElem hr) (List.getElem?_eq_getElem hx)
 refine ⟨rows[i], l[i], F, List.getElem?_eq_getElem hx, hF, fun j v hv => ?_⟩
 rcases h1.2.2 with hz | ⟨b', off', ha, hc⟩
 ·omega
 ·cases ha
  exact hc i _ (List.getElem?_eq_getElem hr) j v hv
def OwnF (k : Nat) (R : Rf α) (T : TypeId) (N : Nat) (w : World) (v : Value) (l : List α) : Prop := ∃ rows : List (Row k), OwnR rv k T N w v rows ∧ rows.length = l.length ∧ ∀ (i : Nat) r x, rows[i]? = some r → l[i]? = some x → ∃ F, R w r.1 x F ∧ Fok 0 T w F
theorem OwnF.mono {N N' : Nat} {w : World} {v : Value} {l : List α} (h : OwnF k R T N w v l) (hN : N' ≤ N) : OwnF k R T N' w v l := by
 obtain ⟨rows, h1, h2, h3⟩ := h
 exact ⟨rows, h1.mono hN, h2, h3⟩
theorem OwnF.nil (N : Nat) (w : World) : OwnF k R T N w (.slice none 0 0) [] := ⟨[], OwnR.nil N w, rfl, fun i r x hr => by simp at hr⟩
theorem OwnF.below (hR : StF R) {N : Nat} {w w' : World} {v : Value} {l : List α} (h : OwnF k R T N w v l) (hb : Below w.heap.size w w') : OwnF k R T N w' v l := by
 obtain ⟨rows, h1, h2, h3⟩ := h
 refine ⟨rows, h1.below hb, h2, fun i r x hr hx => ?_⟩
 obtain ⟨F, hF, hf⟩ := h3 i r x hr hx
 have hk : ∀ g, F g → w'.heap[g]? = w.heap[g]? := fun g hg => hb.block g (hR.2 _ _ _ _ hF g hg)
 exact ⟨F, hR.1 _ _ _ _ _ hF hk, hf.keep hk⟩
theorem OwnF.open {N : Nat} {w : World} {v : Value} {l : List α} (h : OwnF k R T N w v l) : ∃ p c, v = .slice p l.length c ∧ SF k R w p l.length l ∧ CP p l.length c := by
 obtain ⟨rows, h1, h2, h3⟩ := h
 obtain ⟨p, c, hv, hr, hc⟩ := h1.open rv_len
 rw [h2] at hv hr hc
 exact ⟨p, c, hv, ⟨rows, hr, h2, fun i r x hr hx => by obtain ⟨F, hF, _⟩ := h3 i r x hr hx; exact ⟨F, hF⟩⟩, hc⟩
theorem OwnF.app (hR : StF R) {N : Nat} {w w' : World} {v v' : Value} {l m : List α} {rows rows' : List (Row k)} (h1 : OwnR rv k T N w v rows) (h2 : rows.length = l.length) (h3 : ∀ (i : Nat) r x, rows[i]? = some r → l[i]? = some x → ∃ F, R w r.1 x F ∧ Fok 0 T w F) (k2 : rows'.length = m.length) (k3 : ∀ (i : Nat) r x, rows'[i]? = some r → m[i]? = some x → ∃ F, R w r.1 x F ∧ Fok 0 T w F) (hg : w.grownBy w' v.ownBlock) (ho : OwnR rv k T N w' v' (rows ++ rows')) : OwnF k R T N w' v' (l ++ m) := by
 have q : ∀ r x F, R w r x F → Fok 0 T w F → R w' r x F ∧ Fok 0 T w' F := fun r x F hF hf => by
  have hk := h1.others hg (hf.mono N) (hR.2 _ _ _ _ hF)
  exact ⟨hR.1 _ _ _ _ _ hF hk, hf.keep hk⟩
 refine ⟨rows ++ rows', ho, by rw [List.length_append, List.length_append, h2, k2], fun i r x hr hx => ?_⟩
 by_cases hi : i < rows.length
 ·rw [List.getElem?_append_left hi] at hr
  rw [List.getElem?_append_left (by omega)] at hx
  obtain ⟨F, hF, hf⟩ := h3 i r x hr hx
  exact ⟨F, q _ _ _ hF hf⟩
 ·rw [List.getElem?_append_right (by omega)] at hr
  rw [List.getElem?_append_right (by omega)] at hx
  rw [h2] at hr
  obtain ⟨F, hF, hf⟩ := k3 _ r x hr hx
  exact ⟨F, q _ _ _ hF hf⟩
theorem append_ft (hR : StF R) {w : World} {ops : Array Oper} {rest : List Oper} {o : Oper} {a : Act} {Q : Exit → Act → World → Prop} (hgd : o.guard = none) (s x : Operand) (t : TypeId)
  (ho : o.op = .call { callee := .builtin .append, args := #[s, x], argTypes := #[t, t] })
  (ht : Tryz.prog.underlying t = some (.slice T)) {z : Value} {by_ : Nat} (hi : (Tryz.prog.info? T).map (fun i => (i.zero, i.size, i.bytes)) = some (some z, k, by_)) (hz : z.cells.size = k) (hk0 : 0 < k) (hby : by_ ≤ 1000)
  (N : Nat) (v : Value) (l : List α) (hs : a.eval s = v) (hown : OwnF k R T N w v l) (p : Option Addr) (cap : Nat) (hx : a.eval x = .slice p 1 cap) (hp : p = none → cap = 0) (r : Row k) (hB : RS rv k w p 1 [r]) (y : α) (F : FP) (hF : R w r.1 y F) (hf : Fok 0 T w F)
  (hbig : l.length + 1 ≤ 1000000) (hN : N ≤ w.heap.size)
  (h : ∀ v' w', OwnF k R T N w' v' (l ++ [y]) → w.grownBy w' v.ownBlock → (∀ w0, Below N w0 w → Below N w0 w') → wpList Tryz.prog ops Q rest (a.put o.dst v') w') : wpList Tryz.prog ops Q (o :: rest) a w := by
 obtain ⟨rows, h1, h2, h3⟩ := hown
 refine append_rows hgd s x t ho ht hi hz hk0 hby rv_len rv_one N v rows [r] hs h1 p 1 cap hx hp hB (by rw [h2]; exact hbig) hN ?_
 intro v' w' ho' hg hb
 refine h v' w' (OwnF.app hR (m := [y]) h1 h2 h3 rfl (fun i r' x' hr hx' => ?_) hg ho') hg hb
 rcases i with _ | i
 ·simp at hr hx'
  subst hr
  subst hx'
  exact ⟨F, hF, hf⟩
 ·simp at hr
end
end Go.Proofs.YtomppblgalepjaaGreatDoor

