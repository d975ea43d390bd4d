/- An entry stored into a set of the call's own; 'copy' of structs; slices.Insert of an entry (layer 9). -/
import Derived.Test.YtiodlpoeifmldaaZ9
import Derived.Shelf.Spec.SlicesInsert
import Derived.Lib.AppendZerosOnto
import Derived.Laws.NewBlocks
import Derived.Laws.CopyRow
namespace Go.Proofs.Ytiodlpoeifmldaa
open Go.RowKit Go.Lib
set_option linter.unusedVariables false
theorem grown_setRow (w : World) (g : Nat) (cs : Array Value) : w.grownBy (w.setRow g cs) (some g) := ⟨rfl, rfl, rfl, by simp, fun j hj hne => setRow_other _ _ _ _ (fun e => hne (by rw [e]))⟩
theorem grown_set1 (w : World) (g i : Nat) (v : Value) : w.grownBy (w.setCell ⟨g, i, none⟩ v) (some g) := ⟨rfl, rfl, rfl, by simp [World.setCell], fun j hj hne => by
  have : g ≠ j := fun e => hne (by rw [e])
  simp [World.setCell, Array.getElem?_modify, this]⟩
theorem grown_drew (w : World) (r : Option Nat) : w.grownBy w.drew r := ⟨rfl, rfl, rfl, Nat.le_refl _, fun _ _ _ => rfl⟩
theorem grown_alloc (w : World) (o : Obj) (r : Option Nat) : w.grownBy (w.alloc o) r := ⟨rfl, rfl, rfl, (bel1 w o).size, fun j hj _ => (bel1 w o).block j hj⟩
theorem grown_trans {w w1 w2 : World} {r : Option Nat} (h1 : w.grownBy w1 r) (h2 : w1.grownBy w2 r) : w.grownBy w2 r := ⟨h2.os.trans h1.os, h2.tape.trans h1.tape, h2.output.trans h1.output, Nat.le_trans h1.size h2.size, fun j hj hne => (h2.block j (Nat.lt_of_lt_of_le hj h1.size) hne).trans (h1.block j hj hne)⟩
/-- What the rows of entries are in cells. -/
abbrev flN (xs : List Ne) : List Value := xs.flatMap encN
theorem flN_len (xs : List Ne) : (flN xs).length = xs.length * 3 := flatR_len encN 3 encN_len xs
theorem flN_app (xs ys : List Ne) : flN (xs ++ ys) = flN xs ++ flN ys := List.flatMap_append
theorem flN_take (xs : List Ne) (i : Nat) (h : i ≤ xs.length) : flN (xs.take i) = (flN xs).take (i * 3) := by
  have e : flN xs = flN (xs.take i) ++ flN (xs.drop i) := by rw [← flN_app, List.take_append_drop]
  have e2 : (flN (xs.take i)).length = i * 3 := by rw [flN_len, List.length_take]; omega
  rw [e, ← e2, List.take_left]
theorem flN_drop (xs : List Ne) (i : Nat) (h : i ≤ xs.length) : flN (xs.drop i) = (flN xs).drop (i * 3) := by
  have e : flN xs = flN (xs.take i) ++ flN (xs.drop i) := by rw [← flN_app, List.take_append_drop]
  have e2 : (flN (xs.take i)).length = i * 3 := by rw [flN_len, List.length_take]; omega
  rw [e, ← e2, List.drop_left]
theorem flN_set : ∀ (xs : List Ne) (i : Nat) (x : Ne), i < xs.length → flN (xs.set i x) = (((flN xs).set (i * 3) (.string x.1)).set (i * 3 + 1) (.slice x.2.1.1 x.2.1.2.1 x.2.1.2.2)).set (i * 3 + 2) (.slice x.2.2.1 x.2.2.2.1 x.2.2.2.2)
  | [], _, _, h => by simp at h
  | y :: ys, 0, x, _ => rfl
  | y :: ys, i + 1, x, h => by
    have ih := flN_set ys i x (by simpa using h)
    rw [List.set_cons_succ]
    unfold flN at *
    rw [List.flatMap_cons, List.flatMap_cons, ih, show (i + 1) * 3 = i * 3 + 3 by omega]
    rfl
theorem ON.row {N : Nat} {w : World} {g n cap : Nat} {es : List En} (h : ON N w (.slice (some ⟨g, 0, none⟩) n cap) es) : ∃ (xs : List Ne) (C : Array Value), xs.length = n ∧ es.length = n ∧ N ≤ g ∧ BX w g C 48 ∧ n ≤ cap ∧ cap ≤ maxLen ∧ C.size = cap * 3 ∧ C.toList.take (n * 3) = flN xs ∧ Rels w xs es ∧ (∀ x ∈ xs, Lo N w x.2.1 ∧ Lo N w x.2.2) ∧ OwnR encN 3 48 N w (.slice (some ⟨g, 0, none⟩) n cap) xs := by
  obtain ⟨xs, h1, h2, h3⟩ := h
  have h0 := h1
  obtain ⟨_, h1⟩ := h1
  rcases h1 with ⟨q, _⟩ | ⟨g', cap', cur, q, k1, k2, k3, k4, k5, k6⟩
  · cases q
  · simp only [Value.slice.injEq, Option.some.injEq, Addr.mk.injEq, and_true] at q
    obtain ⟨rfl, hn, rfl⟩ := q
    subst hn
    exact ⟨xs, cur, rfl, h2.1.symm, k1, k2, k3, k4, k5, k6, h2, h3, h0⟩
theorem ON.of {N : Nat} {w : World} {g n cap : Nat} {es : List En} {xs : List Ne} {C : Array Value} (h0 : xs.length = n) (h1 : N ≤ g) (h2 : BX w g C 48) (h3 : n ≤ cap) (h4 : cap ≤ maxLen) (h5 : C.size = cap * 3) (h6 : C.toList.take (n * 3) = flN xs) (hr : Rels w xs es) (hl : ∀ x ∈ xs, Lo N w x.2.1 ∧ Lo N w x.2.2) : ON N w (.slice (some ⟨g, 0, none⟩) n cap) es := by
  subst h0
  exact ⟨xs, ⟨flN_len xs, .inr ⟨g, cap, C, rfl, h1, h2, h3, h4, h5, h6⟩⟩, hr, hl⟩
theorem Rels.set {w : World} {xs : List Ne} {es : List En} (h : Rels w xs es) (i : Nat) {x : Ne} {e : En} (hx : RelN w x e) : Rels w (xs.set i x) (es.set i e) := by
  refine ⟨by rw [List.length_set, List.length_set, h.1], fun j y f hy hf => ?_⟩
  by_cases hj : i = j
  · subst hj
    have hl : i < xs.length := by have := (List.getElem?_eq_some_iff.1 hy).1; simpa using this
    rw [List.getElem?_set_self hl] at hy
    rw [List.getElem?_set_self (by rw [← h.1]; exact hl)] at hf
    cases hy
    cases hf
    exact hx
  · rw [List.getElem?_set_ne hj] at hy hf
    exact h.2 j y f hy hf
theorem ON.put {N : Nat} {w : World} {g n cap : Nat} {es : List En} (h : ON N w (.slice (some ⟨g, 0, none⟩) n cap) es) (i : Nat) (hi : i < n) {x : Ne} {e : En} (hx : RelN w x e) (hl : Lo N w x.2.1 ∧ Lo N w x.2.2) :
    ON N (((w.setCell ⟨g, i * 3, none⟩ (.string x.1)).setCell ⟨g, i * 3 + 1, none⟩ (.slice x.2.1.1 x.2.1.2.1 x.2.1.2.2)).setCell ⟨g, i * 3 + 2, none⟩ (.slice x.2.2.1 x.2.2.2.1 x.2.2.2.2)) (.slice (some ⟨g, 0, none⟩) n cap) (es.set i e) ∧ ∀ w0, Below N w0 w → Below N w0 (((w.setCell ⟨g, i * 3, none⟩ (.string x.1)).setCell ⟨g, i * 3 + 1, none⟩ (.slice x.2.1.1 x.2.1.2.1 x.2.1.2.2)).setCell ⟨g, i * 3 + 2, none⟩ (.slice x.2.2.1 x.2.2.2.1 x.2.2.2.2)) := by
  obtain ⟨xs, C, k0, k0', k1, k2, k3, k4, k5, k6, k7, k8, k9⟩ := h.row
  have hg := grown_trans (grown_trans (grown_set1 w g (i * 3) (.string x.1)) (grown_set1 _ g (i * 3 + 1) (.slice x.2.1.1 x.2.1.2.1 x.2.1.2.2))) (grown_set1 _ g (i * 3 + 2) (.slice x.2.2.1 x.2.2.2.1 x.2.2.2.2))
  obtain ⟨r1, r2⟩ := Rels.grown k9 k7 k8 hg
  obtain ⟨s1, s2⟩ := RelN.grown k9 hx hl hg
  refine ⟨ON.of (xs := xs.set i x) (by rw [List.length_set]; exact k0) k1 (((k2.set _ _).set _ _).set _ _) k3 k4 (by simp only [Array.size_setIfInBounds]; exact k5) ?_ (r1.set i s1) (fun y hy => ?_), fun w0 hb => ((hb.setCell k1 _).setCell k1 _).setCell k1 _⟩
  · rw [flN_set xs i x (by omega), ← k6]
    simp only [Array.toList_setIfInBounds, List.take_set]
  · rcases List.mem_or_eq_of_mem_set hy with q | q
    · exact r2 y q
    · subst q; exact s2
/-- 'copy' of structs of k cells into a row that is known whole. -/
theorem run_copy_rowK {P : Program} (w : World) (dT sT ty elem : TypeId) (g o dLen dCap : Nat) (a : Addr) (sLen sCap k m : Nat) (cur : Array Value) (t : TypeId) (cs : List Value)
    (hu : P.underlying dT = some (.slice elem)) (hs : (P.info? elem).map (·.size) = some k)
    (hg : w.heap[g]? = some (.cells cur t (0, 0))) (hm : Nat.min sLen dLen = m) (hn : cs.length = m * k)
    (hsrc : ∀ j v, cs[j]? = some v → w.cell? (a.add j) = some v) (hfit : o + cs.length ≤ cur.size) (h1 : ∀ v ∈ cs, v.oneCell' = true) :
    (Builtin.copy_ #[dT, sT] ty #[.slice (some ⟨g, o, none⟩) dLen dCap, .slice (some a) sLen sCap]).run P w =
      .ok (goInt m) (w.setRow g (cur.toList.take o ++ cs ++ cur.toList.drop (o + cs.length)).toArray) := by
  have hl := run_loadCells_list (P := P) w a cs hsrc
  have hst := run_storeCells_at P g o t cs 0 cur w hg (by simpa using hfit) h1
  cases hq : P.info? elem with
  | none => simp [hq] at hs
  | some i =>
    have hi : i.size = k := by simpa [hq] using hs
    simp [Builtin.copy_, run_underlying hu, Builtin.lenOf, Builtin.firstCells, sizeOf, typeInfo, hq, hi, hm, ← hn, hl, hst]
end Go.Proofs.Ytiodlpoeifmldaa
