/- Sorted and compacted, dots are in order, each once; rows of dots in a block of the call's own. -/
import Derived.Test.YtccpbkemiilgcaaDFun1
import Derived.Test.YtccpbkemiilgcaaDSeen
import Derived.Test.YtccpbkemiilgcaaDLay
import Derived.Shelf.SlSortCmp.NoneTotal
import Derived.Lib.SlicesCompact
import Derived.Lib.SliceRun
import Derived.Laws.AppendOwnNone
namespace Go.Proofs.Ytccpbkemiilgcaa
open Go.RowKit Go.Lib Go.Sort
set_option linter.unusedVariables false

theorem ltOf_cmpD (x y : Dot) : ltOf cmpD x y = lessD x y := by
  unfold ltOf; rw [Bool.eq_iff_iff, decide_eq_true_iff]; exact cmpD_lt
theorem swoD : SWO (ltOf cmpD) where
  irrefl x := by rw [ltOf_cmpD]; exact lessD_irr x
  trans x y z h1 h2 := by rw [ltOf_cmpD] at *; exact lessD_trans h1 h2
  ntrans x y z h1 h2 := by
    rw [ltOf_cmpD] at *
    simp only [lessD, decide_eq_false_iff_not] at *
    omega

theorem compact_upto (d : Array Dot) (hs : ∀ i j, i < j → j < d.size → lessD d[j]! d[i]! = false) : ∀ m, m ≤ d.size → SrtD (compactUpTo d m) ∧ ∀ x, x ∈ compactUpTo d m ↔ ∃ j, j < m ∧ d[j]! = x
  | 0, _ => by simp [compactUpTo, SrtD]
  | m + 1, hm => by
    obtain ⟨h1, h2⟩ := compact_upto d hs m (by omega)
    rw [compactUpTo_succ]
    by_cases hk : keeps d m = true
    · rw [if_pos hk]
      refine ⟨List.pairwise_append.2 ⟨h1, by simp, fun x hx y hy => ?_⟩, fun x => ?_⟩
      · rw [List.mem_singleton] at hy
        subst hy
        obtain ⟨j, hj, rfl⟩ := (h2 x).1 hx
        have q1 := hs j m hj (by omega)
        rcases lessD_tri d[j]! d[m]! with q | q | q
        · exact q
        · exfalso
          have hk' : d[m]! ≠ d[m - 1]! := by
            unfold keeps at hk
            simp only [decide_eq_true_eq] at hk
            rcases hk with k | k
            · omega
            · exact k
          by_cases e : j = m - 1
          · rw [e] at q; exact hk' q.symm
          · have q2 := hs j (m - 1) (by omega) (by omega)
            have q3 := hs (m - 1) m (by omega) (by omega)
            rw [q] at q2
            rcases lessD_tri d[m - 1]! d[m]! with z | z | z
            · rw [z] at q2; cases q2
            · exact hk' z.symm
            · rw [z] at q3; cases q3
        · rw [q] at q1; cases q1
      · rw [List.mem_append, List.mem_singleton, h2 x]
        constructor
        · rintro (⟨j, hj, e⟩ | e)
          · exact ⟨j, by omega, e⟩
          · exact ⟨m, by omega, e.symm⟩
        · rintro ⟨j, hj, e⟩
          by_cases e2 : j = m
          · subst e2; exact .inr e.symm
          · exact .inl ⟨j, by omega, e⟩
    · rw [if_neg hk, List.append_nil]
      refine ⟨h1, fun x => ?_⟩
      rw [h2 x]
      have hk' : 0 < m ∧ d[m]! = d[m - 1]! := by
        unfold keeps at hk
        simp only [decide_eq_true_eq, not_or, ne_eq, Decidable.not_not] at hk
        exact ⟨by omega, hk.2⟩
      constructor
      · rintro ⟨j, hj, e⟩
        exact ⟨j, by omega, e⟩
      · rintro ⟨j, hj, e⟩
        by_cases e2 : j = m
        · subst e2; exact ⟨j - 1, by omega, by rw [← hk'.2]; exact e⟩
        · exact ⟨j, by omega, e⟩
theorem mem_get (d : Array Dot) (x : Dot) : x ∈ d.toList ↔ ∃ j, j < d.size ∧ d[j]! = x := by
  constructor
  · intro h
    obtain ⟨j, hj, e⟩ := List.getElem_of_mem h
    exact ⟨j, by simpa using hj, by rw [getElem!_pos d j (by simpa using hj)]; simpa using e⟩
  · rintro ⟨j, hj, rfl⟩
    rw [getElem!_pos d j hj]
    simp
theorem compact_ord {l : List Dot} {d : Array Dot} (hp : PermIn 0 l.toArray.size l.toArray d) (hs : SortedIn (ltOf cmpD) 0 l.toArray.size d) : compactUpTo d d.size = ordD l := by
  obtain ⟨hsz, _, hperm⟩ := hp
  have e1 : (d.extract 0 l.toArray.size).toList = d.toList := by rw [← hsz]; simp
  have e2 : (l.toArray.extract 0 l.toArray.size).toList = l := by simp
  rw [e1, e2] at hperm
  have h := compact_upto d (fun i j hij hj => by rw [← ltOf_cmpD]; exact hs i j (Nat.zero_le _) hij (by rw [← hsz]; exact hj)) d.size (Nat.le_refl _)
  refine ordD_is h.1 fun x => ?_
  rw [h.2 x, ← mem_get]
  exact hperm.mem_iff

/-- A block's row of dots, none of it frozen. -/
def HD (w : World) (g : Nat) (d : Array Dot) : Prop := ∀ i, i < d.size →
  w.cell? ⟨g, i * 2, none⟩ = some (.int .i64 d[i]!.1) ∧ w.cell? ⟨g, i * 2 + 1, none⟩ = some (.int .i64 d[i]!.2) ∧ w.frozen? ⟨g, i * 2, none⟩ = false ∧ w.frozen? ⟨g, i * 2 + 1, none⟩ = false
theorem HD.to {w : World} {g : Nat} {d : Array Dot} (h : HD w g d) : HoldsK encD 2 w g 0 d := by
  intro j hj
  rw [size_flatK] at hj
  rw [get_flatK _ _ _ _ hj, Nat.zero_add]
  have k := h (j / 2) (by omega)
  rcases Nat.mod_two_eq_zero_or_one j with e | e
  · have e2 : j = j / 2 * 2 := by omega
    rw [e]
    constructor
    · rw [show (⟨g, j, none⟩ : Addr) = ⟨g, j / 2 * 2, none⟩ by rw [← e2], k.1]; rfl
    · rw [show (⟨g, j, none⟩ : Addr) = ⟨g, j / 2 * 2, none⟩ by rw [← e2]]; exact k.2.2.1
  · have e2 : j = j / 2 * 2 + 1 := by omega
    rw [e]
    constructor
    · rw [show (⟨g, j, none⟩ : Addr) = ⟨g, j / 2 * 2 + 1, none⟩ by rw [← e2], k.2.1]; rfl
    · rw [show (⟨g, j, none⟩ : Addr) = ⟨g, j / 2 * 2 + 1, none⟩ by rw [← e2]]; exact k.2.2.2
theorem HD.of {w : World} {g : Nat} {d : Array Dot} (h : HoldsK encD 2 w g 0 d) : HD w g d := by
  intro i hi
  have a := h.cell (c := 0) hi (by omega)
  have b := h.cell (c := 1) hi (by omega)
  rw [Nat.zero_add, Nat.add_zero] at a
  rw [Nat.zero_add] at b
  exact ⟨a.1, b.1, a.2, b.2⟩
theorem HD.ds {w : World} {g : Nat} {d : Array Dot} (h : HD w g d) (l : List Dot) (hl : l.length ≤ d.size) (hm : d.size ≤ maxLen) (hg : ∀ j, j < l.length → l[j]? = some d[j]!) : DS w (some ⟨g, 0, none⟩) l.length l := by
  refine ⟨rfl, by omega, .inr ⟨g, 0, rfl, fun i hi => ?_⟩⟩
  have e : l.getD i (0, 0) = d[i]! := by rw [List.getD_eq_getElem?_getD, hg i hi]; rfl
  rw [e, Nat.zero_add]
  exact ⟨(h i (by omega)).1, (h i (by omega)).2.1⟩
theorem HD.below {w w' : World} {g : Nat} {d : Array Dot} (h : HD w g d) (hb : Below w.heap.size w w') (hg : g < w.heap.size) : HD w' g d := fun i hi =>
  ⟨bcell hb (h i hi).1, bcell hb (h i hi).2.1, by rw [hb.frozen hg]; exact (h i hi).2.2.1, by rw [hb.frozen hg]; exact (h i hi).2.2.2⟩
theorem HD.drew {w : World} {g : Nat} {d : Array Dot} (h : HD w g d) : HD w.drew g d := h
theorem OwnD.row {N : Nat} {w : World} {v : Value} {l : List Dot} (h : OwnD N w v l) : (l = [] ∧ v = .slice none 0 0) ∨ ∃ g cap, v = .slice (some ⟨g, 0, none⟩) l.length cap ∧ N ≤ g ∧ g < w.heap.size ∧ l.length ≤ cap ∧ cap ≤ maxLen ∧ HD w g l.toArray := by
  have h0 := h
  obtain ⟨_, h2⟩ := h
  rcases h2 with ⟨rfl, h2⟩ | ⟨g, cap, cur, rfl, hb, hg, hc1, hc2, hs, ht⟩
  · exact .inl ⟨List.eq_nil_of_length_eq_zero h2, rfl⟩
  · refine .inr ⟨g, cap, rfl, hb, (Array.getElem?_eq_some_iff.1 hg).1, hc1, hc2, fun i hi => ?_⟩
    have hi' : i < l.length := by simpa using hi
    have hf := flatD_get l i hi'
    have e : l.toArray[i]! = l.getD i (0, 0) := by rw [getElem!_pos _ i hi]; simp [List.getD_eq_getElem?_getD, hi']
    have fz : ∀ o, w.frozen? ⟨g, o, none⟩ = false := fun o => by simp [World.frozen?, hg]
    rw [World.ownsRow.cellAt h0 (i * 2) (by omega), World.ownsRow.cellAt h0 (i * 2 + 1) (by omega), e]
    exact ⟨hf.1, hf.2, fz _, fz _⟩
theorem heap_put_other (w : World) (g k : Nat) (d : Array Dot) (h : k ≠ g) : (putRowK encD 2 w g 0 d).heap[k]? = w.heap[k]? := by
  unfold putRowK putRow mapBlock
  simp only [Array.getElem?_modify]
  rw [if_neg (fun e => h e.symm)]
theorem bel_sort (w : World) (N g n : Nat) (d : Array Dot) (os : Array Obj) (hN : N ≤ g) (hg : g < w.heap.size) : Below N w (sortWorldK encD 2 w g 0 n d os) := by
  refine ⟨rfl, rfl, rfl, size_sortWorldK_c encD 2 w g 0 n d os, fun k hk => ?_⟩
  unfold sortWorldK
  rw [heap_grow_old _ _ (by rw [size_putRowK]; show k < w.heap.size; omega), heap_put_other _ _ _ _ (by omega)]
  rfl

theorem cmpLaysD (blk off size : Nat) (w : World) : CmpLays Try.prog 39 #[] encD 2 cmpD blk off size w :=
  fun _ _ _ _ x y => compare_any x y _
/-- 'slices.SortFunc' of a row of the call's own. -/
theorem sort_any (N g cap : Nat) (l : List Dot) (w : World) (hN : N ≤ g) (hg : g < w.heap.size) (hH : HD w g l.toArray) (hl : l.length ≤ 1000000) :
    Calls Try.prog 38 #[.slice (some ⟨g, 0, none⟩) l.length cap, .func (.func 39) #[] #[]] w fun e w' => e = .returned (.tuple #[]) ∧ Below N w w' ∧ g < w'.heap.size ∧ ∃ d : Array Dot, d.size = l.length ∧ HD w' g d ∧ compactUpTo d d.size = ordD l := by
  have eg : ∀ args w, (callFunc 39 args).run Try.prog w = .ok (.enter 39 args) w := enters_of Try.func39 (by kernel_rfl) rfl
  have hcon := AnyQ.slices_SortFunc sortD 2 Try.isAgg28 Try.sizeOf28 encD (fun _ => rfl) (fun x v hv => by simp [encD] at hv; rcases hv with rfl | rfl <;> rfl) cmpD swoD 39 #[] g 0 cap l.toArray w eg (cmpLaysD g 0 _ w) hH.to hg (by simp; omega)
  change Calls Try.prog 38 _ _ _ at hcon
  refine Calls.mono hcon ?_
  rintro e w' ⟨rfl, d', n, os, hp, hs, rfl⟩
  have hsz : d'.size = l.toArray.size := hp.1
  exact ⟨rfl, bel_sort w N g n d' os hN hg, Nat.lt_of_lt_of_le hg (size_sortWorldK_c encD 2 w g 0 n d' os), d', hsz, HD.of (holdsK_sortWorldK_c encD 2 w g 0 l.toArray d' n os hH.to hg hsz), compact_ord hp hs⟩
end Go.Proofs.Ytccpbkemiilgcaa
