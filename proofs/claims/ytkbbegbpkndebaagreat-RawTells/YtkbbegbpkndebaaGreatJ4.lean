/- Texts of this claim, joined: A0, GRel. -/
import Derived.SizedLaws
import Derived.Deep.Matrix
import Derived.Deep.SlicePairs
import Derived.Lib.SmallJoins
import Derived.OpenShut
import Derived.ProofKit
import Derived.Test.YtkbbegbpkndebaaGreatJ1
import Derived.Test.YtkbbegbpkndebaaGreatJ2
import Derived.Test.YtkbbegbpkndebaaGreatJ3
/- Keys in order; sets of keys with their dots: which may be, a key's dots, a set with a key's dots put: in plain mathematics. -/
namespace Go.Proofs.YtkbbegbpkndebaaGreat
set_option linter.unusedVariables false

/-! Sets -/
abbrev En := ByteArray × List Dot × List Dot
def rowsB (l : List Dot) : Bool := l.all mayD && decide (ordD l = l)
def mayN (x : En) : Bool := mayK x.1 && decide (x.2.1 ≠ []) && decide (x.2.2 = []) && rowsB x.2.1
def SrtK (s : List En) : Prop := s.Pairwise (fun a b => ltK a.1 b.1 = true)
def risB : List En → Bool
 | [] => true
 | [_] => true
 | a :: b :: r => ltK a.1 b.1 && risB (b :: r)
def mayS (s : List En) : Bool := s.all mayN && risB s && decide (s.length ≤ 4000)
def getS : List En → ByteArray → List Dot
 | [], _ => []
 | x :: r, k => if x.1 = k then x.2.1 else getS r k
def putS (s : List En) (k : ByteArray) (l : List Dot) : List En :=
 s.filter (fun x => ltK x.1 k) ++ (if l = [] then [] else [(k, l, [])]) ++ s.filter (fun x => ltK k x.1)
def leftD (l : List Dot) (c : List Int) : List Dot := l.filter (fun d => decide (getZ c d.1 < d.2))
def addS (s : List En) (k : ByteArray) (d : Dot) (c : List Int) : List En := putS s k (putD (leftD (getS s k) c) d)
def dropS (s : List En) (k : ByteArray) (c : List Int) : List En := putS s k (leftD (getS s k) c)

theorem ordD_self {l : List Dot} : ordD l = l ↔ SrtD l := ⟨fun h => h ▸ ordD_srt l, fun h => (ordD_is h (fun _ => Iff.rfl)).symm⟩
theorem rowsB_iff {l : List Dot} : rowsB l = true ↔ (∀ d ∈ l, mayD d = true) ∧ SrtD l := by
 simp [rowsB, ordD_self]
theorem mayN_iff {x : En} : mayN x = true ↔ mayK x.1 = true ∧ x.2.1 ≠ [] ∧ x.2.2 = [] ∧ rowsB x.2.1 = true := by
 simp [mayN, and_assoc]
theorem risB_iff : ∀ {s : List En}, risB s = true ↔ SrtK s
 | [] => by simp [risB, SrtK]
 | [a] => by simp [risB, SrtK]
 | a :: b :: r => by
  have ih := @risB_iff (b :: r)
  simp only [risB, Bool.and_eq_true, ih, SrtK, List.pairwise_cons]
  constructor
  ·rintro ⟨h, k⟩
   refine ⟨fun x hx => ?_, k⟩
   rcases List.mem_cons.1 hx with rfl | hx
   ·exact h
   ·exact ltK_trans h (k.1 x hx)
  ·rintro ⟨h, k⟩
   exact ⟨h b List.mem_cons_self, k⟩
theorem mayS_iff {s : List En} : mayS s = true ↔ (∀ x ∈ s, mayN x = true) ∧ SrtK s ∧ s.length ≤ 4000 := by
 simp [mayS, risB_iff, and_assoc]
theorem getS_mem {s : List En} (hs : SrtK s) {x : En} (hx : x ∈ s) : getS s x.1 = x.2.1 := by
 induction s with
 | nil => cases hx
 | cons a r ih =>
  obtain ⟨h1, h2⟩ := List.pairwise_cons.1 hs
  rcases List.mem_cons.1 hx with rfl | hx
  ·simp [getS]
  ·have : a.1 ≠ x.1 := ltK_ne (h1 x hx)
   simp only [getS, if_neg this]
   exact ih h2 hx
theorem getS_not {s : List En} {k : ByteArray} (h : ∀ x ∈ s, x.1 ≠ k) : getS s k = [] := by
 induction s with
 | nil => rfl
 | cons a r ih =>
  rw [getS, if_neg (h a List.mem_cons_self)]
  exact ih (fun x hx => h x (List.mem_cons_of_mem _ hx))
theorem getS_or (s : List En) (k : ByteArray) : (getS s k = [] ∧ ∀ x ∈ s, x.1 ≠ k) ∨ ∃ x ∈ s, x.1 = k ∧ getS s k = x.2.1 := by
 induction s with
 | nil => exact .inl ⟨rfl, fun x hx => by cases hx⟩
 | cons a r ih =>
  by_cases h : a.1 = k
  ·exact .inr ⟨a, List.mem_cons_self, h, by simp [getS, h]⟩
  ·rcases ih with ⟨h1, h2⟩ | ⟨x, h1, h2, h3⟩
   ·refine .inl ⟨by simp [getS, h, h1], fun x hx => ?_⟩
    rcases List.mem_cons.1 hx with rfl | hx
    ·exact h
    ·exact h2 x hx
   ·exact .inr ⟨x, List.mem_cons_of_mem _ h1, h2, by simp [getS, h, h3]⟩
theorem srtK_put {s : List En} (hs : SrtK s) (k : ByteArray) (l : List Dot) : SrtK (putS s k l) := by
 unfold putS SrtK
 rw [List.append_assoc, List.pairwise_append, List.pairwise_append]
 refine ⟨List.Pairwise.filter _ hs, ⟨?_, List.Pairwise.filter _ hs, ?_⟩, ?_⟩
 ·split <;> simp
 ·intro a ha b hb
  split at ha
  ·cases ha
  ·simp only [List.mem_singleton] at ha
   subst ha
   exact (List.mem_filter.1 hb).2
 ·intro a ha b hb
  have ha := (List.mem_filter.1 ha).2
  rcases List.mem_append.1 hb with hb | hb
  ·split at hb
   ·cases hb
   ·simp only [List.mem_singleton] at hb
    subst hb
    exact ha
  ·exact ltK_trans ha (List.mem_filter.1 hb).2
theorem mem_put {s : List En} {k : ByteArray} {l : List Dot} {x : En} : x ∈ putS s k l ↔ (x ∈ s ∧ x.1 ≠ k) ∨ (l ≠ [] ∧ x = (k, l, [])) := by
 unfold putS
 simp only [List.mem_append, List.mem_filter]
 constructor
 ·rintro ((⟨h1, h2⟩ | h) | ⟨h1, h2⟩)
  ·exact .inl ⟨h1, ltK_ne h2⟩
  ·split at h
   ·cases h
   ·exact .inr ⟨by assumption, by simpa using h⟩
  ·exact .inl ⟨h1, (ltK_ne h2).symm⟩
 ·rintro (⟨h1, h2⟩ | ⟨h1, rfl⟩)
  ·rcases hb : ltK x.1 k with _ | _
   ·rcases hc : ltK k x.1 with _ | _
    ·exact absurd (ltK_tri hb hc) h2
    ·exact .inr ⟨h1, rfl⟩
   ·exact .inl (.inl ⟨h1, rfl⟩)
  ·exact .inl (.inr (by simp [h1]))
theorem put_len (s : List En) (k : ByteArray) (l : List Dot) : (putS s k l).length ≤ s.length + 1 := by
 have h : ∀ t : List En, (t.filter (fun x => ltK x.1 k)).length + (t.filter (fun x => ltK k x.1)).length ≤ t.length := by
  intro t
  induction t with
  | nil => simp
  | cons a r ih =>
   rcases h1 : ltK a.1 k with _ | _
   ·rcases h2 : ltK k a.1 with _ | _ <;> simp [h1, h2] <;> omega
   ·have h2 := ltK_asym h1
    simp [h1, h2]
    omega
 have := h s
 unfold putS
 simp only [List.length_append]
 split <;> simp <;> omega
theorem mayN_put {s : List En} (hs : ∀ x ∈ s, mayN x = true) {k : ByteArray} (hk : mayK k = true) {l : List Dot} (hl : rowsB l = true) : ∀ x ∈ putS s k l, mayN x = true := by
 intro x hx
 rcases mem_put.1 hx with ⟨h, _⟩ | ⟨h, rfl⟩
 ·exact hs x h
 ·exact mayN_iff.2 ⟨hk, h, rfl, hl⟩
theorem mayS_put {s : List En} (hs : mayS s = true) {k : ByteArray} (hk : mayK k = true) {l : List Dot} (hl : rowsB l = true) (hn : s.length < 4000) : mayS (putS s k l) = true := by
 obtain ⟨h1, h2, h3⟩ := mayS_iff.1 hs
 exact mayS_iff.2 ⟨mayN_put h1 hk hl, srtK_put h2 k l, by have := put_len s k l; omega⟩
theorem rowsB_get {s : List En} (hs : mayS s = true) (k : ByteArray) : rowsB (getS s k) = true := by
 rcases getS_or s k with ⟨e, _⟩ | ⟨x, hx, _, e⟩
 ·rw [e]; decide
 ·rw [e]; exact (mayN_iff.1 ((mayS_iff.1 hs).1 x hx)).2.2.2
theorem rowsB_left {l : List Dot} (h : rowsB l = true) (c : List Int) : rowsB (leftD l c) = true := by
 obtain ⟨h1, h2⟩ := rowsB_iff.1 h
 exact rowsB_iff.2 ⟨fun d hd => h1 d (List.mem_filter.1 hd).1, List.Pairwise.filter _ h2⟩
theorem rowsB_putD {l : List Dot} (h : rowsB l = true) {d : Dot} (hd : mayD d = true) : rowsB (putD l d) = true := by
 obtain ⟨h1, h2⟩ := rowsB_iff.1 h
 refine rowsB_iff.2 ⟨fun x hx => ?_, srt_putD h2⟩
 rcases mem_putD.1 hx with rfl | hx
 ·exact hd
 ·exact h1 x hx
theorem ordD_snoc {l : List Dot} (h : SrtD l) (d : Dot) : ordD (l ++ [d]) = putD l d :=
 (ordD_is (srt_putD h) (fun x => by rw [mem_putD, List.mem_append, List.mem_singleton, or_comm])).symm
theorem mayS_add {s : List En} (hs : mayS s = true) {k : ByteArray} (hk : mayK k = true) {d : Dot} (hd : mayD d = true) (c : List Int) (hn : s.length < 4000) : mayS (addS s k d c) = true :=
 mayS_put hs hk (rowsB_putD (rowsB_left (rowsB_get hs k) c) hd) hn
theorem mayS_drop {s : List En} (hs : mayS s = true) {k : ByteArray} (hk : mayK k = true) (c : List Int) (hn : s.length < 4000) : mayS (dropS s k c) = true :=
 mayS_put hs hk (rowsB_left (rowsB_get hs k) c) hn
theorem srt_cut {s : List En} (hs : SrtK s) {k : ByteArray} {i : Nat} (h1 : ∀ j x, j < i → s[j]? = some x → ltK x.1 k = true) (h2 : ∀ j x, i ≤ j → s[j]? = some x → ltK x.1 k = false) : s.filter (fun x => ltK x.1 k) = s.take i := by
 conv => lhs; rw [← List.take_append_drop i s]
 rw [List.filter_append, List.filter_eq_self.2, List.filter_eq_nil_iff.2, List.append_nil]
 ·intro x hx
  obtain ⟨j, hj⟩ := List.mem_iff_getElem?.1 hx
  rw [List.getElem?_drop] at hj
  rw [h2 (i + j) x (by omega) hj]
  simp
 ·intro x hx
  obtain ⟨j, hj⟩ := List.mem_iff_getElem?.1 hx
  rw [List.getElem?_take] at hj
  split at hj
  ·exact h1 j x (by assumption) hj
  ·cases hj
theorem srt_cut2 {s : List En} (hs : SrtK s) {k : ByteArray} {i : Nat} (h1 : ∀ j x, j < i → s[j]? = some x → ltK k x.1 = false) (h2 : ∀ j x, i ≤ j → s[j]? = some x → ltK k x.1 = true) : s.filter (fun x => ltK k x.1) = s.drop i := by
 conv => lhs; rw [← List.take_append_drop i s]
 rw [List.filter_append, List.filter_eq_nil_iff.2, List.filter_eq_self.2, List.nil_append]
 ·intro x hx
  obtain ⟨j, hj⟩ := List.mem_iff_getElem?.1 hx
  rw [List.getElem?_drop] at hj
  exact h2 (i + j) x (by omega) hj
 ·intro x hx
  obtain ⟨j, hj⟩ := List.mem_iff_getElem?.1 hx
  rw [List.getElem?_take] at hj
  split at hj
  ·rw [h1 j x (by assumption) hj]
   simp
  ·cases hj
def PlaceK (s : List En) (k : ByteArray) (i : Nat) : Prop := i ≤ s.length ∧ (∀ j x, j < i → s[j]? = some x → ltK x.1 k = true) ∧ ∀ j x, i ≤ j → s[j]? = some x → ltK x.1 k = false
theorem srt_lt {s : List En} (hs : SrtK s) {i j : Nat} {x y : En} (hi : s[i]? = some x) (hj : s[j]? = some y) (h : i < j) : ltK x.1 y.1 = true := by
 obtain ⟨h1, e1⟩ := List.getElem?_eq_some_iff.1 hi
 obtain ⟨h2, e2⟩ := List.getElem?_eq_some_iff.1 hj
 have := List.pairwise_iff_getElem.1 hs i j h1 h2 h
 rw [e1, e2] at this
 exact this
theorem place_there {s : List En} (hs : SrtK s) {k : ByteArray} {i : Nat} (h : PlaceK s k i) {x : En} (hx : s[i]? = some x) (e : x.1 = k) (l : List Dot) : getS s k = x.2.1 ∧ putS s k l = s.take i ++ (if l = [] then [] else [(k, l, [])]) ++ s.drop (i + 1) := by
 refine ⟨e ▸ getS_mem hs (List.mem_of_getElem? hx), ?_⟩
 unfold putS
 rw [srt_cut hs h.2.1 h.2.2, srt_cut2 hs (i := i + 1)]
 ·intro j y hj hy
  rcases Nat.lt_or_ge j i with hji | hji
  ·exact ltK_asym (h.2.1 j y hji hy)
  ·obtain rfl : j = i := by omega
   rw [hx] at hy
   cases hy
   rw [e, ltK_irr]
 ·intro j y hj hy
  rw [← e]
  exact srt_lt hs hx hy (by omega)
theorem place_not {s : List En} (hs : SrtK s) {k : ByteArray} {i : Nat} (h : PlaceK s k i) (hx : ∀ x, s[i]? = some x → x.1 ≠ k) (l : List Dot) : getS s k = [] ∧ putS s k l = s.take i ++ (if l = [] then [] else [(k, l, [])]) ++ s.drop i := by
 have up : ∀ j y, i ≤ j → s[j]? = some y → ltK k y.1 = true := by
  intro j y hj hy
  have hi : i < s.length := by have := (List.getElem?_eq_some_iff.1 hy).1; omega
  have h0 : s[i]? = some s[i] := List.getElem?_eq_getElem hi
  have h1 : ltK k s[i].1 = true := by
   rcases hb : ltK k s[i].1 with _ | _
   ·exact absurd (ltK_tri (h.2.2 i _ (Nat.le_refl _) h0) hb) (hx _ h0)
   ·rfl
  rcases Nat.lt_or_ge i j with hij | hij
  ·exact ltK_trans h1 (srt_lt hs h0 hy hij)
  ·obtain rfl : i = j := by omega
   rw [h0] at hy
   cases hy
   exact h1
 constructor
 ·apply getS_not
  intro x hx'
  obtain ⟨j, hj⟩ := List.mem_iff_getElem?.1 hx'
  rcases Nat.lt_or_ge j i with hji | hji
  ·exact ltK_ne (h.2.1 j x hji hj)
  ·exact (ltK_ne (up j x hji hj)).symm
 ·unfold putS
  rw [srt_cut hs h.2.1 h.2.2, srt_cut2 hs (i := i) (fun j y hj hy => ltK_asym (h.2.1 j y hj hy)) up]
end Go.Proofs.YtkbbegbpkndebaaGreat

/- What lies in memory, told by relations that are put together of parts; what a statement is told of values that came in. -/
namespace Go.Proofs.YtkbbegbpkndebaaGreat
open Go.RowKit Go.ChangeShapes Go.WideShapes
set_option linter.unusedVariables false

abbrev Rl (α : Type) := World → List Value → α → Prop
def SR {α : Type} (k : Nat) (R : Rl α) (w : World) (a : Option Addr) (n : Nat) (l : List α) : Prop :=
 l.length = n ∧ n ≤ maxLen ∧ (n = 0 ∨ ∃ b off, a = some ⟨b, off, none⟩ ∧ ∀ i x, l[i]? = some x → ∃ r, r.length = k ∧ R w r x ∧ ∀ j v, r[j]? = some v → w.cell? ⟨b, off + i * k + j, none⟩ = some v)
section
variable {α : Type} {k : Nat} {R : Rl α}
theorem SR.nil (w : World) (p : Option Addr) : SR k R w p 0 [] := ⟨rfl, by decide, .inl rfl⟩
end
def Opens {α : Type} (T : TypeId) (R : Rl α) : Prop := ∀ (H : Type) (enc : TypeId × Value → H) (W : World) (fuel : Nat) (cs : List Value) (y : DataW H × List MemPlace), DataW.trod enc Tryz.prog W 0 (fun _ => true) true fuel T cs = some y → ∃ x, R W cs x
theorem Opens.slice {α : Type} {T E : TypeId} {R : Rl α} {k : Nat} (hu : Tryz.prog.underlying T = some (.slice E)) (hk : Tryz.prog.cellsOf E = k) (hk0 : 0 < k) (hE : Opens E R) (d : α) :
  Opens T (fun w cs (l : List α) => ∃ a n cap, cs = [.slice a n cap] ∧ SR k R w a n l ∧ CP a n cap) := by
 intro H enc W fuel cs y h
 rcases Deep.open_slice hu h with ⟨hcs, _⟩ | ⟨a, len, cap, m, n, D, Pl, hcs, _, hl, hm, hmm, _, hx⟩
 ·exact ⟨[], _, _, _, hcs, SR.nil _ _, Nat.le_refl _, by decide, fun _ => rfl⟩
 ·have hmm' : m = cap := by simpa using hmm
  subst hmm'
  rw [hk] at hx
  have each : ∀ i, i < len → ∃ p : α × List Value, p.2.length = k ∧ R W p.2 p.1 ∧ ∀ j u, p.2[j]? = some u → W.cell? (a.add (i * k + j)) = some u := by
   intro i hi
   obtain ⟨cs', h1, h2⟩ := hx i (by omega)
   obtain ⟨_, hlen, hcell⟩ := World.cells?_some h1
   obtain ⟨x, he⟩ := hE _ _ _ _ _ _ h2
   refine ⟨(x, cs'), hlen, he, fun j u hj => ?_⟩
   have hj4 : j < k := by have := (List.getElem?_eq_some_iff.1 hj).1; simp only [] at this; omega
   have q := hcell j hj4
   rw [Deep.add_add] at q
   rw [q]
   exact hj
  have hf : ∃ f : Nat → α × List Value, ∀ i, i < len → (f i).2.length = k ∧ R W (f i).2 (f i).1 ∧ ∀ j u, (f i).2[j]? = some u → W.cell? (a.add (i * k + j)) = some u := by
   refine ⟨fun i => if h : i < len then Classical.choose (each i h) else (d, []), fun i hi => ?_⟩
   have := Classical.choose_spec (each i hi)
   simpa [hi] using this
  obtain ⟨f, hf⟩ := hf
  refine ⟨(List.range len).map (fun i => (f i).1), _, _, _, hcs, ⟨by simp, by omega, ?_⟩, hl, hm, fun h => by cases h⟩
  rcases Nat.eq_zero_or_pos len with h0 | hp
  ·exact .inl h0
  ·obtain ⟨b, off, spot⟩ := a
   have hspot : spot = none := by
    obtain ⟨q1, _, q3⟩ := hf 0 hp
    have := q3 0 ((f 0).2[0]'(by omega)) (List.getElem?_eq_getElem _)
    simpa [Addr.add] using World.cell?_spot this
   subst hspot
   refine .inr ⟨b, off, rfl, fun i x hi => ?_⟩
   have hil : i < len := by have := (List.getElem?_eq_some_iff.1 hi).1; simpa using this
   have hxf : x = (f i).1 := by simpa [hil] using hi.symm
   subst hxf
   obtain ⟨q1, q2, q3⟩ := hf i hil
   refine ⟨(f i).2, q1, q2, fun j v hj => ?_⟩
   have q := q3 j v hj
   rw [addr_add] at q
   rw [Nat.add_assoc]
   exact q
def intR : Rl Int := fun _ cs x => cs = [.int .i64 x]
def boolR : Rl Bool := fun _ cs x => cs = [.bool x]
def strR : Rl ByteArray := fun _ cs x => cs = [.string x]
theorem Opens.int {T : TypeId} (hu : Tryz.prog.underlying T = some (.int .i64)) : Opens T intR := by
 intro H enc W fuel cs y h
 obtain ⟨a, h0, _, _⟩ := DataW.trod_int hu h
 exact ⟨a, h0⟩
theorem Opens.bool {T : TypeId} (hu : Tryz.prog.underlying T = some .bool) : Opens T boolR := by
 intro H enc W fuel cs y h
 obtain ⟨a, h0, _⟩ := DataW.trod_bool hu h
 exact ⟨a, h0⟩
theorem Opens.string {T : TypeId} (hu : Tryz.prog.underlying T = some .string) : Opens T strR := by
 intro H enc W fuel cs y h
 obtain ⟨a, h0, _, _⟩ := DataW.trod_string hu h
 exact ⟨a, h0⟩
end Go.Proofs.YtkbbegbpkndebaaGreat

