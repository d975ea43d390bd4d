/- What is seen of two, dot by dot; what the statement's 'low' does. -/
import Derived.Test.YtccpbkemiilgcaaDVar
import Derived.Test.YtccpbkemiilgcaaDJoin
import Derived.Test.YtccpbkemiilgcaaDLacks
import Derived.Test.YtccpbkemiilgcaaDLaw
namespace Go.Proofs.Ytccpbkemiilgcaa
open Go.RowKit
set_option linter.unusedVariables false

def InvS (S : Sn) (P : Dot → Prop) (b : Nat) : Prop := GoodX S ∧ (∀ d, mayD d = true → (hasX S d ↔ P d)) ∧ S.2.length ≤ b
def P1 (A : Sn) (X : List Int) (k : Nat) (d : Dot) : Prop := hasX A d ∨ (d.1 ≤ (k : Int) ∧ d.2 ≤ numX X d)
def P2 (A : Sn) (X : List Int) (k : Nat) (n : Int) (d : Dot) : Prop := P1 A X k d ∨ (d.1 = (k : Int) + 1 ∧ d.2 < n)
def P3 (A : Sn) (X : List Int) (l : List Dot) (k : Nat) (d : Dot) : Prop := hasX A d ∨ d.2 ≤ numX X d ∨ d ∈ l.take k
theorem InvS.cast {S : Sn} {P P' : Dot → Prop} {b : Nat} (h : InvS S P b) (hp : ∀ d, mayD d = true → (P d ↔ P' d)) : InvS S P' b := ⟨h.1, fun d hd => (h.2.1 d hd).trans (hp d hd), h.2.2⟩
theorem InvS.add {S : Sn} {P P' : Dot → Prop} {b : Nat} (h : InvS S P b) {x : Dot} (hx : mayD x = true) (hp : ∀ d, mayD d = true → ((P d ∨ d = x) ↔ P' d)) : InvS (addR S x) P' (b + 1) := by
  have k := addR_good h.1 hx
  refine ⟨k.1, fun d hd => ?_, Nat.le_trans (addR_len S x) (by have := h.2.2; omega)⟩
  rw [k.2 d hd, h.2.1 d hd]
  exact hp d hd
theorem inv0 {A : Sn} (hA : GoodX A) (X : List Int) (b : Nat) (hb : A.2.length ≤ b) : InvS A (P1 A X 0) b := by
  refine ⟨hA, fun d hd => ⟨fun h => .inl h, ?_⟩, hb⟩
  rintro (h | ⟨h, _⟩)
  · exact h
  · have := mayD_iff.1 hd
    have h' : d.1 ≤ 0 := h
    omega
theorem inv12 {A S : Sn} {X : List Int} {k b : Nat} (h : InvS S (P1 A X k) b) : InvS S (P2 A X k 1) b := by
  refine h.cast fun d hd => ⟨fun q => .inl q, ?_⟩
  rintro (q | ⟨_, q⟩)
  · exact q
  · have := mayD_iff.1 hd; omega
theorem inv2s {A S : Sn} {X : List Int} {k b : Nat} {n : Int} (h : InvS S (P2 A X k n) b) (hx : mayD ((k : Int) + 1, n) = true) : InvS (addR S ((k : Int) + 1, n)) (P2 A X k (n + 1)) (b + 1) := by
  refine h.add hx fun d hd => ?_
  constructor
  · rintro ((q | ⟨q, q2⟩) | q)
    · exact .inl q
    · exact .inr ⟨q, by omega⟩
    · subst q; exact .inr ⟨rfl, by show n < n + 1; omega⟩
  · rintro (q | ⟨q, q2⟩)
    · exact .inl (.inl q)
    · by_cases e : d.2 = n
      · exact .inr (Prod.ext q e)
      · exact .inl (.inr ⟨q, by omega⟩)
theorem inv21 {A S : Sn} {X : List Int} {k b : Nat} {N : Int} (h : InvS S (P2 A X k (N + 1)) b) (hN : N = X.getD k 0) : InvS S (P1 A X (k + 1)) b := by
  have hn : ∀ d : Dot, d.1 = (k : Int) + 1 → numX X d = N := fun d e => by
    unfold numX; rw [e, hN]; congr 1; omega
  refine h.cast fun d hd => ?_
  constructor
  · rintro ((q | ⟨q, q2⟩) | ⟨q, q2⟩)
    · exact .inl q
    · exact .inr ⟨by have : d.1 ≤ (k : Int) := q; show d.1 ≤ ((k + 1 : Nat) : Int); omega, q2⟩
    · exact .inr ⟨by show d.1 ≤ ((k + 1 : Nat) : Int); omega, by rw [hn d q]; omega⟩
  · rintro (q | ⟨q, q2⟩)
    · exact .inl (.inl q)
    · by_cases e : d.1 = (k : Int) + 1
      · rw [hn d e] at q2
        exact .inr ⟨e, by omega⟩
      · have q' : d.1 ≤ ((k + 1 : Nat) : Int) := q
        exact .inl (.inr ⟨by show d.1 ≤ (k : Int); omega, q2⟩)
theorem inv13 {A S : Sn} {X : List Int} {b : Nat} (l : List Dot) (h : InvS S (P1 A X 5) b) : InvS S (P3 A X l 0) b := by
  refine h.cast fun d hd => ?_
  constructor
  · rintro (q | ⟨_, q⟩)
    · exact .inl q
    · exact .inr (.inl q)
  · rintro (q | q | q)
    · exact .inl q
    · have := mayD_iff.1 hd
      exact .inr ⟨by show d.1 ≤ ((5 : Nat) : Int); omega, q⟩
    · simp at q
theorem inv3s {A S : Sn} {X : List Int} {l : List Dot} {k b : Nat} (h : InvS S (P3 A X l k) b) (hk : k < l.length) (hx : mayD (l.getD k (0, 0)) = true) : InvS (addR S (l.getD k (0, 0))) (P3 A X l (k + 1)) (b + 1) := by
  have e : ∀ d, d ∈ l.take (k + 1) ↔ d ∈ l.take k ∨ d = l.getD k (0, 0) := fun d => by
    rw [List.take_add_one, List.mem_append]
    simp [List.getD_eq_getElem?_getD, hk]
  refine h.add hx fun d hd => ?_
  unfold P3
  rw [e d]
  constructor
  · rintro ((q | q | q) | q)
    · exact .inl q
    · exact .inr (.inl q)
    · exact .inr (.inr (.inl q))
    · exact .inr (.inr (.inr q))
  · rintro (q | q | q | q)
    · exact .inl (.inl q)
    · exact .inl (.inr (.inl q))
    · exact .inl (.inr (.inr q))
    · exact .inr q
theorem numX_join (c c' : List Int) {d : Dot} (hd : mayD d = true) : numX (joinL c c') d = max (numX (vec c) d) (numX (vec c') d) := by
  have h := mayD_iff.1 hd
  unfold numX
  rw [joinL_getD c c' _ (by omega), vec_getD c _ (by omega), vec_getD c' _ (by omega)]
theorem joinF_good {c c' : List Int} {m m' : List Dot} (h1 : seenB c m = true) (h2 : seenB c' m' = true) : GoodX (joinF c c' m m') ∧ ∀ d, mayD d = true → (hasX (joinF c c' m m') d ↔ hasX (vec c, m) d ∨ hasX (vec c', m') d) := by
  have k := foldX_good (X := joinL c c') ⟨rfl, joinL_bd c c'⟩ (ordD_srt (m ++ m')) (seen_both h1 h2)
  refine ⟨k.1, fun d hd => ?_⟩
  show hasX (foldX (joinL c c') (ordD (m ++ m'))) d ↔ _
  rw [k.2 d hd, numX_join c c' hd, ordD_mem, List.mem_append]
  unfold hasX
  show _ ↔ (d.2 ≤ numX (vec c) d ∨ d ∈ m) ∨ (d.2 ≤ numX (vec c') d ∨ d ∈ m')
  constructor
  · rintro (q | q | q)
    · rcases Int.le_total (numX (vec c) d) (numX (vec c') d) with z | z
      · exact .inr (.inl (by omega))
      · exact .inl (.inl (by omega))
    · exact .inl (.inr q)
    · exact .inr (.inr q)
  · rintro ((q | q) | (q | q))
    · exact .inl (by omega)
    · exact .inr (.inl q)
    · exact .inl (by omega)
    · exact .inr (.inr q)
theorem invEnd {c c' : List Int} {m m' : List Dot} {S : Sn} {b : Nat} (h1 : seenB c m = true) (h2 : seenB c' m' = true) (h : InvS S (P3 (vec c, m) (vec c') m' m'.length) b) : S = joinF c c' m m' := by
  have k := joinF_good h1 h2
  refine good_ext h.1 k.1 fun d hd => ?_
  rw [h.2.1 d hd, k.2 d hd]
  unfold P3
  rw [List.take_length]
/-- One lacks nothing of another one just if what both have seen is what it has seen. -/
theorem lacks_same {c c' : List Int} {m m' : List Dot} (h1 : seenB c m = true) (h2 : seenB c' m' = true) : lacksB c m c' m' = !(decide (pln (joinF c c' m m').1 = c) && decide ((joinF c c' m m').2 = m)) := by
  have g1 := seen_good h1
  have g2 := seen_good h2
  have k := joinF_good h1 h2
  have e : (pln (joinF c c' m m').1 = c ∧ (joinF c c' m m').2 = m) ↔ joinF c c' m m' = (vec c, m) := by
    constructor
    · rintro ⟨a, b⟩
      refine Prod.ext ?_ b
      show (joinF c c' m m').1 = vec c
      have z := vec_pln _ k.1.1.1 k.1.1.2
      rw [a] at z
      exact z.symm
    · intro a
      rw [a]
      exact ⟨g1.2.1, rfl⟩
  have e2 : joinF c c' m m' = (vec c, m) ↔ lacksB c m c' m' = false := by
    rw [lacks_iff g1.1 g2.1]
    constructor
    · intro a d hd hh
      have := (k.2 d hd).2 (.inr hh)
      rw [a] at this
      exact this
    · intro a
      refine good_ext k.1 g1.1 fun d hd => ?_
      rw [k.2 d hd]
      exact ⟨fun q => q.elim id (a d hd), fun q => .inl q⟩
  rcases hl : lacksB c m c' m' with _ | _
  · have := e.2 (e2.2 hl)
    rw [decide_eq_true this.1, decide_eq_true this.2]
    rfl
  · symm
    rw [Bool.not_eq_true', ← Bool.not_eq_true, Bool.and_eq_true, decide_eq_true_iff, decide_eq_true_iff, e, e2, hl]
    exact fun h => Bool.noConfusion h
theorem sum_at {c : List Int} (h : sumL c ≤ 200) (k : Nat) (hk : k < 5) : at5 c k ≤ 200 := by
  have b0 := at5_bd c 0
  have b1 := at5_bd c 1
  have b2 := at5_bd c 2
  have b3 := at5_bd c 3
  have b4 := at5_bd c 4
  unfold sumL at h
  rcases k with _ | _ | _ | _ | _ | k
  · omega
  · show at5 c 1 ≤ 200; omega
  · show at5 c 2 ≤ 200; omega
  · show at5 c 3 ≤ 200; omega
  · show at5 c 4 ≤ 200; omega
  · omega

theorem low4 (pa pm : Option Addr) (na ca nm cm : Nat) (c : List Int) (w : World) (r : Bool) (hr : decide (sumL c ≤ 200) = r) (hN : NS w pa na c) :
    Calls Try.prog 22 #[.agg #[.slice pa na ca, .slice pm nm cm]] w fun e w' => e = .returned (.bool r) ∧ Below w.heap.size w w' := by
  have HS := hide (sum_ref pa na ca c _ (hN.alloc (bxS pa pm na ca nm cm)))
  have HE := hide hr
  clear hN hr
  generalize sumL c = z at *
  go_enter Try.func22, Try.ntmps22
  go_wp2_with (go_at_call 44; refine HS.out.mono ?_; rintro e w' ⟨rfl, hw⟩; replace hw := hw.symm; subst hw)
  go_ret
  exact ⟨retB HE.out, bel1 _ _⟩
end Go.Proofs.Ytccpbkemiilgcaa
