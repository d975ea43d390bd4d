/- Two registers put together (layer 12), in plain mathematics: of each key the later note. -/
import Derived.Test.YtohkopjacpendaaGN0
namespace Go.Proofs.Ytohkopjacpendaa
set_option linter.unusedVariables false
/-- The later one of two notes. -/
def lofN (x y : Nt) : Nt := if laterN y x = true then y else x
/-- Two registers, key by key. -/
def mrgN : List Nt → List Nt → List Nt
  | [], b => b
  | x :: a, [] => x :: a
  | x :: a, y :: b => if ltK x.1 y.1 = true then x :: mrgN a (y :: b) else if ltK y.1 x.1 = true then y :: mrgN (x :: a) b else lofN x y :: mrgN a b
theorem mrgN_nil (a : List Nt) : mrgN a [] = a := by cases a <;> rw [mrgN]
theorem mrgN_lt {x y : Nt} {a b : List Nt} (h : ltK x.1 y.1 = true) : mrgN (x :: a) (y :: b) = x :: mrgN a (y :: b) := by rw [mrgN, if_pos h]
theorem mrgN_gt {x y : Nt} {a b : List Nt} (h1 : ltK x.1 y.1 = false) (h : ltK y.1 x.1 = true) : mrgN (x :: a) (y :: b) = y :: mrgN (x :: a) b := by rw [mrgN, if_neg (by simp [h1]), if_pos h]
theorem mrgN_eq {x y : Nt} {a b : List Nt} (h1 : ltK x.1 y.1 = false) (h : ltK y.1 x.1 = false) : mrgN (x :: a) (y :: b) = lofN x y :: mrgN a b := by rw [mrgN, if_neg (by simp [h1]), if_neg (by simp [h])]
theorem lofN_or (x y : Nt) : lofN x y = x ∨ lofN x y = y := by
  unfold lofN
  split
  · exact .inr rfl
  · exact .inl rfl
theorem lofN_key {x y : Nt} (h : x.1 = y.1) : (lofN x y).1 = x.1 := by
  rcases lofN_or x y with e | e <;> rw [e]
  exact h.symm
theorem lofN_late (x y : Nt) : laterN x (lofN x y) = false ∧ laterN y (lofN x y) = false := by
  unfold lofN
  split
  · rename_i h
    refine ⟨?_, laterN_irr _⟩
    rcases e : laterN x y with _ | _
    · rfl
    · have := laterN_trans h e
      rw [laterN_irr] at this
      cases this
  · rename_i h
    exact ⟨laterN_irr _, by simpa using h⟩
theorem mrgN_mem : ∀ (a b : List Nt) {z : Nt}, z ∈ mrgN a b → z ∈ a ∨ z ∈ b := by
  intro a b
  induction a, b using mrgN.induct with
  | case1 b => intro z h; rw [mrgN] at h; exact .inr h
  | case2 x a => intro z h; rw [mrgN] at h; exact .inl h
  | case3 x a y b h1 ih =>
    intro z h
    rw [mrgN_lt h1] at h
    rcases List.mem_cons.1 h with e | e
    · subst e; exact .inl (by simp)
    · rcases ih e with q | q
      · exact .inl (List.mem_cons_of_mem _ q)
      · exact .inr q
  | case4 x a y b h1 h2 ih =>
    intro z h
    rw [mrgN_gt (by simpa using h1) h2] at h
    rcases List.mem_cons.1 h with e | e
    · subst e; exact .inr (by simp)
    · rcases ih e with q | q
      · exact .inl q
      · exact .inr (List.mem_cons_of_mem _ q)
  | case5 x a y b h1 h2 ih =>
    intro z h
    rw [mrgN_eq (by simpa using h1) (by simpa using h2)] at h
    rcases List.mem_cons.1 h with e | e
    · subst e
      rcases lofN_or x y with q | q
      · rw [q]; exact .inl (by simp)
      · rw [q]; exact .inr (by simp)
    · rcases ih e with q | q
      · exact .inl (List.mem_cons_of_mem _ q)
      · exact .inr (List.mem_cons_of_mem _ q)
theorem mrgN_has : ∀ (a b : List Nt) {z : Nt}, z ∈ a ∨ z ∈ b → ∃ y ∈ mrgN a b, y.1 = z.1 ∧ laterN z y = false := by
  intro a b
  induction a, b using mrgN.induct with
  | case1 b =>
    intro z h
    rw [mrgN]
    rcases h with h | h
    · cases h
    · exact ⟨z, h, rfl, laterN_irr _⟩
  | case2 x a =>
    intro z h
    rw [mrgN]
    rcases h with h | h
    · exact ⟨z, h, rfl, laterN_irr _⟩
    · cases h
  | case3 x a y b h1 ih =>
    intro z h
    rw [mrgN_lt h1]
    rcases h with h | h
    · rcases List.mem_cons.1 h with e | e
      · subst e; exact ⟨z, by simp, rfl, laterN_irr _⟩
      · obtain ⟨q, hq, r⟩ := ih (.inl e)
        exact ⟨q, List.mem_cons_of_mem _ hq, r⟩
    · obtain ⟨q, hq, r⟩ := ih (.inr h)
      exact ⟨q, List.mem_cons_of_mem _ hq, r⟩
  | case4 x a y b h1 h2 ih =>
    intro z h
    rw [mrgN_gt (by simpa using h1) h2]
    rcases h with h | h
    · obtain ⟨q, hq, r⟩ := ih (.inl h)
      exact ⟨q, List.mem_cons_of_mem _ hq, r⟩
    · rcases List.mem_cons.1 h with e | e
      · subst e; exact ⟨z, by simp, rfl, laterN_irr _⟩
      · obtain ⟨q, hq, r⟩ := ih (.inr e)
        exact ⟨q, List.mem_cons_of_mem _ hq, r⟩
  | case5 x a y b h1 h2 ih =>
    intro z h
    have hk : x.1 = y.1 := ltK_tri (by simpa using h1) (by simpa using h2)
    rw [mrgN_eq (by simpa using h1) (by simpa using h2)]
    rcases h with h | h
    · rcases List.mem_cons.1 h with e | e
      · subst e; exact ⟨lofN z y, by simp, lofN_key hk, (lofN_late z y).1⟩
      · obtain ⟨q, hq, r⟩ := ih (.inl e)
        exact ⟨q, List.mem_cons_of_mem _ hq, r⟩
    · rcases List.mem_cons.1 h with e | e
      · subst e; exact ⟨lofN x z, by simp, (lofN_key hk).trans hk, (lofN_late x z).2⟩
      · obtain ⟨q, hq, r⟩ := ih (.inr e)
        exact ⟨q, List.mem_cons_of_mem _ hq, r⟩
theorem mrgN_srt : ∀ (a b : List Nt), SrtG kN a → SrtG kN b → SrtG kN (mrgN a b) := by
  intro a b
  induction a, b using mrgN.induct with
  | case1 b => intro h1 h2; rw [mrgN]; exact h2
  | case2 x a => intro h1 h2; rw [mrgN]; exact h1
  | case3 x a y b h1 ih =>
    intro ha hb
    rw [mrgN_lt h1]
    have qa := List.pairwise_cons.1 ha
    have qb := List.pairwise_cons.1 hb
    refine List.pairwise_cons.2 ⟨fun z hz => ?_, ih qa.2 hb⟩
    rcases mrgN_mem _ _ hz with q | q
    · exact qa.1 z q
    · rcases List.mem_cons.1 q with e | e
      · subst e; exact h1
      · exact ltK_trans h1 (qb.1 z e)
  | case4 x a y b h1 h2 ih =>
    intro ha hb
    rw [mrgN_gt (by simpa using h1) h2]
    have qa := List.pairwise_cons.1 ha
    have qb := List.pairwise_cons.1 hb
    refine List.pairwise_cons.2 ⟨fun z hz => ?_, ih ha qb.2⟩
    rcases mrgN_mem _ _ hz with q | q
    · rcases List.mem_cons.1 q with e | e
      · subst e; exact h2
      · exact ltK_trans h2 (qa.1 z e)
    · exact qb.1 z q
  | case5 x a y b h1 h2 ih =>
    intro ha hb
    have hk : x.1 = y.1 := ltK_tri (by simpa using h1) (by simpa using h2)
    rw [mrgN_eq (by simpa using h1) (by simpa using h2)]
    have qa := List.pairwise_cons.1 ha
    have qb := List.pairwise_cons.1 hb
    refine List.pairwise_cons.2 ⟨fun z hz => ?_, ih qa.2 qb.2⟩
    show ltK (lofN x y).1 z.1 = true
    rw [lofN_key hk]
    rcases mrgN_mem _ _ hz with q | q
    · exact qa.1 z q
    · rw [hk]; exact qb.1 z q
theorem mrgN_len : ∀ (a b : List Nt), (mrgN a b).length ≤ a.length + b.length := by
  intro a b
  induction a, b using mrgN.induct with
  | case1 b => rw [mrgN]; simp
  | case2 x a => rw [mrgN]; simp
  | case3 x a y b h1 ih => rw [mrgN_lt h1]; simp only [List.length_cons] at ih ⊢; omega
  | case4 x a y b h1 h2 ih => rw [mrgN_gt (by simpa using h1) h2]; simp only [List.length_cons] at ih ⊢; omega
  | case5 x a y b h1 h2 ih => rw [mrgN_eq (by simpa using h1) (by simpa using h2)]; simp only [List.length_cons] at ih ⊢; omega
theorem mrgN_rg {a b : List Nt} (ha : SrtG kN a) (hb : SrtG kN b) : RG (mrgN a b) (a ++ b) := by
  have hs := mrgN_srt a b ha hb
  refine ⟨hs, fun k => ?_⟩
  rcases getG_or (key := kN) (mrgN a b) k with ⟨e, n⟩ | ⟨x, hx, hk, e⟩
  · rw [e]
    intro z hz he
    obtain ⟨y, hy, q, _⟩ := mrgN_has a b (List.mem_append.1 hz)
    exact n y hy (q.trans he)
  · rw [e]
    refine ⟨List.mem_append.2 (mrgN_mem a b hx), hk, fun z hz he => ?_⟩
    obtain ⟨y, hy, q, r⟩ := mrgN_has a b (List.mem_append.1 hz)
    have e2 := getG_mem (key := kN) hs hy
    rw [show kN y = k from q.trans he, e] at e2
    cases e2
    exact r
/-- Two together are the first in which the second's notes are set. -/
theorem mrgN_sets {a b : List Nt} (ha : SrtG kN a) (hb : SrtG kN b) : mrgN a b = b.foldl setN a :=
  (mrgN_rg ha hb).meet ((RG.self ha).fold b) (fun _ => Iff.rfl)
theorem mrgN_turn {a b : List Nt} (ha : SrtG kN a) (hb : SrtG kN b) : mrgN b a = b.foldl setN a :=
  (mrgN_rg hb ha).meet ((RG.self ha).fold b) (fun x => by simp only [List.mem_append]; exact Or.comm)
theorem mrgN_one {a : List Nt} (ha : SrtG kN a) (n : Nt) : mrgN a [n] = setN a n := mrgN_sets ha (by simp [SrtG])
theorem mrgN_may {a b : List Nt} (ha : mayR12 a = true) (hb : mayR12 b = true) (hl : (mrgN a b).length ≤ 4000) : mayR12 (mrgN a b) = true := by
  have qa := mayG_iff.1 ha
  have qb := mayG_iff.1 hb
  refine mayG_iff.2 ⟨fun x hx => ?_, mrgN_srt a b qa.2.1 qb.2.1, hl⟩
  rcases mrgN_mem a b hx with h | h
  · exact qa.1 x h
  · exact qb.1 x h
end Go.Proofs.Ytohkopjacpendaa
