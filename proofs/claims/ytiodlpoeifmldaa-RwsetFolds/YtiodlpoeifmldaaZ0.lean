/- Sets of keys with Live and Dead (layer 9), in plain mathematics. -/
import Derived.Test.YtiodlpoeifmldaaA0
namespace Go.Proofs.Ytiodlpoeifmldaa
set_option linter.unusedVariables false
/-- Live and Dead. -/
abbrev Pr := List Dot × List Dot
def getP : List En → ByteArray → Pr
  | [], _ => ([], [])
  | x :: r, k => if x.1 = k then x.2 else getP r k
def putP (s : List En) (k : ByteArray) (p : Pr) : List En := s.filter (fun x => ltK x.1 k) ++ (if p = ([], []) then [] else [(k, p)]) ++ s.filter (fun x => ltK k x.1)
theorem getP_mem {s : List En} (hs : SrtK s) {x : En} (hx : x ∈ s) : getP s x.1 = x.2 := by
  induction s with
  | nil => cases hx
  | cons a r ih =>
    obtain ⟨h1, h2⟩ := List.pairwise_cons.1 hs
    rcases List.mem_cons.1 hx with rfl | hx
    · simp [getP]
    · have : a.1 ≠ x.1 := ltK_ne (h1 x hx)
      simp only [getP, if_neg this]
      exact ih h2 hx
theorem getP_not {s : List En} {k : ByteArray} (h : ∀ x ∈ s, x.1 ≠ k) : getP s k = ([], []) := by
  induction s with
  | nil => rfl
  | cons a r ih =>
    rw [getP, if_neg (h a List.mem_cons_self)]
    exact ih (fun x hx => h x (List.mem_cons_of_mem _ hx))
theorem getP_or (s : List En) (k : ByteArray) : (getP s k = ([], []) ∧ ∀ x ∈ s, x.1 ≠ k) ∨ ∃ x ∈ s, x.1 = k ∧ getP s k = x.2 := by
  induction s with
  | nil => exact .inl ⟨rfl, fun x hx => by cases hx⟩
  | cons a r ih =>
    by_cases h : a.1 = k
    · exact .inr ⟨a, List.mem_cons_self, h, by simp [getP, h]⟩
    · rcases ih with ⟨h1, h2⟩ | ⟨x, h1, h2, h3⟩
      · refine .inl ⟨by simp [getP, h, h1], fun x hx => ?_⟩
        rcases List.mem_cons.1 hx with rfl | hx
        · exact h
        · exact h2 x hx
      · exact .inr ⟨x, List.mem_cons_of_mem _ h1, h2, by simp [getP, h, h3]⟩
theorem srtP_put {s : List En} (hs : SrtK s) (k : ByteArray) (p : Pr) : SrtK (putP s k p) := by
  unfold putP SrtK
  rw [List.append_assoc, List.pairwise_append, List.pairwise_append]
  refine ⟨List.Pairwise.filter _ hs, ⟨?_, List.Pairwise.filter _ hs, ?_⟩, ?_⟩
  · split <;> simp
  · intro a ha b hb
    split at ha
    · cases ha
    · simp only [List.mem_singleton] at ha
      subst ha
      exact (List.mem_filter.1 hb).2
  · intro a ha b hb
    have ha := (List.mem_filter.1 ha).2
    rcases List.mem_append.1 hb with hb | hb
    · split at hb
      · cases hb
      · simp only [List.mem_singleton] at hb
        subst hb
        exact ha
    · exact ltK_trans ha (List.mem_filter.1 hb).2
theorem memP_put {s : List En} {k : ByteArray} {p : Pr} {x : En} : x ∈ putP s k p ↔ (x ∈ s ∧ x.1 ≠ k) ∨ (p ≠ ([], []) ∧ x = (k, p)) := by
  unfold putP
  simp only [List.mem_append, List.mem_filter]
  constructor
  · rintro ((⟨h1, h2⟩ | h) | ⟨h1, h2⟩)
    · exact .inl ⟨h1, ltK_ne h2⟩
    · split at h
      · cases h
      · exact .inr ⟨by assumption, by simpa using h⟩
    · exact .inl ⟨h1, (ltK_ne h2).symm⟩
  · rintro (⟨h1, h2⟩ | ⟨h1, rfl⟩)
    · rcases hb : ltK x.1 k with _ | _
      · rcases hc : ltK k x.1 with _ | _
        · exact absurd (ltK_tri hb hc) h2
        · exact .inr ⟨h1, rfl⟩
      · exact .inl (.inl ⟨h1, rfl⟩)
    · exact .inl (.inr (by rw [if_neg h1]; exact List.mem_singleton.2 rfl))
theorem getP_put {s : List En} (hs : SrtK s) (k : ByteArray) (p : Pr) (k' : ByteArray) : getP (putP s k p) k' = if k' = k then p else getP s k' := by
  have hp := srtP_put hs k p
  split
  · rename_i h
    subst h
    by_cases hl : p = ([], [])
    · rw [getP_not, hl]
      intro x hx
      rcases memP_put.1 hx with ⟨_, h⟩ | ⟨h, _⟩
      · exact h
      · exact absurd hl h
    · exact getP_mem hp (x := (k', p)) (memP_put.2 (.inr ⟨hl, rfl⟩))
  · rename_i h
    rcases getP_or s k' with ⟨e, n⟩ | ⟨x, hx, rfl, e⟩
    · rw [e, getP_not]
      intro x hx
      rcases memP_put.1 hx with ⟨hx, _⟩ | ⟨_, rfl⟩
      · exact n x hx
      · exact fun e => h e.symm
    · rw [e]
      exact getP_mem hp (memP_put.2 (.inl ⟨hx, h⟩))
theorem putP_len (s : List En) (k : ByteArray) (p : Pr) : (putP s k p).length ≤ s.length + 1 := by
  have h : ∀ t : List En, (t.filter (fun x => ltK x.1 k)).length + (t.filter (fun x => ltK k x.1)).length ≤ t.length := by
    intro t
    induction t with
    | nil => simp
    | cons a r ih =>
      rcases h1 : ltK a.1 k with _ | _
      · rcases h2 : ltK k a.1 with _ | _ <;> simp [h1, h2] <;> omega
      · have h2 := ltK_asym h1
        simp [h1, h2]
        omega
  have := h s
  unfold putP
  simp only [List.length_append]
  split <;> simp <;> omega
/-- A set is told by its keys' Live and Dead. -/
theorem setP_ext : ∀ {s t : List En}, SrtK s → SrtK t → (∀ x ∈ s, x.2 ≠ ([], [])) → (∀ x ∈ t, x.2 ≠ ([], [])) → (∀ k, getP s k = getP t k) → s = t
  | [], [], _, _, _, _, _ => rfl
  | [], y :: t, _, _, _, h, e => by
    have := e y.1
    simp only [getP, if_true] at this
    exact absurd this.symm (h y List.mem_cons_self)
  | x :: s, [], _, _, h, _, e => by
    have := e x.1
    simp only [getP, if_true] at this
    exact absurd this (h x List.mem_cons_self)
  | x :: s, y :: t, hs, ht, h, k, e => by
    obtain ⟨s1, s2⟩ := List.pairwise_cons.1 hs
    obtain ⟨t1, t2⟩ := List.pairwise_cons.1 ht
    have no : ∀ (z : En) (v : List En), (∀ q ∈ v, ltK z.1 q.1 = true) → getP v z.1 = ([], []) := fun z v hv => getP_not (fun q hq => (ltK_ne (hv q hq)).symm)
    have ek : x.1 = y.1 := by
      apply ltK_tri
      · rcases hb : ltK x.1 y.1 with _ | _
        · rfl
        · have := e x.1
          simp only [getP, if_true, if_neg (ltK_ne hb).symm] at this
          rw [no x t (fun q hq => ltK_trans hb (t1 q hq))] at this
          exact absurd this (h x List.mem_cons_self)
      · rcases hb : ltK y.1 x.1 with _ | _
        · rfl
        · have := e y.1
          simp only [getP, if_true, if_neg (ltK_ne hb).symm] at this
          rw [no y s (fun q hq => ltK_trans hb (s1 q hq))] at this
          exact absurd this.symm (k y List.mem_cons_self)
    have el : x.2 = y.2 := by
      have := e x.1
      simpa [getP, ek] using this
    have er : s = t := by
      refine setP_ext s2 t2 (fun z hz => h z (List.mem_cons_of_mem _ hz)) (fun z hz => k z (List.mem_cons_of_mem _ hz)) (fun q => ?_)
      have := e q
      simp only [getP] at this
      by_cases hq : x.1 = q
      · subst hq
        rw [no x s s1, ek, no y t t1]
      · rwa [if_neg hq, if_neg (ek ▸ hq)] at this
    rw [er, show x = y from Prod.ext ek el]
theorem placeP_there {s : List En} (hs : SrtK s) {k : ByteArray} {i : Nat} (h : PlaceK s k i) {x : En} (hx : s[i]? = some x) (e : x.1 = k) (p : Pr) : getP s k = x.2 ∧ putP s k p = s.take i ++ (if p = ([], []) then [] else [(k, p)]) ++ s.drop (i + 1) := by
  refine ⟨e ▸ getP_mem hs (List.mem_of_getElem? hx), ?_⟩
  unfold putP
  rw [srt_cut hs h.2.1 h.2.2, srt_cut2 hs (i := i + 1)]
  · intro j y hj hy
    rcases Nat.lt_or_ge j i with hji | hji
    · exact ltK_asym (h.2.1 j y hji hy)
    · obtain rfl : j = i := by omega
      rw [hx] at hy
      cases hy
      rw [e, ltK_irr]
  · intro j y hj hy
    rw [← e]
    exact srt_lt hs hx hy (by omega)
/-- What a set has of each key but the empty ones: each entry's pair turned by a function. -/
def mapP (f : Pr → Pr) (s : List En) : List En := (s.map fun x => (x.1, f x.2)).filter fun x => decide (x.2 ≠ ([], []))
theorem srt_map {f : Pr → Pr} {s : List En} (hs : SrtK s) : SrtK (mapP f s) := by
  unfold mapP SrtK
  refine List.Pairwise.filter _ ?_
  rw [List.pairwise_map]
  exact hs
theorem mem_map9 {f : Pr → Pr} {s : List En} {y : En} : y ∈ mapP f s ↔ ∃ x ∈ s, y = (x.1, f x.2) ∧ f x.2 ≠ ([], []) := by
  unfold mapP
  rw [List.mem_filter, List.mem_map]
  constructor
  · rintro ⟨⟨x, hx, rfl⟩, h⟩
    exact ⟨x, hx, rfl, by simpa using h⟩
  · rintro ⟨x, hx, rfl, h⟩
    exact ⟨⟨x, hx, rfl⟩, by simpa using h⟩
theorem get_map {f : Pr → Pr} (h0 : f ([], []) = ([], [])) {s : List En} (hs : SrtK s) (k : ByteArray) : getP (mapP f s) k = f (getP s k) := by
  rcases getP_or s k with ⟨e, n⟩ | ⟨x, hx, rfl, e⟩
  · rw [e, h0, getP_not]
    intro y hy
    obtain ⟨x, hx, rfl, _⟩ := mem_map9.1 hy
    exact n x hx
  · rw [e]
    by_cases h : f x.2 = ([], [])
    · rw [h, getP_not]
      intro y hy
      obtain ⟨z, hz, rfl, hn⟩ := mem_map9.1 hy
      intro ez
      have : z.2 = x.2 := by rw [← getP_mem hs hz, ← getP_mem hs hx]; exact congrArg _ ez
      rw [this] at hn
      exact hn h
    · exact getP_mem (srt_map hs) (x := (x.1, f x.2)) (mem_map9.2 ⟨x, hx, rfl, h⟩)
def cleanF (c : List Int) (p : Pr) : Pr := (p.1, leftD p.2 c)
def plainF (p : Pr) : Pr := (p.1, [])
def dropP (s : List En) (k : ByteArray) (d : Dot) (c : List Int) : List En := putP s k ([], putD (leftD (getP s k).2 c) d)
def addP (s : List En) (k : ByteArray) (d : Dot) (c : List Int) : List En := if leftD (getP s k).2 c = [] then putP s k (putD (leftD (getP s k).1 c) d, (getP s k).2) else s
end Go.Proofs.Ytiodlpoeifmldaa
