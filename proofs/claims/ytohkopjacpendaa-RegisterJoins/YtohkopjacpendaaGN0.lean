/- Registers (layer 12), in plain mathematics: which notes may be, which is later, a note set; the theorem of order. -/
import Derived.Test.YtohkopjacpendaaG0
namespace Go.Proofs.Ytohkopjacpendaa
set_option linter.unusedVariables false
/-- A note: Key, At, Rep, Word. -/
abbrev Nt := ByteArray × Int × Int × ByteArray
abbrev kN : Nt → ByteArray := Prod.fst
def mayNt (x : Nt) : Bool := mayK x.1 && decide (1 ≤ x.2.1 ∧ x.2.1 ≤ 1099511627776) && decide (1 ≤ x.2.2.1 ∧ x.2.2.1 ≤ 5) && decide (x.2.2.2.size ≤ 64)
theorem mayNt_iff {x : Nt} : mayNt x = true ↔ mayK x.1 = true ∧ (1 ≤ x.2.1 ∧ x.2.1 ≤ 1099511627776) ∧ (1 ≤ x.2.2.1 ∧ x.2.2.1 ≤ 5) ∧ x.2.2.2.size ≤ 64 := by
  unfold mayNt
  rw [Bool.and_eq_true, Bool.and_eq_true, Bool.and_eq_true, decide_eq_true_iff, decide_eq_true_iff, decide_eq_true_iff]
  exact ⟨fun h => ⟨h.1.1.1, h.1.1.2, h.1.2, h.2⟩, fun h => ⟨⟨⟨h.1, h.2.1⟩, h.2.2.1⟩, h.2.2.2⟩⟩
abbrev mayR12 (s : List Nt) : Bool := mayG kN mayNt s
/-- Is a note later than another one? -/
def laterN (a b : Nt) : Bool := if a.2.1 ≠ b.2.1 then decide (b.2.1 < a.2.1) else if a.2.2.1 ≠ b.2.2.1 then decide (b.2.2.1 < a.2.2.1) else ltK b.2.2.2 a.2.2.2
theorem laterN_irr (a : Nt) : laterN a a = false := by simp [laterN, ltK_irr]
theorem laterN_tri {a b : Nt} (hk : a.1 = b.1) (h1 : laterN a b = false) (h2 : laterN b a = false) : a = b := by
  obtain ⟨ak, aa, ar, aw⟩ := a
  obtain ⟨bk, ba, br, bw⟩ := b
  unfold laterN at h1 h2
  simp only at hk h1 h2
  by_cases e1 : aa = ba
  · subst e1
    simp only [ne_eq, not_true_eq_false, if_false] at h1 h2
    by_cases e2 : ar = br
    · subst e2
      simp only [not_true_eq_false, if_false] at h1 h2
      rw [hk, ltK_tri h2 h1]
    · simp only [e2, Ne.symm e2, not_false_eq_true, if_true, decide_eq_false_iff_not] at h1 h2
      omega
  · simp only [ne_eq, e1, Ne.symm e1, not_false_eq_true, if_true, decide_eq_false_iff_not] at h1 h2
    omega
theorem laterN_iff {a b : Nt} : laterN a b = true ↔ b.2.1 < a.2.1 ∨ (a.2.1 = b.2.1 ∧ (b.2.2.1 < a.2.2.1 ∨ (a.2.2.1 = b.2.2.1 ∧ ltK b.2.2.2 a.2.2.2 = true))) := by
  unfold laterN
  split
  · rename_i h
    rw [decide_eq_true_iff]
    exact ⟨.inl, fun q => q.elim id (fun q => absurd q.1 h)⟩
  · rename_i h
    have e : a.2.1 = b.2.1 := by simpa using h
    split
    · rename_i h2
      rw [decide_eq_true_iff]
      exact ⟨fun q => .inr ⟨e, .inl q⟩, fun q => q.elim (fun q => by omega) (fun q => q.2.elim id (fun q => absurd q.1 h2))⟩
    · rename_i h2
      have e2 : a.2.2.1 = b.2.2.1 := by simpa using h2
      exact ⟨fun q => .inr ⟨e, .inr ⟨e2, q⟩⟩, fun q => q.elim (fun q => by omega) (fun q => q.2.elim (fun q => by omega) (fun q => q.2))⟩
theorem laterN_trans {a b c : Nt} (h1 : laterN a b = true) (h2 : laterN b c = true) : laterN a c = true := by
  rw [laterN_iff] at *
  rcases h1 with h1 | ⟨e1, h1⟩
  · rcases h2 with h2 | ⟨e2, h2⟩
    · exact .inl (by omega)
    · exact .inl (by omega)
  · rcases h2 with h2 | ⟨e2, h2⟩
    · exact .inl (by omega)
    · refine .inr ⟨by omega, ?_⟩
      rcases h1 with h1 | ⟨f1, h1⟩
      · rcases h2 with h2 | ⟨f2, h2⟩
        · exact .inl (by omega)
        · exact .inl (by omega)
      · rcases h2 with h2 | ⟨f2, h2⟩
        · exact .inl (by omega)
        · exact .inr ⟨by omega, ltK_trans h2 h1⟩
/-- A note is set. -/
def setN (s : List Nt) (n : Nt) : List Nt := match getG kN s n.1 with
  | none => putG kN s n.1 (some n)
  | some was => if laterN n was = true then putG kN s n.1 (some n) else s
/-- What a key has behind some notes: the latest one of its own. -/
def Best (l : List Nt) (k : ByteArray) : Option Nt → Prop
  | none => ∀ x ∈ l, x.1 ≠ k
  | some n => n ∈ l ∧ n.1 = k ∧ ∀ x ∈ l, x.1 = k → laterN x n = false
theorem Best.one {l : List Nt} {k : ByteArray} {a b : Option Nt} (ha : Best l k a) (hb : Best l k b) : a = b := by
  rcases a with _ | a
  · rcases b with _ | b
    · rfl
    · exact absurd hb.2.1 (ha b hb.1)
  · rcases b with _ | b
    · exact absurd ha.2.1 (hb a ha.1)
    · rw [laterN_tri (ha.2.1.trans hb.2.1.symm) (hb.2.2 a ha.1 ha.2.1) (ha.2.2 b hb.1 hb.2.1)]
theorem Best.same {l m : List Nt} (h : ∀ x, x ∈ l ↔ x ∈ m) {k : ByteArray} {a : Option Nt} (ha : Best l k a) : Best m k a := by
  rcases a with _ | a
  · exact fun x hx => ha x ((h x).2 hx)
  · exact ⟨(h a).1 ha.1, ha.2.1, fun x hx => ha.2.2 x ((h x).2 hx)⟩
/-- A register behind some notes. -/
structure RG (s l : List Nt) : Prop where
  srt : SrtG kN s
  best : ∀ k, Best l k (getG kN s k)
theorem RG.nil : RG [] [] := ⟨List.Pairwise.nil, fun k x hx => by cases hx⟩
theorem RG.self {s : List Nt} (h : SrtG kN s) : RG s s := by
  refine ⟨h, fun k => ?_⟩
  rcases getG_or (key := kN) s k with ⟨e, n⟩ | ⟨x, hx, hk, e⟩
  · rw [e]; exact n
  · rw [e]
    refine ⟨hx, hk, fun y hy hyk => ?_⟩
    have e2 := getG_mem h hy
    rw [show kN y = k from hyk, e] at e2
    cases e2
    exact laterN_irr _
theorem setN_key (n : Nt) : ∀ y, some n = some y → kN y = n.1 := fun y h => by cases h; rfl
theorem RG.step {s l : List Nt} (h : RG s l) (n : Nt) : RG (setN s n) (l ++ [n]) := by
  have up : ∀ (hp : ∀ x ∈ l, x.1 = n.1 → laterN x n = false), RG (putG kN s n.1 (some n)) (l ++ [n]) := by
    intro hp
    refine ⟨srtG_put h.srt _ (setN_key n), fun k => ?_⟩
    rw [getG_put h.srt _ (setN_key n)]
    split
    · rename_i e
      subst e
      refine ⟨by simp, rfl, fun x hx hk => ?_⟩
      rcases List.mem_append.1 hx with q | q
      · exact hp x q hk
      · rw [List.mem_singleton] at q; subst q; exact laterN_irr _
    · rename_i e
      have q := h.best k
      rcases g : getG kN s k with _ | m
      · rw [g] at q
        intro x hx
        rcases List.mem_append.1 hx with r | r
        · exact q x r
        · rw [List.mem_singleton] at r; subst r; exact fun e' => e e'.symm
      · rw [g] at q
        refine ⟨List.mem_append_left _ q.1, q.2.1, fun x hx hk => ?_⟩
        rcases List.mem_append.1 hx with r | r
        · exact q.2.2 x r hk
        · rw [List.mem_singleton] at r; subst r; exact absurd hk.symm e
  unfold setN
  have q := h.best n.1
  split
  · rename_i g
    rw [g] at q
    exact up (fun x hx hk => absurd hk (q x hx))
  · rename_i was g
    rw [g] at q
    split
    · rename_i hl
      refine up (fun x hx hk => ?_)
      rcases hb : laterN x n with _ | _
      · rfl
      · have := laterN_trans hb hl
        rw [q.2.2 x hx hk] at this
        cases this
    · rename_i hl
      have hl : laterN n was = false := by simpa using hl
      refine ⟨h.srt, fun k => ?_⟩
      have r := h.best k
      rcases g2 : getG kN s k with _ | m
      · rw [g2] at r
        intro x hx
        rcases List.mem_append.1 hx with z | z
        · exact r x z
        · rw [List.mem_singleton] at z; subst z
          intro e
          rw [e, g2] at g
          cases g
      · rw [g2] at r
        refine ⟨List.mem_append_left _ r.1, r.2.1, fun x hx hk => ?_⟩
        rcases List.mem_append.1 hx with z | z
        · exact r.2.2 x z hk
        · rw [List.mem_singleton] at z; subst z
          rw [← hk, g] at g2
          cases g2
          exact hl
/-- In which order, and how often, notes are set does not matter. -/
theorem RG.meet {s t l m : List Nt} (hs : RG s l) (ht : RG t m) (h : ∀ x, x ∈ l ↔ x ∈ m) : s = t :=
  setG_ext hs.srt ht.srt (fun k => ((hs.best k).same h).one (ht.best k))
theorem setN_len (s : List Nt) (n : Nt) : (setN s n).length ≤ s.length + 1 := by
  unfold setN
  have := putG_len (key := kN) s n.1 (some n)
  split
  · exact this
  · split
    · exact this
    · omega
theorem setN_may {s : List Nt} (h : mayR12 s = true) {n : Nt} (hn : mayNt n = true) (hl : s.length < 4000) : mayR12 (setN s n) = true := by
  have q : mayR12 (putG kN s n.1 (some n)) = true := mayG_put h n.1 (fun y hy => by cases hy; exact ⟨rfl, hn⟩) hl
  unfold setN
  split
  · exact q
  · split
    · exact q
    · exact h
theorem RG.fold : ∀ (b : List Nt) {s l : List Nt}, RG s l → RG (b.foldl setN s) (l ++ b)
  | [], s, l, h => by rw [List.append_nil]; exact h
  | n :: b, s, l, h => by
    have := RG.fold b (h.step n)
    rwa [List.append_assoc] at this
end Go.Proofs.Ytohkopjacpendaa
