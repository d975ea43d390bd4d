/- The theorem of layer 9's set, in plain mathematics: what events leave, cleaned or not. -/
import Derived.Test.YtiodlpoeifmldaaD0
import Derived.Test.YtiodlpoeifmldaaZ0
namespace Go.Proofs.Ytiodlpoeifmldaa
set_option linter.unusedVariables false
/-- A key's Live and Dead behind an event that touches it. -/
def newP (e : Evt) (o : Int) (k : ByteArray) (p : Pr) : Pr :=
  if doesB e 2 o k = true then ([], putD (leftD p.2 e.2.1) e.1) else if leftD p.2 e.2.1 = [] then (putD (leftD p.1 e.2.1) e.1, p.2) else p
def stepY (e : Evt) (o : Int) (s : List En) (x : Eff) : List En :=
  if x.2.1 = o ∧ x.1 = 2 then dropP s (kOf x) e.1 e.2.1 else if x.2.1 = o ∧ x.1 = 1 ∧ doesB e 2 o (kOf x) = false then addP s (kOf x) e.1 e.2.1 else s
def actY (e : Evt) (o : Int) (x : Eff) : Bool := decide (x.2.1 = o ∧ (x.1 = 2 ∨ x.1 = 1 ∧ doesB e 2 o (kOf x) = false))
/-- Put what is there already: nothing turns (of sets whose entries are not empty). -/
theorem putP_same {s : List En} (hs : SrtK s) (hn : ∀ x ∈ s, x.2 ≠ ([], [])) (k : ByteArray) : putP s k (getP s k) = s := by
  refine setP_ext (srtP_put hs _ _) hs (fun x hx => ?_) hn (fun q => ?_)
  · rcases memP_put.1 hx with ⟨h, _⟩ | ⟨h, rfl⟩
    · exact hn x h
    · exact h
  · rw [getP_put hs]
    split
    · rename_i h; rw [h]
    · rfl
/-- A set whose keys rise, none empty, each with dots in order. -/
structure Cp (s : List En) : Prop where
  srt : SrtK s
  ne : ∀ x ∈ s, x.2 ≠ ([], [])
  row : ∀ k, SrtD (getP s k).1 ∧ SrtD (getP s k).2
theorem Cp.nil : Cp [] := ⟨List.Pairwise.nil, fun x hx => by simp at hx, fun k => ⟨List.Pairwise.nil, List.Pairwise.nil⟩⟩
theorem Cp.put {s : List En} (h : Cp s) (k : ByteArray) {p : Pr} (hp : SrtD p.1 ∧ SrtD p.2) : Cp (putP s k p) := by
  refine ⟨srtP_put h.srt k p, fun x hx => ?_, fun k' => ?_⟩
  · rcases memP_put.1 hx with ⟨h1, _⟩ | ⟨h1, rfl⟩
    · exact h.ne x h1
    · exact h1
  · rw [getP_put h.srt]
    split
    · exact hp
    · exact h.row k'
theorem Cp.map {s : List En} (h : Cp s) {f : Pr → Pr} (h0 : f ([], []) = ([], [])) (hf : ∀ p : Pr, SrtD p.1 ∧ SrtD p.2 → SrtD (f p).1 ∧ SrtD (f p).2) : Cp (mapP f s) := by
  refine ⟨srt_map h.srt, fun x hx => ?_, fun k => ?_⟩
  · obtain ⟨y, _, rfl, hn⟩ := mem_map9.1 hx
    exact hn
  · rw [get_map h0 h.srt]
    exact hf _ (h.row k)
theorem srt_newP {e : Evt} {o : Int} {k : ByteArray} {p : Pr} (h : SrtD p.1 ∧ SrtD p.2) : SrtD (newP e o k p).1 ∧ SrtD (newP e o k p).2 := by
  unfold newP
  split
  · exact ⟨List.Pairwise.nil, srt_putD (srt_left h.2 _)⟩
  · split
    · exact ⟨srt_putD (srt_left h.1 _), h.2⟩
    · exact h
theorem stepY_put {e : Evt} {o : Int} {x : Eff} (hx : x ∈ e.2.2) {s : List En} (h : Cp s) : stepY e o s x = if actY e o x = true then putP s (kOf x) (newP e o (kOf x) (getP s (kOf x))) else s := by
  unfold stepY actY newP
  by_cases h1 : x.2.1 = o ∧ x.1 = 2
  · have hd : doesB e 2 o (kOf x) = true := doesB_iff.2 ⟨x, hx, h1.2, h1.1, rfl⟩
    rw [if_pos h1, if_pos (by simp [h1.1, h1.2]), if_pos hd]
    rfl
  · rw [if_neg h1]
    by_cases h2 : x.2.1 = o ∧ x.1 = 1 ∧ doesB e 2 o (kOf x) = false
    · rw [if_pos h2, if_pos (by simp [h2.1, h2.2.1, h2.2.2]), if_neg (by rw [h2.2.2]; simp)]
      unfold addP
      split
      · rfl
      · exact (putP_same h.srt h.ne _).symm
    · rw [if_neg h2, if_neg]
      rw [decide_eq_true_iff]
      rintro ⟨q1, q2 | q2⟩
      · exact h1 ⟨q1, q2⟩
      · exact h2 ⟨q1, q2⟩
theorem left_idem (l : List Dot) (c : List Int) : leftD (leftD l c) c = leftD l c := by unfold leftD; rw [List.filter_filter]; simp
theorem left_put {l : List Dot} (hl : SrtD l) {d : Dot} {c : List Int} (h : getZ c d.1 < d.2) : leftD (putD l d) c = putD (leftD l c) d := by
  refine srt_ext (srt_left (srt_putD hl) c) (srt_putD (srt_left hl c)) (fun x => ?_)
  rw [mem_left, mem_putD, mem_putD, mem_left]
  constructor
  · rintro ⟨rfl | h1, h2⟩
    · exact .inl rfl
    · exact .inr ⟨h1, h2⟩
  · rintro (rfl | ⟨h1, h2⟩)
    · exact ⟨.inl rfl, h⟩
    · exact ⟨.inr h1, h2⟩
theorem put_put {l : List Dot} (hl : SrtD l) (d : Dot) : putD (putD l d) d = putD l d := by
  refine srt_ext (srt_putD (srt_putD hl)) (srt_putD hl) (fun x => ?_)
  rw [mem_putD, mem_putD]
  exact ⟨fun h => h.elim .inl id, .inr⟩
theorem newP_idem {e : Evt} (he : mayE e = true) (o : Int) (k : ByteArray) {p : Pr} (h : SrtD p.1 ∧ SrtD p.2) : newP e o k (newP e o k p) = newP e o k p := by
  have hz : getZ e.2.1 e.1.1 < e.1.2 := by rw [own_past he]; omega
  unfold newP
  by_cases hd : doesB e 2 o k = true
  · simp only [if_pos hd]
    rw [left_put (srt_left h.2 _) hz, left_idem, put_put (srt_left h.2 _)]
  · simp only [if_neg hd]
    by_cases hl : leftD p.2 e.2.1 = []
    · simp only [if_pos hl]
      rw [left_put (srt_left h.1 _) hz, left_idem, put_put (srt_left h.1 _)]
    · simp only [if_neg hl]
theorem Cp.step {s : List En} (h : Cp s) {e : Evt} {o : Int} {x : Eff} (hx : x ∈ e.2.2) : Cp (stepY e o s x) := by
  rw [stepY_put hx h]
  split
  · exact h.put _ (srt_newP (h.row _))
  · exact h
theorem Cp.steps {e : Evt} {o : Int} : ∀ {xs : List Eff} {s : List En}, (∀ x ∈ xs, x ∈ e.2.2) → Cp s → Cp (xs.foldl (stepY e o) s)
  | [], _, _, h => h
  | x :: xs, s, hx, h => Cp.steps (xs := xs) (fun y hy => hx y (List.mem_cons_of_mem _ hy)) (h.step (hx x List.mem_cons_self))
theorem stepsY_get {e : Evt} (he : mayE e = true) {o : Int} (k : ByteArray) : ∀ {xs : List Eff} {s : List En}, (∀ x ∈ xs, x ∈ e.2.2) → Cp s → getP (xs.foldl (stepY e o) s) k = if (∃ x ∈ xs, actY e o x = true ∧ kOf x = k) then newP e o k (getP s k) else getP s k
  | [], s, _, _ => by simp
  | x :: xs, s, hx, h => by
    have hx0 := hx x List.mem_cons_self
    rw [List.foldl_cons, stepsY_get he k (xs := xs) (fun y hy => hx y (List.mem_cons_of_mem _ hy)) (h.step hx0)]
    have e1 : getP (stepY e o s x) k = if actY e o x = true ∧ kOf x = k then newP e o k (getP s k) else getP s k := by
      rw [stepY_put hx0 h]
      by_cases ha : actY e o x = true
      · rw [if_pos ha, getP_put h.srt]
        by_cases hk : k = kOf x
        · subst hk; simp [ha]
        · rw [if_neg hk, if_neg (fun q => hk q.2.symm)]
      · rw [if_neg ha, if_neg (fun q => ha q.1)]
    rw [e1]
    by_cases h1 : actY e o x = true ∧ kOf x = k
    · rw [if_pos h1, if_pos (show ∃ y ∈ x :: xs, actY e o y = true ∧ kOf y = k from ⟨x, List.mem_cons_self, h1⟩)]
      split
      · exact newP_idem he o k (h.row k)
      · rfl
    · rw [if_neg h1]
      by_cases h2 : ∃ y ∈ xs, actY e o y = true ∧ kOf y = k
      · rw [if_pos h2]
        obtain ⟨y, hy, q⟩ := h2
        rw [if_pos (show ∃ y ∈ x :: xs, actY e o y = true ∧ kOf y = k from ⟨y, List.mem_cons_of_mem _ hy, q⟩)]
      · rw [if_neg h2, if_neg]
        rintro ⟨y, hy, q⟩
        rcases List.mem_cons.1 hy with rfl | hy
        · exact h1 q
        · exact h2 ⟨y, hy, q⟩
theorem actY_touch {e : Evt} {o : Int} {k : ByteArray} : (∃ x ∈ e.2.2, actY e o x = true ∧ kOf x = k) ↔ touchB e o k = true := by
  unfold touchB actY
  simp only [Bool.or_eq_true, decide_eq_true_eq]
  constructor
  · rintro ⟨x, hx, ⟨h1, h2 | ⟨h2, _⟩⟩, h3⟩
    · exact .inr (doesB_iff.2 ⟨x, hx, h2, h1, h3⟩)
    · exact .inl (doesB_iff.2 ⟨x, hx, h2, h1, h3⟩)
  · intro h
    by_cases hd : doesB e 2 o k = true
    · obtain ⟨x, hx, h1, h2, h3⟩ := doesB_iff.1 hd
      exact ⟨x, hx, ⟨h2, .inl h1⟩, h3⟩
    · rcases h with h | h
      · obtain ⟨x, hx, h1, h2, h3⟩ := doesB_iff.1 h
        refine ⟨x, hx, ⟨h2, .inr ⟨h1, ?_⟩⟩, h3⟩
        rw [h3]
        simpa using hd
      · exact absurd h hd
def evY (o : Int) (s : List En) (e : Evt) : List En := e.2.2.foldl (stepY e o) s
theorem Cp.ev {s : List En} (h : Cp s) (o : Int) (e : Evt) : Cp (evY o s e) := Cp.steps (fun x hx => hx) h
/-- A key's Live and Dead behind an event. -/
def nextP (e : Evt) (o : Int) (k : ByteArray) (p : Pr) : Pr := if touchB e o k = true then newP e o k p else p
theorem evY_get {s : List En} (h : Cp s) {o : Int} {e : Evt} (he : mayE e = true) (k : ByteArray) : getP (evY o s e) k = nextP e o k (getP s k) := by
  unfold evY nextP
  rw [stepsY_get he k (fun x hx => hx) h]
  simp only [actY_touch]
/-! What events say -/
/-- Do all drops of a key stand ahead of an add of it? -/
def Stands (P : List Evt) (o : Int) (k : ByteArray) (e : Evt) : Prop := doesB e 1 o k = true ∧ ∀ f ∈ P, f ≠ e → doesB f 2 o k = true → ahE f e = true
def Live9 (P : List Evt) (o : Int) (k : ByteArray) (e : Evt) : Prop := (Stands P o k e ∧ doesB e 2 o k = false) ∧ ∀ f ∈ P, ¬ (ahE e f = true ∧ Stands P o k f ∧ doesB f 2 o k = false)
/-- A key's state is what events say: the Live, and the drops that are ahead of no other one. -/
structure Says (P : List Evt) (o : Int) (k : ByteArray) (p : Pr) : Prop where
  live : ∀ d, d ∈ p.1 ↔ ∃ e ∈ P, Live9 P o k e ∧ e.1 = d
  dead : ∀ d, d ∈ p.2 ↔ ∃ e ∈ P, (doesB e 2 o k = true ∧ ∀ f ∈ P, doesB f 2 o k = true → ahE e f = false) ∧ e.1 = d
/-- Pasts are whole. -/
def WholeP (P : List Evt) : Prop := ∀ e ∈ P, ∀ f ∈ P, ahE f e = true → wth f.2.1 e.2.1
theorem ah_iff {a b : Evt} (h : mayE a = true) : ahE a b = true ↔ a.1.2 ≤ getZ b.2.1 a.1.1 := by
  unfold ahE ahdB
  rw [may_dot h]
  simp
theorem ah_self {e : Evt} (he : mayE e = true) : ahE e e = false := by
  rcases hb : ahE e e with _ | _
  · rfl
  · rw [ah_iff he, own_past he] at hb; omega
theorem ah_trans {P : List Evt} (hw : WholeP P) {a b c : Evt} (ha : mayE a = true) (hb : b ∈ P) (hc : c ∈ P) (h1 : ahE a b = true) (h2 : ahE b c = true) : ahE a c = true := by
  rw [ah_iff ha] at *
  exact Int.le_trans h1 (wth_getZ (hw c hc b hb h2) _)
theorem sum_lt {P : List Evt} (hw : WholeP P) (hm : ∀ e ∈ P, mayE e = true) {a b : Evt} (ha : a ∈ P) (hb : b ∈ P) (h : ahE a b = true) : sumL a.2.1 < sumL b.2.1 := by
  have w5 := hw b hb a ha h
  have own := own_past (hm a ha)
  have q := mayD_iff.1 (may_dot (hm a ha))
  rw [ah_iff (hm a ha)] at h
  obtain ⟨i, hi, hr⟩ : ∃ i : Nat, i < 5 ∧ a.1.1 = i + 1 := ⟨a.1.1.toNat - 1, by omega, by omega⟩
  rw [hr, getZ_in _ i hi] at own h
  unfold sumL
  unfold wth at w5
  obtain rfl | rfl | rfl | rfl | rfl : i = 0 ∨ i = 1 ∨ i = 2 ∨ i = 3 ∨ i = 4 := by omega
  all_goals omega
/-- Each drop is one that is ahead of no other one, or ahead of such a one. -/
theorem top_drop {P : List Evt} (hw : WholeP P) (hm : ∀ e ∈ P, mayE e = true) (o : Int) (k : ByteArray) {f : Evt} (hf : f ∈ P) (hd : doesB f 2 o k = true) : ∃ g ∈ P, doesB g 2 o k = true ∧ (g = f ∨ ahE f g = true) ∧ ∀ h ∈ P, doesB h 2 o k = true → ahE g h = false := by
  obtain ⟨g, ⟨hg, hgd, hgf⟩, hmax⟩ := least (fun g => g ∈ P ∧ doesB g 2 o k = true ∧ (g = f ∨ ahE f g = true)) (fun g => (5242880 - sumL g.2.1).toNat) _ f (Nat.le_refl _) ⟨hf, hd, .inl rfl⟩
  refine ⟨g, hg, hgd, hgf, fun h hh hhd => ?_⟩
  rcases hb : ahE g h with _ | _
  · rfl
  · exfalso
    have hs := sum_lt hw hm hg hh hb
    have hle := hmax h ⟨hh, hhd, .inr (by
      rcases hgf with rfl | q
      · exact hb
      · exact ah_trans hw (hm f hf) hg hh q hb)⟩
    have b0 := at5_bd h.2.1
    have : sumL h.2.1 ≤ 5242880 := by
      unfold sumL
      have := (b0 0).2; have := (b0 1).2; have := (b0 2).2; have := (b0 3).2; have := (b0 4).2
      omega
    omega
theorem left_nil {l : List Dot} {c : List Int} : leftD l c = [] ↔ ∀ d ∈ l, d.2 ≤ getZ c d.1 := by
  unfold leftD
  rw [List.filter_eq_nil_iff]
  constructor
  · intro h d hd
    have := h d hd
    simp at this
    exact this
  · intro h d hd
    simp
    exact h d hd
theorem Says.step {P : List Evt} {e : Evt} {o : Int} {k : ByteArray} {p : Pr} (h : Says P o k p) (hw : WholeP (P ++ [e])) (hm : ∀ a ∈ P ++ [e], mayE a = true) (hne : e ∉ P) (h1 : ∀ f ∈ P, ahE e f = false) : Says (P ++ [e]) o k (nextP e o k p) := by
  have heP : e ∈ P ++ [e] := List.mem_append_right _ List.mem_cons_self
  have inl : ∀ f ∈ P, f ∈ P ++ [e] := fun f hf => List.mem_append_left _ hf
  have hmP : ∀ a ∈ P, mayE a = true := fun a ha => hm a (inl a ha)
  have hwP : WholeP P := fun a ha f hf q => hw a (inl a ha) f (inl f hf) q
  have he := hm e heP
  have split : ∀ f, f ∈ P ++ [e] ↔ f ∈ P ∨ f = e := fun f => by rw [List.mem_append, List.mem_singleton]
  have nef : ∀ f ∈ P, f ≠ e := fun f hf q => hne (q ▸ hf)
  by_cases hd : doesB e 2 o k = true
  · -- a drop: nothing stands
    have ht : touchB e o k = true := by unfold touchB; rw [hd, Bool.or_true]
    unfold nextP newP
    rw [if_pos ht, if_pos hd]
    have nost : ∀ f ∈ P, ¬ Stands (P ++ [e]) o k f := by
      intro f hf q
      have := q.2 e heP (nef f hf).symm hd
      rw [h1 f hf] at this
      cases this
    refine ⟨fun d => ?_, fun d => ?_⟩
    · simp only [List.not_mem_nil, false_iff]
      rintro ⟨f, hf, q, _⟩
      rcases (split f).1 hf with hf | rfl
      · exact nost f hf q.1.1
      · have q2 := q.1.2
        rw [hd] at q2
        cases q2
    · simp only
      rw [mem_putD, mem_left, h.dead]
      constructor
      · rintro (rfl | ⟨⟨f, hf, ⟨q1, q2⟩, rfl⟩, hz⟩)
        · refine ⟨e, heP, ⟨hd, fun f hf _ => ?_⟩, rfl⟩
          rcases (split f).1 hf with hf | rfl
          · exact h1 f hf
          · exact ah_self he
        · refine ⟨f, inl f hf, ⟨q1, fun g hg hgd => ?_⟩, rfl⟩
          rcases (split g).1 hg with hg | rfl
          · exact q2 g hg hgd
          · rcases hb : ahE f g with _ | _
            · rfl
            · rw [ah_iff (hmP f hf)] at hb; omega
      · rintro ⟨f, hf, ⟨q1, q2⟩, rfl⟩
        rcases (split f).1 hf with hf | rfl
        · refine .inr ⟨⟨f, hf, ⟨q1, fun g hg hgd => q2 g (inl g hg) hgd⟩, rfl⟩, ?_⟩
          have := q2 e heP hd
          rcases Int.lt_or_le (getZ e.2.1 f.1.1) f.1.2 with q | q
          · exact q
          · rw [(ah_iff (hmP f hf)).2 q] at this; cases this
        · exact .inl rfl
  · -- no drop: the drops are the same, and what stands of those that were there
    have hd' : doesB e 2 o k = false := by simpa using hd
    have deadSame : ∀ d, (∃ f ∈ P, (doesB f 2 o k = true ∧ ∀ g ∈ P, doesB g 2 o k = true → ahE f g = false) ∧ f.1 = d) ↔ ∃ f ∈ P ++ [e], (doesB f 2 o k = true ∧ ∀ g ∈ P ++ [e], doesB g 2 o k = true → ahE f g = false) ∧ f.1 = d := by
      intro d
      constructor
      · rintro ⟨f, hf, ⟨q1, q2⟩, q3⟩
        refine ⟨f, inl f hf, ⟨q1, fun g hg hgd => ?_⟩, q3⟩
        rcases (split g).1 hg with hg | rfl
        · exact q2 g hg hgd
        · rw [hd'] at hgd; cases hgd
      · rintro ⟨f, hf, ⟨q1, q2⟩, q3⟩
        rcases (split f).1 hf with hf | rfl
        · exact ⟨f, hf, ⟨q1, fun g hg hgd => q2 g (inl g hg) hgd⟩, q3⟩
        · rw [hd'] at q1; cases q1
    have st : ∀ f ∈ P, (Stands (P ++ [e]) o k f ↔ Stands P o k f) := by
      intro f hf
      constructor
      · rintro ⟨q1, q2⟩; exact ⟨q1, fun g hg => q2 g (inl g hg)⟩
      · rintro ⟨q1, q2⟩
        refine ⟨q1, fun g hg hne2 hgd => ?_⟩
        rcases (split g).1 hg with hg | rfl
        · exact q2 g hg hne2 hgd
        · rw [hd'] at hgd; cases hgd
    have ste : Stands (P ++ [e]) o k e ↔ doesB e 1 o k = true ∧ ∀ f ∈ P, doesB f 2 o k = true → ahE f e = true := by
      constructor
      · rintro ⟨q1, q2⟩; exact ⟨q1, fun f hf => q2 f (inl f hf) (nef f hf)⟩
      · rintro ⟨q1, q2⟩
        refine ⟨q1, fun g hg hne2 hgd => ?_⟩
        rcases (split g).1 hg with hg | rfl
        · exact q2 g hg hgd
        · exact absurd rfl hne2
    have cond : leftD p.2 e.2.1 = [] ↔ ∀ f ∈ P, doesB f 2 o k = true → ahE f e = true := by
      rw [left_nil]
      constructor
      · intro q f hf hfd
        obtain ⟨g, hg, hgd, hgf, hgt⟩ := top_drop hwP hmP o k hf hfd
        have hge : ahE g e = true := (ah_iff (hmP g hg)).2 (q g.1 ((h.dead g.1).2 ⟨g, hg, ⟨hgd, hgt⟩, rfl⟩))
        rcases hgf with rfl | hfg
        · exact hge
        · exact ah_trans hw (hmP f hf) (inl g hg) heP hfg hge
      · intro q d hd2
        obtain ⟨f, hf, ⟨q1, _⟩, rfl⟩ := (h.dead d).1 hd2
        exact (ah_iff (hmP f hf)).1 (q f hf q1)
    -- who is live then
    have lv : ∀ f ∈ P, (Live9 (P ++ [e]) o k f ↔ Live9 P o k f ∧ ¬ (ahE f e = true ∧ Stands (P ++ [e]) o k e)) := by
      intro f hf
      unfold Live9
      rw [st f hf]
      constructor
      · rintro ⟨q1, q2⟩
        refine ⟨⟨q1, fun g hg q => q2 g (inl g hg) ⟨q.1, (st g hg).2 q.2.1, q.2.2⟩⟩, fun q => q2 e heP ⟨q.1, q.2, hd'⟩⟩
      · rintro ⟨⟨q1, q2⟩, q3⟩
        refine ⟨q1, fun g hg q => ?_⟩
        rcases (split g).1 hg with hg | rfl
        · exact q2 g hg ⟨q.1, (st g hg).1 q.2.1, q.2.2⟩
        · exact q3 ⟨q.1, q.2.1⟩
    have lve : Live9 (P ++ [e]) o k e ↔ Stands (P ++ [e]) o k e := by
      unfold Live9
      constructor
      · exact fun q => q.1.1
      · intro q
        refine ⟨⟨q, hd'⟩, fun g hg q2 => ?_⟩
        rcases (split g).1 hg with hg | rfl
        · rw [h1 g hg] at q2; exact absurd q2.1 (by simp)
        · rw [ah_self he] at q2; exact absurd q2.1 (by simp)
    unfold nextP newP
    by_cases ht : touchB e o k = true
    · have hadd : doesB e 1 o k = true := by
        unfold touchB at ht
        rw [hd', Bool.or_false] at ht
        exact ht
      rw [if_pos ht, if_neg hd]
      by_cases hl : leftD p.2 e.2.1 = []
      · rw [if_pos hl]
        have hst : Stands (P ++ [e]) o k e := ste.2 ⟨hadd, cond.1 hl⟩
        refine ⟨fun d => ?_, fun d => by rw [← deadSame]; exact h.dead d⟩
        simp only
        rw [mem_putD, mem_left, h.live]
        constructor
        · rintro (rfl | ⟨⟨f, hf, q, rfl⟩, hz⟩)
          · exact ⟨e, heP, lve.2 hst, rfl⟩
          · refine ⟨f, inl f hf, (lv f hf).2 ⟨q, fun r => ?_⟩, rfl⟩
            have := (ah_iff (hmP f hf)).1 r.1
            omega
        · rintro ⟨f, hf, q, rfl⟩
          rcases (split f).1 hf with hf | rfl
          · obtain ⟨q1, q2⟩ := (lv f hf).1 q
            refine .inr ⟨⟨f, hf, q1, rfl⟩, ?_⟩
            rcases Int.lt_or_le (getZ e.2.1 f.1.1) f.1.2 with r | r
            · exact r
            · exact absurd ⟨(ah_iff (hmP f hf)).2 r, hst⟩ q2
          · exact .inl rfl
      · rw [if_neg hl]
        have hst : ¬ Stands (P ++ [e]) o k e := fun q => hl (cond.2 (ste.1 q).2)
        refine ⟨fun d => ?_, fun d => by rw [← deadSame]; exact h.dead d⟩
        rw [h.live]
        constructor
        · rintro ⟨f, hf, q, rfl⟩
          exact ⟨f, inl f hf, (lv f hf).2 ⟨q, fun r => hst r.2⟩, rfl⟩
        · rintro ⟨f, hf, q, rfl⟩
          rcases (split f).1 hf with hf | rfl
          · exact ⟨f, hf, ((lv f hf).1 q).1, rfl⟩
          · exact absurd (lve.1 q) hst
    · rw [if_neg ht]
      have hst : ¬ Stands (P ++ [e]) o k e := fun q => by
        have := q.1
        apply ht
        unfold touchB
        rw [this]
        rfl
      refine ⟨fun d => ?_, fun d => by rw [← deadSame]; exact h.dead d⟩
      rw [h.live]
      constructor
      · rintro ⟨f, hf, q, rfl⟩
        exact ⟨f, inl f hf, (lv f hf).2 ⟨q, fun r => hst r.2⟩, rfl⟩
      · rintro ⟨f, hf, q, rfl⟩
        rcases (split f).1 hf with hf | rfl
        · exact ⟨f, hf, ((lv f hf).1 q).1, rfl⟩
        · exact absurd (lve.1 q) hst
theorem Says.nil (o : Int) (k : ByteArray) : Says [] o k ([], []) := ⟨fun d => by simp, fun d => by simp⟩
/-! Cleaned in between -/
/-- Two states are alike for all events to come: the same Live, and of the Dead the same that a later one knows not. -/
def AlikeP (later : List Evt) (p q : Pr) : Prop := p.1 = q.1 ∧ ∀ e ∈ later, leftD p.2 e.2.1 = leftD q.2 e.2.1
theorem AlikeP.refl (l : List Evt) (p : Pr) : AlikeP l p p := ⟨rfl, fun _ _ => rfl⟩
theorem AlikeP.next {e : Evt} {l : List Evt} {p q : Pr} (h : AlikeP (e :: l) p q) (o : Int) (k : ByteArray) : AlikeP l (nextP e o k p) (nextP e o k q) := by
  have he := h.2 e List.mem_cons_self
  have ht : AlikeP l p q := ⟨h.1, fun f hf => h.2 f (List.mem_cons_of_mem _ hf)⟩
  unfold nextP newP
  split
  · split
    · rw [he]; exact AlikeP.refl _ _
    · rw [he, h.1]
      split
      · exact ⟨rfl, ht.2⟩
      · exact ht
  · exact ht
theorem left_left {l : List Dot} {c d : List Int} (h : wth c d) : leftD (leftD l c) d = leftD l d := by
  unfold leftD
  rw [List.filter_filter]
  congr 1
  funext x
  have := wth_getZ h x.1
  rw [Bool.eq_iff_iff]
  simp
  omega
theorem AlikeP.clean {l : List Evt} {p q : Pr} (h : AlikeP l p q) {c : List Int} (hc : ∀ e ∈ l, wth c e.2.1) : AlikeP l p (cleanF c q) := by
  refine ⟨h.1, fun e he => ?_⟩
  unfold cleanF
  rw [left_left (hc e he)]
  exact h.2 e he
end Go.Proofs.Ytiodlpoeifmldaa
