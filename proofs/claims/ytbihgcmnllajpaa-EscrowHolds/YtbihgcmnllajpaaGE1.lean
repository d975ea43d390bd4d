/- The theorem of rights (layer 11), in plain mathematics: deeds, what of them a replica knows, and why no rights fall below 0. -/
import Derived.Test.YtbihgcmnllajpaaK0
namespace Go.Proofs.Ytbihgcmnllajpaa
set_option linter.unusedVariables false
/-- A deed: whose, to whom (0: to nobody), how much, its number among its replica's, and what was known where it was done. -/
structure Gd where
  rep : Nat
  tgt : Nat
  n : Int
  m : Nat
  v : Nat → Nat
/-- What a deed does to a replica's. -/
def effG (d : Gd) (j : Nat) : Int := if d.tgt = 0 then (if j = d.rep then d.n else 0) else if d.tgt = d.rep then 0 else if j = d.rep then -d.n else if j = d.tgt then d.n else 0
/-- What a replica has by the deeds that are known. -/
def hG (k : Nat → Nat) (j : Nat) : List Gd → Int
  | [] => 0
  | d :: r => (if d.m ≤ k d.rep then effG d j else 0) + hG k j r
/-- How many deeds a replica did. -/
def cntG (r : Nat) : List Gd → Nat
  | [] => 0
  | d :: l => (if d.rep = r then 1 else 0) + cntG r l
theorem hG_app (k : Nat → Nat) (j : Nat) : ∀ (a b : List Gd), hG k j (a ++ b) = hG k j a + hG k j b
  | [], b => by simp [hG]
  | x :: a, b => by rw [List.cons_append, hG, hG_app k j a b, hG]; omega
theorem cntG_app (r : Nat) : ∀ (a b : List Gd), cntG r (a ++ b) = cntG r a + cntG r b
  | [], b => by simp [cntG]
  | x :: a, b => by rw [List.cons_append, cntG, cntG_app r a b, cntG]; omega
theorem cntG_one (r : Nat) (d : Gd) : cntG r [d] = if d.rep = r then 1 else 0 := by simp [cntG]
theorem cntG_len (r : Nat) : ∀ (a : List Gd), cntG r a ≤ a.length
  | [] => by simp [cntG]
  | x :: a => by have := cntG_len r a; rw [cntG, List.length_cons]; split <;> omega
theorem hG_one (k : Nat → Nat) (j : Nat) (d : Gd) : hG k j [d] = if d.m ≤ k d.rep then effG d j else 0 := by simp [hG]
theorem effG_in {d : Gd} (h : d.tgt ≠ 0 → 0 ≤ d.n) {j : Nat} (hj : j ≠ d.rep) : 0 ≤ effG d j := by
  unfold effG
  rw [if_neg hj]
  split
  · exact Int.le_refl _
  · rename_i ht
    have := h ht
    split
    · exact Int.le_refl _
    · split
      · omega
      · omega
theorem effG_bd {d : Gd} {b : Int} (h : -b ≤ d.n ∧ d.n ≤ b) (j : Nat) : -b ≤ effG d j ∧ effG d j ≤ b := by
  unfold effG
  split
  · split <;> omega
  · split
    · omega
    · split
      · omega
      · split <;> omega
theorem hG_bd {b : Int} (k : Nat → Nat) (j : Nat) (hb : 0 ≤ b) : ∀ (l : List Gd), (∀ d ∈ l, -b ≤ d.n ∧ d.n ≤ b) → -(b * (l.length : Int)) ≤ hG k j l ∧ hG k j l ≤ b * (l.length : Int)
  | [], _ => by simp [hG]
  | d :: l, h => by
    have ih := hG_bd k j hb l (fun x hx => h x (List.mem_cons_of_mem _ hx))
    have he := effG_bd (h d List.mem_cons_self) j
    rw [hG, List.length_cons]
    have e : b * ((l.length + 1 : Nat) : Int) = b * (l.length : Int) + b := by rw [Int.natCast_add, Int.mul_add]; simp
    rw [e]
    split <;> omega
theorem hG_same {k k' : Nat → Nat} {j : Nat} : ∀ {l : List Gd}, (∀ d ∈ l, d.m ≤ k d.rep ↔ d.m ≤ k' d.rep) → hG k j l = hG k' j l
  | [], _ => rfl
  | d :: l, h => by
    rw [hG, hG, hG_same (fun x hx => h x (List.mem_cons_of_mem _ hx))]
    have := h d List.mem_cons_self
    by_cases q : d.m ≤ k d.rep
    · rw [if_pos q, if_pos (this.1 q)]
    · rw [if_neg q, if_neg (fun x => q (this.2 x))]
theorem hG_mono {k k' : Nat → Nat} {j : Nat} (hk : ∀ r, k r ≤ k' r) : ∀ {l : List Gd}, (∀ d ∈ l, d.tgt ≠ 0 → 0 ≤ d.n) → (∀ d ∈ l, d.rep = j → d.m ≤ k j) → hG k j l ≤ hG k' j l
  | [], _, _ => Int.le_refl _
  | d :: l, h1, h2 => by
    have ih := hG_mono (j := j) hk (fun x hx => h1 x (List.mem_cons_of_mem _ hx)) (fun x hx => h2 x (List.mem_cons_of_mem _ hx))
    have hd := h1 d List.mem_cons_self
    have ho := h2 d List.mem_cons_self
    rw [hG, hG]
    have hkr := hk d.rep
    by_cases q : d.m ≤ k d.rep
    · rw [if_pos q, if_pos (by omega)]
      omega
    · rw [if_neg q]
      have hne : j ≠ d.rep := fun e => q (e ▸ ho e.symm)
      have := effG_in hd hne
      split <;> omega
/-- With a deed, all that was known where it was done is known. -/
def CloG (l : List Gd) (k : Nat → Nat) : Prop := ∀ d ∈ l, d.m ≤ k d.rep → ∀ r, d.v r ≤ k r
/-- What replicas and deeds keep. -/
structure EI (base : Nat → Int) (l : List Gd) (K : Nat → Nat → Nat) : Prop where
  num : ∀ d ∈ l, 1 ≤ d.m ∧ d.m ≤ cntG d.rep l
  pas : ∀ d ∈ l, ∀ r, d.v r ≤ cntG r l
  pos : ∀ d ∈ l, d.tgt ≠ 0 → 0 ≤ d.n
  clo : ∀ q, CloG l (K q)
  few : ∀ q r, K q r ≤ cntG r l
  own : ∀ q, K q q = cntG q l
  rgt : ∀ k, CloG l k → (∀ r, k r ≤ cntG r l) → ∀ j, 0 ≤ base j + hG k j l
/-- A number more of a table's. -/
def tab (K : Nat → Nat → Nat) (q : Nat) (f : Nat → Nat) : Nat → Nat → Nat := fun a => if a = q then f else K a
def more (f : Nat → Nat) (r : Nat) (n : Nat) : Nat → Nat := fun a => if a = r then n else f a
theorem EI.nil {base : Nat → Int} (h : ∀ j, 0 ≤ base j) : EI base [] (fun _ _ => 0) :=
  ⟨fun d hd => absurd hd List.not_mem_nil, fun d hd => absurd hd List.not_mem_nil, fun d hd => absurd hd List.not_mem_nil, fun q d hd => absurd hd List.not_mem_nil, fun q r => Nat.zero_le _, fun q => rfl, fun k _ _ j => by simpa [hG] using h j⟩
/-- A replica gets to know what another one knows. -/
theorem EI.join {base : Nat → Int} {l : List Gd} {K : Nat → Nat → Nat} (h : EI base l K) (q f : Nat) : EI base l (tab K q (fun r => max (K q r) (K f r))) := by
  refine ⟨h.num, h.pas, h.pos, fun a => ?_, fun a r => ?_, fun a => ?_, h.rgt⟩
  · unfold tab
    split
    · intro d hd hm r
      dsimp only at hm ⊢
      rcases Nat.lt_or_ge (K q d.rep) d.m with hq | hq
      · have := h.clo f d hd (by omega) r
        omega
      · have := h.clo q d hd hq r
        omega
    · exact h.clo a
  · unfold tab
    split
    · have := h.few q r
      have := h.few f r
      dsimp only
      omega
    · exact h.few a r
  · unfold tab
    split
    · rename_i e
      subst e
      have := h.own a
      have := h.few f a
      dsimp only
      omega
    · exact h.own a
/-- A replica does what is right. -/
theorem EI.deed {base : Nat → Int} {l : List Gd} {K : Nat → Nat → Nat} (h : EI base l K) (d : Gd) (hm : d.m = cntG d.rep l + 1) (hv : d.v = K d.rep) (hp : d.tgt ≠ 0 → 0 ≤ d.n) (hr : 0 ≤ base d.rep + hG (K d.rep) d.rep l + effG d d.rep) : EI base (l ++ [d]) (tab K d.rep (more (K d.rep) d.rep (K d.rep d.rep + 1))) := by
  have hc : ∀ r, cntG r (l ++ [d]) = cntG r l + if d.rep = r then 1 else 0 := fun r => by rw [cntG_app, cntG_one]
  have hle : ∀ r, cntG r l ≤ cntG r (l ++ [d]) := fun r => by rw [hc]; omega
  have hcd : cntG d.rep (l ++ [d]) = cntG d.rep l + 1 := by rw [hc, if_pos rfl]
  have two : ∀ {P : Gd → Prop}, (∀ x ∈ l, P x) → P d → ∀ x ∈ l ++ [d], P x := by
    intro P h1 h2 x hx
    rcases List.mem_append.1 hx with hx | hx
    · exact h1 x hx
    · rw [List.mem_singleton.1 hx]; exact h2
  refine ⟨two (fun x hx => ⟨(h.num x hx).1, Nat.le_trans (h.num x hx).2 (hle _)⟩) ⟨by omega, by rw [hcd]; omega⟩, two (fun x hx r => Nat.le_trans (h.pas x hx r) (hle _)) (fun r => by rw [hv]; exact Nat.le_trans (h.few _ r) (hle _)), two h.pos hp, fun q => ?_, fun q r => ?_, fun q => ?_, fun k hk hkc j => ?_⟩
  · unfold tab
    split
    · refine two (fun x hx hxm r => ?_) (fun _ r => ?_)
      · have hxk : x.m ≤ K d.rep x.rep := by
          unfold more at hxm
          split at hxm
          · rename_i e
            rw [e, h.own, ← e]
            exact (h.num x hx).2
          · exact hxm
        have := h.clo d.rep x hx hxk r
        unfold more
        split
        · rename_i e; subst e; omega
        · exact this
      · rw [hv]
        unfold more
        split
        · rename_i e; subst e; omega
        · exact Nat.le_refl _
    · refine two (h.clo q) (fun hxm => ?_)
      have := h.few q d.rep
      omega
  · unfold tab
    split
    · unfold more
      split
      · rename_i e
        subst e
        rw [hcd, h.own]
        exact Nat.le_refl _
      · exact Nat.le_trans (h.few _ r) (hle r)
    · exact Nat.le_trans (h.few _ r) (hle r)
  · unfold tab
    split
    · rename_i e
      subst e
      rw [hcd]
      unfold more
      rw [if_pos rfl, h.own]
    · rename_i e
      rw [hc, if_neg (fun x => e x.symm), h.own]
      rfl
  · rw [hG_app, hG_one]
    by_cases hd : d.m ≤ k d.rep
    · rw [if_pos hd]
      have hkr : k d.rep = cntG d.rep l + 1 := by have := hkc d.rep; rw [hcd] at this; omega
      have hvk : ∀ r, K d.rep r ≤ k r := fun r => by have := hk d (List.mem_append_right _ (List.mem_singleton.2 rfl)) hd r; rwa [hv] at this
      have hclo : CloG l (more k d.rep (cntG d.rep l)) := by
        intro x hx hxm r
        have hxk : x.m ≤ k x.rep := by
          unfold more at hxm
          split at hxm
          · rename_i e; rw [e, hkr]; omega
          · exact hxm
        have h1 := hk x (List.mem_append_left _ hx) hxk r
        unfold more
        split
        · rename_i e; subst e; exact h.pas x hx _
        · exact h1
      have hfew : ∀ r, more k d.rep (cntG d.rep l) r ≤ cntG r l := by
        intro r
        unfold more
        split
        · rename_i e; subst e; exact Nat.le_refl _
        · rename_i e
          have := hkc r
          rw [hc, if_neg (fun x => e x.symm)] at this
          exact this
      have hsame : hG k j l = hG (more k d.rep (cntG d.rep l)) j l := by
        apply hG_same
        intro x hx
        unfold more
        split
        · rename_i e
          have := (h.num x hx).2
          rw [e] at this ⊢
          rw [hkr]
          exact ⟨fun _ => this, fun _ => by omega⟩
        · exact Iff.rfl
      have hI := h.rgt _ hclo hfew j
      rw [hsame]
      by_cases hj : j = d.rep
      · subst hj
        have hmono : hG (K d.rep) d.rep l ≤ hG (more k d.rep (cntG d.rep l)) d.rep l := by
          apply hG_mono
          · intro r
            unfold more
            split
            · rename_i e; subst e; rw [h.own]; exact Nat.le_refl _
            · exact hvk r
          · exact h.pos
          · intro x hx e
            rw [h.own, ← e]
            exact (h.num x hx).2
        omega
      · have := effG_in hp hj
        omega
    · rw [if_neg hd]
      have := h.rgt k (fun x hx hxm => hk x (List.mem_append_left _ hx) hxm) (fun r => by
        have := hkc r
        rw [hc] at this
        by_cases e : d.rep = r
        · subst e; omega
        · rw [if_neg e] at this; exact this) j
      omega
/-- No rights are below 0. -/
theorem EI.rights {base : Nat → Int} {l : List Gd} {K : Nat → Nat → Nat} (h : EI base l K) (q j : Nat) : 0 ≤ base j + hG (K q) j l := h.rgt _ (h.clo q) (h.few q) j
/-- A deed that is no less than nothing, up, or within the rights. -/
theorem eff_up {base : Nat → Int} {l : List Gd} {K : Nat → Nat → Nat} (h : EI base l K) (d : Gd) (ht : d.tgt = 0) (hn : 0 ≤ d.n) : 0 ≤ base d.rep + hG (K d.rep) d.rep l + effG d d.rep := by
  have := h.rights d.rep d.rep
  unfold effG
  rw [if_pos ht, if_pos rfl]
  omega
theorem eff_own {d : Gd} {x : Int} (h : ∀ n, (d.n = n ∨ d.n = -n) → 0 ≤ n → n ≤ x) (hx : 0 ≤ x) : 0 ≤ x + effG d d.rep := by
  have h1 := h d.n (.inl rfl)
  have h2 := h (-d.n) (.inr (by omega))
  unfold effG
  split
  · rw [if_pos rfl]; omega
  · split
    · omega
    · rw [if_pos rfl]; omega
end Go.Proofs.Ytbihgcmnllajpaa
