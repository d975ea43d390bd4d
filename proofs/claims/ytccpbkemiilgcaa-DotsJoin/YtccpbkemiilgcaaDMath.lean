/- Dots in plain mathematics: in order, put, folded; what is seen; there is one Seen of each set of dots. -/
import Derived.Test.YtccpbkemiilgcaaCMath
namespace Go.Proofs.Ytccpbkemiilgcaa

abbrev Dot := Int × Int
def mayD (d : Dot) : Bool := decide (1 ≤ d.1 ∧ d.1 ≤ 5 ∧ 1 ≤ d.2 ∧ d.2 ≤ 1048576)
def lessD (a b : Dot) : Bool := decide (a.1 < b.1 ∨ (a.1 = b.1 ∧ a.2 < b.2))
def cmpD (a b : Dot) : Int := if lessD a b = true then -1 else if lessD b a = true then 1 else 0
def SrtD (l : List Dot) : Prop := l.Pairwise (fun a b => lessD a b = true)
/-- Dots in order with one more. -/
def putD : List Dot → Dot → List Dot
  | [], d => [d]
  | x :: r, d => if lessD x d = true then x :: putD r d else if x = d then x :: r else d :: x :: r
/-- Dots in order, each once. -/
def ordD (l : List Dot) : List Dot := l.foldl putD []

theorem mayD_iff {d : Dot} : mayD d = true ↔ 1 ≤ d.1 ∧ d.1 ≤ 5 ∧ 1 ≤ d.2 ∧ d.2 ≤ 1048576 := by simp [mayD]
theorem lessD_iff {a b : Dot} : lessD a b = true ↔ a.1 < b.1 ∨ (a.1 = b.1 ∧ a.2 < b.2) := by simp [lessD]
theorem lessD_irr (a : Dot) : lessD a a = false := by simp [lessD]
theorem lessD_trans {a b c : Dot} (h : lessD a b = true) (k : lessD b c = true) : lessD a c = true := by
  rw [lessD_iff] at *; omega
theorem lessD_tri (a b : Dot) : lessD a b = true ∨ a = b ∨ lessD b a = true := by
  rw [lessD_iff, lessD_iff]
  obtain ⟨a1, a2⟩ := a
  obtain ⟨b1, b2⟩ := b
  simp only [Prod.mk.injEq]
  omega
theorem lessD_asym {a b : Dot} (h : lessD a b = true) : lessD b a = false := by
  rw [lessD_iff] at h
  simp [lessD]; omega
theorem lessD_ne {a b : Dot} (h : lessD a b = true) : a ≠ b := by
  rintro rfl; rw [lessD_irr] at h; cases h
theorem cmpD_lt {a b : Dot} : cmpD a b < 0 ↔ lessD a b = true := by
  unfold cmpD
  split
  · simp [*]
  · split <;> simp [*]
theorem cmpD_eq {a b : Dot} : cmpD a b = 0 ↔ a = b := by
  unfold cmpD
  split
  · next h => simp; exact lessD_ne h
  · split
    · next h => simp; exact fun e => lessD_ne h e.symm
    · next h1 h2 => simp; rcases lessD_tri a b with h | h | h
                    · exact absurd h h1
                    · exact h
                    · exact absurd h h2

theorem mem_putD {x d : Dot} : ∀ {l : List Dot}, x ∈ putD l d ↔ x = d ∨ x ∈ l
  | [] => by simp [putD]
  | y :: r => by
    unfold putD
    split
    · simp only [List.mem_cons, mem_putD (l := r)]
      constructor
      · rintro (h | h | h)
        · exact .inr (.inl h)
        · exact .inl h
        · exact .inr (.inr h)
      · rintro (h | h | h)
        · exact .inr (.inl h)
        · exact .inl h
        · exact .inr (.inr h)
    · split
      · next h => subst h; simp
      · simp
theorem srt_putD {d : Dot} : ∀ {l : List Dot}, SrtD l → SrtD (putD l d)
  | [], _ => by simp [putD, SrtD]
  | y :: r, h => by
    unfold SrtD at h
    rw [List.pairwise_cons] at h
    obtain ⟨h1, h2⟩ := h
    unfold putD
    split
    · next hl =>
      unfold SrtD
      rw [List.pairwise_cons]
      refine ⟨fun a ha => ?_, srt_putD h2⟩
      rcases mem_putD.1 ha with rfl | ha
      · exact hl
      · exact h1 a ha
    · next hl =>
      split
      · exact List.pairwise_cons.2 ⟨h1, h2⟩
      · next hne =>
        have hd : lessD d y = true := by
          rcases lessD_tri y d with h | h | h
          · exact absurd h hl
          · exact absurd h hne
          · exact h
        refine List.pairwise_cons.2 ⟨fun a ha => ?_, List.pairwise_cons.2 ⟨h1, h2⟩⟩
        rcases List.mem_cons.1 ha with rfl | ha
        · exact hd
        · exact lessD_trans hd (h1 a ha)
theorem putD_len {d : Dot} : ∀ {l : List Dot}, (putD l d).length ≤ l.length + 1
  | [] => by simp [putD]
  | y :: r => by
    unfold putD
    split
    · have := putD_len (l := r) (d := d); simp; omega
    · split <;> simp
theorem srt_ext : ∀ {l m : List Dot}, SrtD l → SrtD m → (∀ x, x ∈ l ↔ x ∈ m) → l = m
  | [], [], _, _, _ => rfl
  | [], y :: r, _, _, h => by have := (h y).2 (by simp); cases this
  | y :: r, [], _, _, h => by have := (h y).1 (by simp); cases this
  | x :: r, y :: s, h1, h2, h => by
    have k1 := List.pairwise_cons.1 h1
    have k2 := List.pairwise_cons.1 h2
    have e : x = y := by
      rcases lessD_tri x y with q | q | q
      · have := (h x).1 (by simp)
        rcases List.mem_cons.1 this with e | e
        · exact e
        · have := lessD_asym (k2.1 x e); rw [q] at this; cases this
      · exact q
      · have := (h y).2 (by simp)
        rcases List.mem_cons.1 this with e | e
        · exact e.symm
        · have := lessD_asym (k1.1 y e); rw [q] at this; cases this
    subst e
    rw [srt_ext k1.2 k2.2 (fun z => ?_)]
    constructor
    · intro hz
      rcases List.mem_cons.1 ((h z).1 (List.mem_cons_of_mem _ hz)) with e | e
      · subst e; have := k1.1 z hz; rw [lessD_irr] at this; cases this
      · exact e
    · intro hz
      rcases List.mem_cons.1 ((h z).2 (List.mem_cons_of_mem _ hz)) with e | e
      · subst e; have := k2.1 z hz; rw [lessD_irr] at this; cases this
      · exact e
theorem foldl_putD_srt (l : List Dot) : ∀ m, SrtD m → SrtD (l.foldl putD m) := by
  induction l with
  | nil => exact fun m h => h
  | cons d r ih => exact fun m h => ih _ (srt_putD h)
theorem foldl_putD_mem (l : List Dot) (x : Dot) : ∀ m, x ∈ l.foldl putD m ↔ x ∈ m ∨ x ∈ l := by
  induction l with
  | nil => simp
  | cons d r ih =>
    intro m
    rw [List.foldl_cons, ih, mem_putD, List.mem_cons]
    constructor
    · rintro ((h | h) | h)
      · exact .inr (.inl h)
      · exact .inl h
      · exact .inr (.inr h)
    · rintro (h | h | h)
      · exact .inl (.inr h)
      · exact .inl (.inl h)
      · exact .inr h
theorem foldl_putD_len (l : List Dot) : ∀ m, (l.foldl putD m).length ≤ m.length + l.length := by
  induction l with
  | nil => intro m; simp
  | cons d r ih => intro m; have := ih (putD m d); have := putD_len (l := m) (d := d); simp; omega
theorem ordD_srt (l : List Dot) : SrtD (ordD l) := foldl_putD_srt l [] (by simp [SrtD])
theorem ordD_mem {l : List Dot} {x : Dot} : x ∈ ordD l ↔ x ∈ l := by unfold ordD; rw [foldl_putD_mem]; simp
theorem ordD_len (l : List Dot) : (ordD l).length ≤ l.length := by have := foldl_putD_len l []; simpa [ordD] using this
theorem ordD_is {l m : List Dot} (h : SrtD m) (k : ∀ x, x ∈ m ↔ x ∈ l) : m = ordD l := srt_ext h (ordD_srt l) (fun x => (k x).trans ordD_mem.symm)
/-- 'Put', as the document does it. -/
theorem putD_at {d : Dot} : ∀ (k : Nat) {l : List Dot}, k ≤ l.length → (∀ i, i < k → lessD (l.getD i (0, 0)) d = true) → (k = l.length ∨ lessD (l.getD k (0, 0)) d = false) →
    putD l d = if k < l.length ∧ l.getD k (0, 0) = d then l else l.take k ++ d :: l.drop k
  | 0, [], _, _, _ => by simp [putD]
  | 0, x :: r, _, _, h => by
    have h' : lessD x d = false := by simpa using h
    unfold putD
    simp [h']
  | k + 1, [], h, _, _ => by simp at h
  | k + 1, x :: r, hk, hl, h => by
    have h0 : lessD x d = true := by simpa using hl 0 (by omega)
    have ih := putD_at (d := d) k (l := r) (by simpa using hk) (fun i hi => by simpa using hl (i + 1) (by omega)) (by simpa using h)
    unfold putD
    rw [if_pos h0, ih]
    simp only [List.length_cons, Nat.add_lt_add_iff_right, List.getD_cons_succ, List.take_succ_cons, List.drop_succ_cons, List.cons_append]
    split <;> rfl

/-- A Seen: five numbers, and more dots. -/
abbrev Sn := List Int × List Dot
def numX (X : List Int) (d : Dot) : Int := X.getD (d.1 - 1).toNat 0
def stepX (s : Sn) (d : Dot) : Sn :=
  if d.2 = numX s.1 d + 1 then (s.1.set (d.1 - 1).toNat d.2, s.2) else if d.2 > numX s.1 d + 1 then (s.1, s.2 ++ [d]) else s
def foldX (X : List Int) (l : List Dot) : Sn := l.foldl stepX (X, [])
abbrev hasX (s : Sn) (d : Dot) : Prop := d.2 ≤ numX s.1 d ∨ d ∈ s.2
def BdX (X : List Int) : Prop := X.length = 5 ∧ ∀ a ∈ X, 0 ≤ a ∧ a ≤ 1048576
def GoodX (s : Sn) : Prop := BdX s.1 ∧ SrtD s.2 ∧ ∀ x ∈ s.2, mayD x = true ∧ numX s.1 x + 1 < x.2

theorem numX_bd {X : List Int} (h : BdX X) (d : Dot) : 0 ≤ numX X d ∧ numX X d ≤ 1048576 := by
  unfold numX
  generalize (d.1 - 1).toNat = k
  by_cases hk : k < X.length
  · have : X.getD k 0 = X[k] := by simp [List.getD_eq_getElem?_getD, hk]
    rw [this]; exact h.2 _ (List.getElem_mem hk)
  · have : X.getD k 0 = 0 := by simp [List.getD_eq_getElem?_getD, Nat.not_lt.mp hk]
    rw [this]; omega
theorem numX_set {X : List Int} (h : BdX X) {d x : Dot} (hd : mayD d = true) (hx : mayD x = true) (n : Int) : numX (X.set (d.1 - 1).toNat n) x = if x.1 = d.1 then n else numX X x := by
  rw [mayD_iff] at hd hx
  unfold numX
  rw [List.getD_eq_getElem?_getD, List.getElem?_set]
  have h5 := h.1
  by_cases e : x.1 = d.1
  · rw [if_pos (by omega), if_pos e, if_pos (by omega)]; rfl
  · rw [if_neg (by omega), if_neg e, List.getD_eq_getElem?_getD]
theorem BdX.set {X : List Int} (h : BdX X) {d : Dot} (hd : mayD d = true) (i : Nat) : BdX (X.set i d.2) := by
  rw [mayD_iff] at hd
  refine ⟨by rw [List.length_set]; exact h.1, fun a ha => ?_⟩
  rcases List.mem_or_eq_of_mem_set ha with q | rfl
  · exact h.2 a q
  · omega
theorem step_len (s : Sn) (d : Dot) : (stepX s d).2.length ≤ s.2.length + 1 := by
  unfold stepX
  split
  · simp
  · split <;> simp
theorem foldl_step_len (l : List Dot) : ∀ s : Sn, (l.foldl stepX s).2.length ≤ s.2.length + l.length := by
  induction l with
  | nil => intro s; simp
  | cons d r ih => intro s; have := ih (stepX s d); have := step_len s d; simp; omega
theorem foldX_len (X : List Int) (l : List Dot) : (foldX X l).2.length ≤ l.length := by have := foldl_step_len l (X, []); simpa [foldX] using this

theorem fold_good (X : List Int) : ∀ (l : List Dot) (s : Sn) (P : List Dot), GoodX s → SrtD (P ++ l) → (∀ x ∈ l, mayD x = true) → (∀ x ∈ s.2, x ∈ P) →
    (∀ d, mayD d = true → (hasX s d ↔ d.2 ≤ numX X d ∨ d ∈ P)) →
    GoodX (l.foldl stepX s) ∧ ∀ d, mayD d = true → (hasX (l.foldl stepX s) d ↔ d.2 ≤ numX X d ∨ d ∈ P ++ l)
  | [], s, P, hg, _, _, _, hh => by rw [List.append_nil]; exact ⟨hg, hh⟩
  | d :: r, s, P, hg, hs, hm, hp, hh => by
    have hd := hm d (by simp)
    have hlt : ∀ x ∈ P, lessD x d = true := fun x hx => (List.pairwise_append.1 hs).2.2 x hx d (by simp)
    have e : P ++ d :: r = (P ++ [d]) ++ r := by simp
    rw [e] at hs ⊢
    refine fold_good X r (stepX s d) (P ++ [d]) ?_ hs (fun x hx => hm x (List.mem_cons_of_mem _ hx)) ?_ ?_
    · unfold stepX
      split
      · next h1 =>
        refine ⟨hg.1.set hd _, hg.2.1, fun x hx => ?_⟩
        have hx1 := hg.2.2 x hx
        refine ⟨hx1.1, ?_⟩
        have hl := hlt x (hp x hx)
        rw [numX_set hg.1 hd hx1.1]
        split
        · next e1 =>
          rw [lessD_iff] at hl
          have e2 : numX s.1 x = numX s.1 d := by unfold numX; rw [e1]
          omega
        · exact hx1.2
      · split
        · next h1 h2 =>
          refine ⟨hg.1, ?_, fun x hx => ?_⟩
          · refine List.pairwise_append.2 ⟨hg.2.1, by simp, fun x hx y hy => ?_⟩
            rw [List.mem_singleton] at hy
            subst hy
            exact hlt x (hp x hx)
          · rcases List.mem_append.1 hx with q | q
            · exact hg.2.2 x q
            · rw [List.mem_singleton] at q; subst q; exact ⟨hd, by omega⟩
        · exact hg
    · intro x hx
      unfold stepX at hx
      split at hx
      · exact List.mem_append_left _ (hp x hx)
      · split at hx
        · rcases List.mem_append.1 hx with q | q
          · exact List.mem_append_left _ (hp x q)
          · exact List.mem_append_right _ q
        · exact List.mem_append_left _ (hp x hx)
    · intro x hx
      have hx0 := hh x hx
      have key : hasX (stepX s d) x ↔ hasX s x ∨ x = d := by
        unfold stepX
        split
        · next h1 =>
          unfold hasX
          simp only [numX_set hg.1 hd hx]
          by_cases e1 : x.1 = d.1
          · have e2 : numX s.1 x = numX s.1 d := by unfold numX; rw [e1]
            rw [if_pos e1]
            constructor
            · rintro (q | q)
              · by_cases e3 : x.2 = d.2
                · exact .inr (Prod.ext e1 e3)
                · exact .inl (.inl (by omega))
              · exact .inl (.inr q)
            · rintro ((q | q) | q)
              · exact .inl (by omega)
              · exact .inr q
              · subst q; exact .inl (by omega)
          · rw [if_neg e1]
            constructor
            · exact fun q => .inl q
            · rintro (q | q)
              · exact q
              · subst q; exact absurd rfl e1
        · split
          · unfold hasX
            simp only [List.mem_append, List.mem_singleton]
            constructor
            · rintro (q | q | q)
              · exact .inl (.inl q)
              · exact .inl (.inr q)
              · exact .inr q
            · rintro ((q | q) | q)
              · exact .inl q
              · exact .inr (.inl q)
              · exact .inr (.inr q)
          · next h1 h2 =>
            constructor
            · exact fun q => .inl q
            · rintro (q | q)
              · exact q
              · subst q; exact .inl (by omega)
      rw [key, hx0, List.mem_append, List.mem_singleton]
      constructor
      · rintro ((q | q) | q)
        · exact .inl q
        · exact .inr (.inl q)
        · exact .inr (.inr q)
      · rintro (q | q | q)
        · exact .inl (.inl q)
        · exact .inl (.inr q)
        · exact .inr q
theorem foldX_good {X : List Int} (hX : BdX X) {l : List Dot} (hs : SrtD l) (hm : ∀ x ∈ l, mayD x = true) :
    GoodX (foldX X l) ∧ ∀ d, mayD d = true → (hasX (foldX X l) d ↔ d.2 ≤ numX X d ∨ d ∈ l) := by
  have h := fold_good X l (X, []) [] ⟨hX, by simp [SrtD], by simp⟩ (by simpa using hs) hm (by simp) (by intro d _; simp [hasX])
  simpa [foldX] using h

/-- There is one Seen of each set of dots. -/
theorem good_ext {s t : Sn} (hs : GoodX s) (ht : GoodX t) (h : ∀ d, mayD d = true → (hasX s d ↔ hasX t d)) : s = t := by
  have half : ∀ {s t : Sn}, GoodX s → GoodX t → (∀ d, mayD d = true → (hasX s d ↔ hasX t d)) → ∀ i, i < 5 → t.1.getD i 0 ≤ s.1.getD i 0 := by
    intro s t hs ht h i hi
    refine Int.not_lt.1 fun hlt => ?_
    have e : ∀ X : List Int, ∀ n, numX X (((i : Int) + 1), n) = X.getD i 0 := fun X n => by unfold numX; congr 1; show ((i : Int) + 1 - 1).toNat = i; omega
    have b1 := numX_bd hs.1 (((i : Int) + 1), s.1.getD i 0 + 1)
    have b2 := numX_bd ht.1 (((i : Int) + 1), s.1.getD i 0 + 1)
    rw [e] at b1 b2
    have hm : mayD (((i : Int) + 1), s.1.getD i 0 + 1) = true := mayD_iff.2 ⟨by show 1 ≤ (i : Int) + 1; omega, by show (i : Int) + 1 ≤ 5; omega, by show 1 ≤ s.1.getD i 0 + 1; omega, by show s.1.getD i 0 + 1 ≤ 1048576; omega⟩
    have h1 : hasX t (((i : Int) + 1), s.1.getD i 0 + 1) := .inl (by rw [e]; show s.1.getD i 0 + 1 ≤ _; omega)
    rcases (h _ hm).2 h1 with q | q
    · rw [e] at q
      have q' : s.1.getD i 0 + 1 ≤ s.1.getD i 0 := q
      omega
    · have := (hs.2.2 _ q).2
      rw [e] at this
      have q' : s.1.getD i 0 + 1 < s.1.getD i 0 + 1 := this
      omega
  have e1 : s.1 = t.1 := by
    rw [← vec_eq s.1 hs.1.1, ← vec_eq t.1 ht.1.1]
    have a1 := half hs ht h
    have a2 := half ht hs (fun d hd => (h d hd).symm)
    have q : ∀ i, i < 5 → s.1.getD i 0 = t.1.getD i 0 := fun i hi => Int.le_antisymm (a2 i hi) (a1 i hi)
    rw [q 0 (by omega), q 1 (by omega), q 2 (by omega), q 3 (by omega), q 4 (by omega)]
  refine Prod.ext e1 (srt_ext hs.2.1 ht.2.1 fun x => ?_)
  constructor
  · intro hx
    have k := hs.2.2 x hx
    rcases (h x k.1).1 (.inr hx) with q | q
    · rw [← e1] at q; omega
    · exact q
  · intro hx
    have k := ht.2.2 x hx
    rcases (h x k.1).2 (.inr hx) with q | q
    · rw [e1] at q; omega
    · exact q

/-- The document's 'Add'. -/
def addR (s : Sn) (d : Dot) : Sn := if hasX s d then s else foldX s.1 (putD s.2 d)
theorem addR_good {s : Sn} (hs : GoodX s) {d : Dot} (hd : mayD d = true) : GoodX (addR s d) ∧ ∀ x, mayD x = true → (hasX (addR s d) x ↔ hasX s x ∨ x = d) := by
  unfold addR
  split
  · next h =>
    refine ⟨hs, fun x _ => ⟨fun q => .inl q, ?_⟩⟩
    rintro (q | q)
    · exact q
    · subst q; exact h
  · have h := foldX_good hs.1 (srt_putD (d := d) hs.2.1) (fun x hx => by rcases mem_putD.1 hx with q | q; · subst q; exact hd
                                                                         · exact (hs.2.2 x q).1)
    refine ⟨h.1, fun x hx => ?_⟩
    rw [h.2 x hx, mem_putD]
    unfold hasX
    constructor
    · rintro (q | q | q)
      · exact .inl (.inl q)
      · exact .inr q
      · exact .inl (.inr q)
    · rintro ((q | q) | q)
      · exact .inl q
      · exact .inr (.inr q)
      · exact .inr (.inl q)
theorem addR_len (s : Sn) (d : Dot) : (addR s d).2.length ≤ s.2.length + 1 := by
  unfold addR
  split
  · omega
  · exact Nat.le_trans (foldX_len _ _) putD_len
theorem addsR {l : List Dot} (hl : ∀ x ∈ l, mayD x = true) : ∀ {s : Sn}, GoodX s → GoodX (l.foldl addR s) ∧ ∀ x, mayD x = true → (hasX (l.foldl addR s) x ↔ hasX s x ∨ x ∈ l) := by
  induction l with
  | nil => intro s hs; simpa using hs
  | cons d r ih =>
    intro s hs
    have h1 := addR_good hs (hl d (by simp))
    have h2 := ih (fun x hx => hl x (List.mem_cons_of_mem _ hx)) h1.1
    refine ⟨h2.1, fun x hx => ?_⟩
    rw [List.foldl_cons, h2.2 x hx, h1.2 x hx, List.mem_cons]
    constructor
    · rintro ((q | q) | q)
      · exact .inl q
      · exact .inr (.inl q)
      · exact .inr (.inr q)
    · rintro (q | q | q)
      · exact .inl (.inl q)
      · exact .inl (.inr q)
      · exact .inr q

/-- The document's step, which passes none by. -/
def stepR (s : Sn) (d : Dot) : Sn := if d.2 = numX s.1 d + 1 then (s.1.set (d.1 - 1).toNat d.2, s.2) else (s.1, s.2 ++ [d])
theorem stepR_is {s : Sn} {d : Dot} (h : numX s.1 d < d.2) : stepR s d = stepX s d := by
  unfold stepR stepX
  split
  · rfl
  · rw [if_pos (by omega)]
theorem foldR_is : ∀ (l : List Dot) (s : Sn), BdX s.1 → SrtD l → (∀ x ∈ l, mayD x = true ∧ numX s.1 x < x.2) → l.foldl stepR s = l.foldl stepX s
  | [], _, _, _, _ => rfl
  | d :: r, s, hb, hs, h => by
    have k := List.pairwise_cons.1 hs
    rw [List.foldl_cons, List.foldl_cons, stepR_is (h d (by simp)).2]
    have hb' : BdX (stepX s d).1 := by
      unfold stepX
      split
      · exact hb.set (h d (by simp)).1 _
      · split <;> exact hb
    refine foldR_is r _ hb' k.2 fun x hx => ⟨(h x (List.mem_cons_of_mem _ hx)).1, ?_⟩
    have hx1 := h x (List.mem_cons_of_mem _ hx)
    have hl := k.1 x hx
    rw [lessD_iff] at hl
    unfold stepX
    split
    · show numX (s.1.set (d.1 - 1).toNat d.2) x < x.2
      rw [numX_set hb (h d (by simp)).1 hx1.1]
      split
      · omega
      · exact hx1.2
    · split <;> exact hx1.2
theorem addR_as {s : Sn} (hs : GoodX s) {d : Dot} (hd : mayD d = true) (hn : ¬ hasX s d) : addR s d = (putD s.2 d).foldl stepR (s.1, []) := by
  unfold addR
  rw [if_neg hn]
  symm
  refine foldR_is _ (s.1, []) hs.1 (srt_putD hs.2.1) fun x hx => ?_
  rcases mem_putD.1 hx with q | q
  · subst q
    exact ⟨hd, by have : ¬ x.2 ≤ numX s.1 x := fun q => hn (.inl q); show numX s.1 x < x.2; omega⟩
  · have := hs.2.2 x q
    exact ⟨this.1, by show numX s.1 x < x.2; omega⟩
end Go.Proofs.Ytccpbkemiilgcaa
