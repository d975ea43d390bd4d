/- Accounts (layer 11), in plain mathematics: which may be, a key's number, rights, more had, moved. -/
import Derived.Test.YtbihgcmnllajpaaG0
namespace Go.Proofs.Ytbihgcmnllajpaa
set_option linter.unusedVariables false
/-- An account: Key, Have. -/
abbrev Ac := ByteArray × List Int
abbrev kA : Ac → ByteArray := Prod.fst
def top40 : Int := 1099511627776
abbrev in40 (x : Int) : Bool := decide (-top40 ≤ x ∧ x ≤ top40)
abbrev nz (x : Int) : Bool := decide (x ≠ 0)
def mayAc (x : Ac) : Bool := mayK x.1 && decide (x.2.length = 5) && x.2.all in40 && x.2.any nz
theorem mayAc_iff {x : Ac} : mayAc x = true ↔ mayK x.1 = true ∧ x.2.length = 5 ∧ x.2.all in40 = true ∧ x.2.any nz = true := by simp [mayAc, and_assoc]
abbrev mayA (s : List Ac) : Bool := mayG kA mayAc s
def nul5 : List Int := [0, 0, 0, 0, 0]
/-- What one has. -/
def atH (h : List Int) (j : Nat) : Int := h.getD j 0
/-- What all have of a key. -/
def havA (s : List Ac) (k : ByteArray) : List Int := match getG kA s k with
  | none => nul5
  | some x => x.2
/-- An account of a key with numbers; of noughts alone: none. -/
def accA (k : ByteArray) (h : List Int) : Option Ac := if h.any nz = true then some (k, h) else none
def setA (s : List Ac) (k : ByteArray) (h : List Int) : List Ac := putG kA s k (accA k h)
/-- What one has: more. -/
def incA (h : List Int) (r : Nat) (n : Int) : List Int := h.set (r - 1) (atH h (r - 1) + n)
def addA (s : List Ac) (k : ByteArray) (r : Nat) (n : Int) : List Ac := setA s k (incA (havA s k) r n)
/-- Every row has five. -/
def FvA (s : List Ac) : Prop := ∀ x ∈ s, x.2.length = 5
theorem havA_len {s : List Ac} (h : FvA s) (k : ByteArray) : (havA s k).length = 5 := by
  unfold havA
  rcases e : getG kA s k with _ | x
  · rfl
  · exact h x (getG_some e).1
theorem accA_key {k : ByteArray} {h : List Int} {y : Ac} (e : accA k h = some y) : kA y = k := by
  unfold accA at e
  split at e
  · cases e; rfl
  · cases e
theorem any_nul : ∀ {h : List Int}, h.any nz = false → h.length = 5 → h = nul5
  | [a, b, c, d, e], h, _ => by
    simp [nz] at h
    obtain ⟨rfl, rfl, rfl, rfl, rfl⟩ := h
    rfl
theorem nul_any : nul5.any nz = false := by decide
theorem setA_srt {s : List Ac} (hs : SrtG kA s) (k : ByteArray) (h : List Int) : SrtG kA (setA s k h) := srtG_put hs k (fun y e => accA_key e)
theorem setA_fv {s : List Ac} (hs : FvA s) (k : ByteArray) {h : List Int} (hl : h.length = 5) : FvA (setA s k h) := by
  intro y hy
  rcases memG_put.1 hy with ⟨q, _⟩ | q
  · exact hs y q
  · unfold accA at q
    split at q
    · cases q; exact hl
    · cases q
theorem havA_set {s : List Ac} (hs : SrtG kA s) (k : ByteArray) {h : List Int} (hl : h.length = 5) (k' : ByteArray) : havA (setA s k h) k' = if k' = k then h else havA s k' := by
  unfold havA setA
  rw [getG_put hs k (fun y e => accA_key e)]
  by_cases q : k' = k
  · rw [if_pos q, if_pos q]
    unfold accA
    rcases hb : h.any nz with _ | _
    · simp [any_nul hb hl]
    · simp
  · rw [if_neg q, if_neg q]
theorem setA_set {s : List Ac} (hs : SrtG kA s) (k : ByteArray) (h h' : List Int) : setA (setA s k h) k h' = setA s k h' := by
  refine setG_ext (setA_srt (setA_srt hs k h) k h') (setA_srt hs k h') (fun q => ?_)
  unfold setA
  have ak : ∀ (g : List Int) (y : Ac), accA k g = some y → kA y = k := fun g y e => accA_key e
  rw [getG_put (srtG_put hs k (ak h)) k (ak h'), getG_put hs k (ak h), getG_put hs k (ak h')]
  split
  · rfl
  · rename_i e
    rfl
theorem setA_len (s : List Ac) (k : ByteArray) (h : List Int) : (setA s k h).length ≤ s.length + 1 := putG_len s k _
/-- No row is of noughts. -/
def NzA (s : List Ac) : Prop := ∀ x ∈ s, x.2.any nz = true
theorem setA_same {s : List Ac} (hs : SrtG kA s) (hz : NzA s) (k : ByteArray) : setA s k (havA s k) = s := by
  have e : accA k (havA s k) = getG kA s k := by
    unfold havA accA
    rcases q : getG kA s k with _ | x
    · rw [if_neg (by rw [nul_any]; simp)]
    · have := getG_some q
      dsimp only
      rw [if_pos (hz x this.1)]
      obtain ⟨a, b⟩ := x
      have := this.2
      subst this
      rfl
  unfold setA
  rw [e, putG_same hs]
theorem mayA_parts {s : List Ac} (h : mayA s = true) : SrtG kA s ∧ FvA s ∧ NzA s ∧ s.length ≤ 4000 := by
  obtain ⟨q1, q2, q3⟩ := mayG_iff.1 h
  exact ⟨q2, fun x hx => (mayAc_iff.1 (q1 x hx)).2.1, fun x hx => (mayAc_iff.1 (q1 x hx)).2.2.2, q3⟩
theorem havA_may {s : List Ac} (h : mayA s = true) (k : ByteArray) : (havA s k).all in40 = true := by
  unfold havA
  rcases e : getG kA s k with _ | x
  · decide
  · exact (mayAc_iff.1 ((mayG_iff.1 h).1 x (getG_some e).1)).2.2.1
/-- May accounts be in which a key has such numbers? -/
theorem mayA_set {s : List Ac} (h : mayA s = true) {k : ByteArray} (hk : mayK k = true) {g : List Int} (hl : g.length = 5) (h1 : g.all in40 = true) (hn : s.length < 4000) : mayA (setA s k g) = true := by
  refine mayG_put h k (fun y hy => ?_) hn
  unfold accA at hy
  split at hy
  · cases hy
    exact ⟨rfl, mayAc_iff.2 ⟨hk, hl, h1, by assumption⟩⟩
  · cases hy
theorem mayA_big {s : List Ac} (hs : SrtG kA s) {k : ByteArray} {g : List Int} (hl : g.length = 5) (h : g.all in40 = false) : mayA (setA s k g) = false := by
  rcases hb : mayA (setA s k g) with _ | _
  · rfl
  · exfalso
    have q := havA_may hb k
    rw [havA_set hs k hl, if_pos rfl, h] at q
    cases q
theorem incA_len (h : List Int) (r : Nat) (n : Int) : (incA h r n).length = h.length := by unfold incA; rw [List.length_set]
theorem havA_add {s : List Ac} (hs : SrtG kA s) (hf : FvA s) (k : ByteArray) (r : Nat) (n : Int) (k' : ByteArray) : havA (addA s k r n) k' = if k' = k then incA (havA s k) r n else havA s k' := havA_set hs k ((incA_len _ _ _).trans (havA_len hf k)) k'
/-- Moved: as two. -/
theorem addA_add {s : List Ac} (hs : SrtG kA s) (hf : FvA s) (k : ByteArray) (r t : Nat) (n m : Int) : addA (addA s k r n) k t m = setA s k (incA (incA (havA s k) r n) t m) := by
  unfold addA
  rw [havA_set hs k ((incA_len _ _ _).trans (havA_len hf k)), if_pos rfl, setA_set hs]
/-- A key's number; a replica's rights. -/
def numA (h : List Int) : Int := atH h 0 + atH h 1 + atH h 2 + atH h 3 + atH h 4
def rgtA (h : List Int) (r : Nat) (f : Int) : Int := if r = 1 then atH h 0 - f else atH h (r - 1)
theorem incA_get {h : List Int} (hl : h.length = 5) {r : Nat} (hr : 1 ≤ r ∧ r ≤ 5) (n : Int) (j : Nat) : atH (incA h r n) j = atH h j + if j = r - 1 then n else 0 := by
  unfold incA atH
  rw [List.getD_eq_getElem?_getD, List.getElem?_set]
  split
  · rename_i e
    subst e
    rw [if_pos (by omega), if_pos rfl]
    rfl
  · rename_i e
    rw [if_neg (fun q => e q.symm), Int.add_zero, ← List.getD_eq_getElem?_getD]
theorem numA_inc {h : List Int} (hl : h.length = 5) {r : Nat} (hr : 1 ≤ r ∧ r ≤ 5) (n : Int) : numA (incA h r n) = numA h + n := by
  unfold numA
  simp only [incA_get hl hr]
  rcases (by omega : r = 1 ∨ r = 2 ∨ r = 3 ∨ r = 4 ∨ r = 5) with rfl | rfl | rfl | rfl | rfl <;> simp <;> omega
/-- Moves turn no number. -/
theorem numA_mov {h : List Int} (hl : h.length = 5) {r t : Nat} (hr : 1 ≤ r ∧ r ≤ 5) (ht : 1 ≤ t ∧ t ≤ 5) (n : Int) : numA (incA (incA h r (-n)) t n) = numA h := by
  rw [numA_inc ((incA_len _ _ _).trans hl) ht, numA_inc hl hr]
  omega
theorem rgtA_sum (h : List Int) (f : Int) : rgtA h 1 f + rgtA h 2 f + rgtA h 3 f + rgtA h 4 f + rgtA h 5 f = numA h - f := by
  unfold rgtA numA
  simp
  omega
/-- Numbers of five. -/
def vec5 (f : Nat → Int) : List Int := [f 1, f 2, f 3, f 4, f 5]
theorem vec5_get (f : Nat → Int) {j : Nat} (h : 1 ≤ j ∧ j ≤ 5) : atH (vec5 f) (j - 1) = f j := by
  rcases (by omega : j = 1 ∨ j = 2 ∨ j = 3 ∨ j = 4 ∨ j = 5) with rfl | rfl | rfl | rfl | rfl <;> rfl
theorem vec5_inc (f : Nat → Int) {r : Nat} (h : 1 ≤ r ∧ r ≤ 5) (n : Int) : incA (vec5 f) r n = vec5 (fun j => f j + if j = r then n else 0) := by
  rcases (by omega : r = 1 ∨ r = 2 ∨ r = 3 ∨ r = 4 ∨ r = 5) with rfl | rfl | rfl | rfl | rfl <;> simp [vec5, incA, atH]
theorem vec5_all {f : Nat → Int} (h : ∀ j, -top40 ≤ f j ∧ f j ≤ top40) : (vec5 f).all in40 = true := by
  have h1 := h 1
  have h2 := h 2
  have h3 := h 3
  have h4 := h 4
  have h5 := h 5
  simp [vec5, in40]
  omega
/-- The accounts of one key alone. -/
abbrev oneA (k : ByteArray) (f : Nat → Int) : List Ac := setA [] k (vec5 f)
theorem srtA_nil : SrtG kA [] := List.Pairwise.nil
theorem oneA_have (k : ByteArray) (f : Nat → Int) : havA (oneA k f) k = vec5 f := by
  rw [havA_set srtA_nil k rfl, if_pos rfl]
theorem oneA_nil (k : ByteArray) : oneA k (fun _ => 0) = [] := by
  show putG kA [] k (accA k _) = []
  unfold accA
  rw [if_neg (by decide)]
  rfl
theorem oneA_may {k : ByteArray} (hk : mayK k = true) {f : Nat → Int} (h : ∀ j, -top40 ≤ f j ∧ f j ≤ top40) : mayA (oneA k f) = true := mayA_set (s := []) (by decide) hk rfl (vec5_all h) (by simp)
theorem oneA_add (k : ByteArray) (f : Nat → Int) {r : Nat} (h : 1 ≤ r ∧ r ≤ 5) (n : Int) : addA (oneA k f) k r n = oneA k (fun j => f j + if j = r then n else 0) := by
  unfold addA
  rw [oneA_have, setA_set srtA_nil, vec5_inc f h]
theorem oneA_ext {k : ByteArray} {f g : Nat → Int} (h : ∀ j, 1 ≤ j → j ≤ 5 → f j = g j) : oneA k f = oneA k g := by
  unfold oneA vec5
  rw [h 1 (by omega) (by omega), h 2 (by omega) (by omega), h 3 (by omega) (by omega), h 4 (by omega) (by omega), h 5 (by omega) (by omega)]
/-- Rights of one key's accounts. -/
theorem vec5_rgt (f : Nat → Int) {j : Nat} (h : 1 ≤ j ∧ j ≤ 5) (low : Int) : rgtA (vec5 f) j low = (if j = 1 then -low else 0) + f j := by
  rcases (by omega : j = 1 ∨ j = 2 ∨ j = 3 ∨ j = 4 ∨ j = 5) with rfl | rfl | rfl | rfl | rfl <;> simp [vec5, rgtA, atH] <;> omega
end Go.Proofs.Ytbihgcmnllajpaa
