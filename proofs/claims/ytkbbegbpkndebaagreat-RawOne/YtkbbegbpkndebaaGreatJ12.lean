/- Texts of this claim, joined: GN0, H0, GT1, GE2, GN1. -/
import Derived.Deep.RegionWith
import Derived.Deep.CutBlock
import Derived.Deep.CutRange
import Derived.Test.YtkbbegbpkndebaaGreatJ11
import Derived.Test.YtkbbegbpkndebaaGreatJ4
/- Registers (layer 12), in plain mathematics: which notes may be, which is later, a note set; the theorem of order. -/
namespace Go.Proofs.YtkbbegbpkndebaaGreat
set_option linter.unusedVariables false
/-- A note: Key, At, Rep, Word. -/
abbrev Nt := ByteArray × Int × Int × ByteArray
abbrev kN : Nt → ByteArray := Prod.fst
def mayNt (x : Nt) : Bool := mayK x.1 && decide (1 ≤ x.2.1 ∧ x.2.1 ≤ 1099511627776) && decide (1 ≤ x.2.2.1 ∧ x.2.2.1 ≤ 5) && decide (x.2.2.2.size ≤ 64)
theorem mayNt_iff {x : Nt} : mayNt x = true ↔ mayK x.1 = true ∧ (1 ≤ x.2.1 ∧ x.2.1 ≤ 1099511627776) ∧ (1 ≤ x.2.2.1 ∧ x.2.2.1 ≤ 5) ∧ x.2.2.2.size ≤ 64 := by
  unfold mayNt
  rw [Bool.and_eq_true, Bool.and_eq_true, Bool.and_eq_true, decide_eq_true_iff, decide_eq_true_iff, decide_eq_true_iff]
  exact ⟨fun h => ⟨h.1.1.1, h.1.1.2, h.1.2, h.2⟩, fun h => ⟨⟨⟨h.1, h.2.1⟩, h.2.2.1⟩, h.2.2.2⟩⟩
abbrev mayR12 (s : List Nt) : Bool := mayG kN mayNt s
/-- Is a note later than another one? -/
def laterN (a b : Nt) : Bool := if a.2.1 ≠ b.2.1 then decide (b.2.1 < a.2.1) else if a.2.2.1 ≠ b.2.2.1 then decide (b.2.2.1 < a.2.2.1) else ltK b.2.2.2 a.2.2.2
/-- A note is set. -/
def setN (s : List Nt) (n : Nt) : List Nt := match getG kN s n.1 with
  | none => putG kN s n.1 (some n)
  | some was => if laterN n was = true then putG kN s n.1 (some n) else s
theorem setN_len (s : List Nt) (n : Nt) : (setN s n).length ≤ s.length + 1 := by
  unfold setN
  have := putG_len (key := kN) s n.1 (some n)
  split
  · exact this
  · split
    · exact this
    · omega
theorem setN_may {s : List Nt} (h : mayR12 s = true) {n : Nt} (hn : mayNt n = true) (hl : s.length < 4000) : mayR12 (setN s n) = true := by
  have q : mayR12 (putG kN s n.1 (some n)) = true := mayG_put h n.1 (fun y hy => by cases hy; exact ⟨rfl, hn⟩) hl
  unfold setN
  split
  · exact q
  · split
    · exact q
    · exact h
end Go.Proofs.YtkbbegbpkndebaaGreat

/- All things (layer 13), in plain mathematics: kinds, raw, and what events do to them. -/
namespace Go.Proofs.YtkbbegbpkndebaaGreat
set_option linter.unusedVariables false
/-- Kinds: in which sets a drop holds; the counts' floors; how many registers there are. -/
abbrev Kd := List Bool × List (Bool × Int) × Int
/-- Raw: sets, tallies, accounts, registers. -/
abbrev Rw := List (List En) × List (List Ce) × List (List Ac) × List (List Nt)
def floB (f : Bool × Int) : Bool := decide (f.2 ≤ 0 ∧ -1000 ≤ f.2) && (f.1 || decide (f.2 = 0))
def kindsB (k : Kd) : Bool := k.2.1.all floB && decide (k.1.length ≤ 6 ∧ k.2.1.length ≤ 4 ∧ 0 ≤ k.2.2 ∧ k.2.2 ≤ 3)
/-- May a set be? -/
def setB (r : Bool) (s : List En) : Bool := if r = true then mayS9 s else mayS s
/-- May a count be? -/
def cntB (f : Bool × Int) (t : List Ce) (a : List Ac) : Bool := mayT t && mayA a && (if f.1 = true then decide (t = []) else decide (a = []))
def lensB (k : Kd) (w : Rw) : Bool := decide (w.1.length = k.1.length ∧ w.2.1.length = k.2.1.length ∧ w.2.2.1.length = k.2.1.length ∧ (w.2.2.2.length : Int) = k.2.2)
def mayW (k : Kd) (w : Rw) : Bool := kindsB k && lensB k w && ((k.1.zip w.1).all fun x => setB x.1 x.2) && ((k.2.1.zip (w.2.1.zip w.2.2.1)).all fun x => cntB x.1 x.2.1 x.2.2) && w.2.2.2.all mayR12
theorem zip_all {α β : Type} {a : List α} {b : List β} {p : α → β → Bool} : ((a.zip b).all fun x => p x.1 x.2) = true ↔ ∀ (i : Nat) x y, a[i]? = some x → b[i]? = some y → p x y = true := by
  rw [List.all_eq_true]
  constructor
  · intro h i x y hx hy
    refine h (x, y) (List.mem_of_getElem? (i := i) ?_)
    rw [List.getElem?_zip_eq_some]
    exact ⟨hx, hy⟩
  · intro h z hz
    obtain ⟨i, hi⟩ := List.mem_iff_getElem?.1 hz
    rw [List.getElem?_zip_eq_some] at hi
    exact h i _ _ hi.1 hi.2
theorem lensB_iff {k : Kd} {w : Rw} : lensB k w = true ↔ w.1.length = k.1.length ∧ w.2.1.length = k.2.1.length ∧ w.2.2.1.length = k.2.1.length ∧ (w.2.2.2.length : Int) = k.2.2 := by unfold lensB; rw [decide_eq_true_iff]
theorem mayW_iff {k : Kd} {w : Rw} : mayW k w = true ↔ kindsB k = true ∧ lensB k w = true ∧ (∀ (i : Nat) r s, k.1[i]? = some r → w.1[i]? = some s → setB r s = true) ∧ (∀ (i : Nat) f t a, k.2.1[i]? = some f → w.2.1[i]? = some t → w.2.2.1[i]? = some a → cntB f t a = true) ∧ ∀ g ∈ w.2.2.2, mayR12 g = true := by
  unfold mayW
  rw [Bool.and_eq_true, Bool.and_eq_true, Bool.and_eq_true, Bool.and_eq_true, zip_all (p := setB), zip_all (p := fun (f : Bool × Int) (x : List Ce × List Ac) => cntB f x.1 x.2), List.all_eq_true]
  constructor
  · rintro ⟨⟨⟨⟨h1, h2⟩, h3⟩, h4⟩, h5⟩
    exact ⟨h1, h2, h3, fun i f t a hf ht ha => h4 i f (t, a) hf (List.getElem?_zip_eq_some.2 ⟨ht, ha⟩), h5⟩
  · rintro ⟨h1, h2, h3, h4, h5⟩
    refine ⟨⟨⟨⟨h1, h2⟩, h3⟩, fun i f x hf hx => ?_⟩, h5⟩
    have := List.getElem?_zip_eq_some.1 hx
    exact h4 i f x.1 x.2 hf this.1 this.2
/-- Does an effect fit? -/
def fitF (k : Kd) (x : Eff) : Bool := if x.1 = 1 ∨ x.1 = 2 then decide (x.2.1 < (k.1.length : Int)) else if x.1 = 6 then decide (x.2.1 < k.2.2) else decide (x.2.1 < (k.2.1.length : Int)) && (decide (x.1 ≠ 5) || (k.2.1.getD x.2.1.toNat (false, 0)).1)
def fitsW (k : Kd) (e : Evt) : Bool := e.2.2.all (fitF k)
/-- Raw that has nothing. -/
def newW (k : Kd) : Rw := (List.replicate k.1.length [], List.replicate k.2.1.length [], List.replicate k.2.1.length [], List.replicate k.2.2.toNat [])
/-! What an effect does to the things of a number -/
def ofN (x : Eff) : Nat := x.2.1.toNat
def wordN (x : Eff) : ByteArray := strOfNums x.2.2.2.2.2
/-- A drop, to a set. -/
def dS (r : Bool) (e : Evt) (o : Int) (s : List En) (x : Eff) : List En :=
  if x.2.1 = o ∧ x.1 = 2 then (if r = true then dropP s (kOf x) e.1 e.2.1 else if doesB e 1 o (kOf x) = false then dropS s (kOf x) e.2.1 else s) else s
/-- An add, to a set. -/
def aS (r : Bool) (e : Evt) (o : Int) (s : List En) (x : Eff) : List En :=
  if x.2.1 = o ∧ x.1 = 1 then (if r = true then (if doesB e 2 o (kOf x) = false then addP s (kOf x) e.1 e.2.1 else s) else addS s (kOf x) e.1 e.2.1) else s
/-- Up or down, to a count without a floor. -/
def tS (f : Bool) (o : Int) (t : List Ce) (x : Eff) : List Ce :=
  if x.2.1 = o ∧ f = false ∧ x.1 = 3 then addT t (kOf x) x.2.2.2.1 else if x.2.1 = o ∧ f = false ∧ x.1 = 4 then addT t (kOf x) (-x.2.2.2.1) else t
/-- Up, down or moved, to a count with a floor. -/
def cS (f : Bool) (d : Dot) (o : Int) (a : List Ac) (x : Eff) : List Ac :=
  if x.2.1 = o ∧ f = true ∧ x.1 = 3 then addA a (kOf x) d.1.toNat x.2.2.2.1 else if x.2.1 = o ∧ f = true ∧ x.1 = 4 then addA a (kOf x) d.1.toNat (-x.2.2.2.1)
  else if x.2.1 = o ∧ x.1 = 5 ∧ x.2.2.2.2.1 ≠ d.1 then addA (addA a (kOf x) d.1.toNat (-x.2.2.2.1)) (kOf x) x.2.2.2.2.1.toNat x.2.2.2.1 else a
/-- A note that an effect sets. -/
def ntE (d : Dot) (c : List Int) (x : Eff) : Nt := (kOf x, sumL c + 1, d.1, wordN x)
def gS (d : Dot) (c : List Int) (o : Int) (g : List Nt) (x : Eff) : List Nt := if x.2.1 = o ∧ x.1 = 6 then setN g (ntE d c x) else g
abbrev rK (k : Kd) (i : Nat) : Bool := k.1.getD i false
abbrev fK (k : Kd) (i : Nat) : Bool := (k.2.1.getD i (false, 0)).1
/-- The drops of an event, one by one. -/
def dropW (k : Kd) (e : Evt) (w : Rw) (x : Eff) : Rw := (w.1.mapIdx (fun i s => dS (rK k i) e i s x), w.2)
/-- The others. -/
def othW (k : Kd) (e : Evt) (w : Rw) (x : Eff) : Rw :=
  (w.1.mapIdx (fun i s => aS (rK k i) e i s x), w.2.1.mapIdx (fun i t => tS (fK k i) i t x), w.2.2.1.mapIdx (fun i a => cS (fK k i) e.1 i a x), w.2.2.2.mapIdx (fun i g => gS e.1 e.2.1 i g x))
/-- Did no number go too far? -/
def okW (w : Rw) (x : Eff) : Bool := decide (¬ (2 < x.1 ∧ x.1 < 6)) || (mayT (w.2.1.getD (ofN x) []) && mayA (w.2.2.1.getD (ofN x) []))
def stepsW (k : Kd) (e : Evt) : List Eff → Rw → Option Rw
  | [], w => some w
  | x :: xs, w => if okW (othW k e w x) x = true then stepsW k e xs (othW k e w x) else none
/-- An event's effects done; none: a number would go too far. -/
def applyW (k : Kd) (w : Rw) (e : Evt) : Option Rw := stepsW k e e.2.2 (e.2.2.foldl (dropW k e) w)
/-- Plain raw. -/
def plainW (k : Kd) (w : Rw) : Rw := (w.1.mapIdx (fun i s => if rK k i = true then mapP plainF s else s), w.2)
/-! Step by step is thing by thing -/
theorem mapIdx_id {α : Type} {f : Nat → α → α} {l : List α} (h : ∀ (i : Nat) x, l[i]? = some x → f i x = x) : l.mapIdx f = l := by
  apply List.ext_getElem?
  intro i
  rw [List.getElem?_mapIdx]
  rcases hx : l[i]? with _ | x
  · rfl
  · simp only [Option.map_some]
    rw [h i x hx]
theorem mapIdx_set {α : Type} {f : Nat → α → α} {l : List α} {j : Nat} {x : α} (hj : l[j]? = some x) (h : ∀ (i : Nat) y, i ≠ j → l[i]? = some y → f i y = y) : l.mapIdx f = l.set j (f j x) := by
  apply List.ext_getElem?
  intro i
  rw [List.getElem?_mapIdx, List.getElem?_set]
  by_cases hi : j = i
  · subst hi
    rw [if_pos rfl, hj]
    have := (List.getElem?_eq_some_iff.1 hj).1
    simp [this]
  · rw [if_neg hi]
    rcases hx : l[i]? with _ | y
    · rfl
    · simp only [Option.map_some]
      rw [h i y (Ne.symm hi) hx]
end Go.Proofs.YtkbbegbpkndebaaGreat

/- Cells in memory; the document's May, Get, Same of layer 10; Light. -/
namespace Go.Proofs.YtkbbegbpkndebaaGreat
open Go.RowKit Go.Lib
set_option linter.unusedVariables false
def encC (x : Ce) : List Value := [.string x.1, .int .i64 x.2]
theorem encC_len (x : Ce) : (encC x).length = 2 := rfl
theorem encC_one (x : Ce) : ∀ v ∈ encC x, v.oneCell' = true := by
  intro v hv
  simp only [encC, List.mem_cons, List.not_mem_nil, or_false] at hv
  rcases hv with rfl | rfl <;> rfl
/-- A slice's cells. -/
def TS (w : World) (a : Option Addr) (n : Nat) (s : List Ce) : Prop := RS encC 2 w a n s
theorem TS.below {w w' : World} {a : Option Addr} {n : Nat} {s : List Ce} (h : TS w a n s) (hb : Below w.heap.size w w') : TS w' a n s := RS.below h hb
theorem TS.nil (w : World) (p : Option Addr) : TS w p 0 [] := RS.nil w p
theorem TS.at {w : World} {b off n : Nat} {s : List Ce} (h : TS w (some ⟨b, off, none⟩) n s) (i : Nat) (hi : i < n) : ∃ (k : ByteArray) (m : Int), s[i]? = some (k, m) ∧ w.cell? ⟨b, off + i * 2, none⟩ = some (.string k) ∧ w.cell? ⟨b, off + i * 2 + 1, none⟩ = some (.int .i64 m) := by
  have hl : i < s.length := by rw [h.1]; exact hi
  have hx : s[i]? = some s[i] := List.getElem?_eq_getElem hl
  rcases h.2.2 with h0 | ⟨b', off', ha, hc⟩
  · omega
  · cases ha
    have q := hc i _ hx
    exact ⟨s[i].1, s[i].2, hx, q 0 _ rfl, q 1 _ rfl⟩
theorem TS.addr {w : World} {a : Option Addr} {n : Nat} {s : List Ce} (h : TS w a n s) (h0 : 0 < n) : ∃ b off, a = some ⟨b, off, none⟩ := by
  rcases h.2.2 with hz | ⟨b, off, ha, _⟩
  · omega
  · exact ⟨b, off, ha⟩
theorem wrapT {j : Nat} (h : j ≤ 9223372036854775807) : IntKind.i64.wrap (j : Int) = j := by simp [IntKind.wrap, IntKind.bits, IntKind.signed]; omega
def LightT (n : Nat) (s : List Ce) (w : World) (e : Ending) (w' : World) : Prop := ∃ b : Bool, e = .returned (.bool b) ∧ (b = true → n ≤ 60 ∧ ∀ x ∈ s, x.1.size ≤ 100) ∧ w' = w
set_option maxHeartbeats 2000000 in
theorem light10 (a : Option Addr) (n cap : Nat) (s : List Ce) (w : World) (hA : TS w a n s) : Calls Tryz.prog 36 #[.slice a n cap] w (LightT n s w) := by
  have HV := hide hA
  have HLEN := hide hA.1
  have hmx := hA.2.1
  unfold maxLen at hmx
  clear hA
  go_enter Tryz.func36, Tryz.ntmps36
  go_wp2
  go_loopw [3] (fun i wr => ∃ k : Nat, k ≤ n ∧ k ≤ 61 ∧ i = .int .i64 k ∧ Hid (∀ x ∈ s.take k, x.1.size ≤ 100) ∧ wr = w) (fun i _ => n - (intOf i).toNat)
  case atStart => exact ⟨0, by omega, by omega, rfl, (fun x hx => by simp at hx), rfl⟩
  case round =>
    obtain ⟨k0, hk, hk2, rfl, HF, hw⟩ := hrel
    subst hw
    by_cases hlt : k0 < n
    · by_cases hk30 : (k0 : Int) ≤ 60
      · obtain ⟨b, off, rfl⟩ := HV.out.addr (by omega)
        obtain ⟨k, m, hx, c0, c1⟩ := HV.out.at k0 hlt
        have hk0 : (0 : Int) ≤ (k0 : Int) := by omega
        have hk1 : (k0 : Int) < (n : Int) := by omega
        by_cases q1 : (k.size : Int) ≤ 100
        · have HF2 : Hid (∀ x ∈ s.take (k0 + 1), x.1.size ≤ 100) := by
            intro x hx'
            rw [takeG_snoc hx] at hx'
            rcases List.mem_append.1 hx' with q | q
            · exact HF.out x q
            · simp at q
              subst q
              simp only
              omega
          clear hx
          go_wp2
          go_roundw
          case rel => exact ⟨k0 + 1, by omega, by omega, by go_num, HF2, trivial⟩
          case measure => simp [intOf]; omega
        · clear hx
          go_wp2
          go_ret
          exact ⟨false, rfl, (fun h => by cases h), rfl⟩
      · have hn30 : ¬ (n : Int) ≤ 60 := by omega
        go_wp2
        go_ret
        exact ⟨false, by simp, (fun h => by cases h), rfl⟩
    · obtain rfl : k0 = n := by omega
      have HF2 : Hid (∀ x ∈ s, x.1.size ≤ 100) := by have := HF.out; rwa [← HLEN.out, List.take_length] at this
      by_cases hk30 : (k0 : Int) ≤ 60
      · go_wp2
        go_ret
        exact ⟨true, by simp, (fun _ => ⟨by omega, HF2.out⟩), rfl⟩
      · go_wp2
        go_ret
        exact ⟨false, by simp, (fun h => by cases h), rfl⟩
end Go.Proofs.YtkbbegbpkndebaaGreat

/- Accounts in memory; the document's Get, Number, Rights of layer 11; Light. -/
namespace Go.Proofs.YtkbbegbpkndebaaGreat
open Go.RowKit Go.Lib
set_option linter.unusedVariables false
def encA (x : Ac) : List Value := [.string x.1, .int .i64 (atH x.2 0), .int .i64 (atH x.2 1), .int .i64 (atH x.2 2), .int .i64 (atH x.2 3), .int .i64 (atH x.2 4)]
theorem encA_len (x : Ac) : (encA x).length = 6 := rfl
theorem encA_one (x : Ac) : ∀ v ∈ encA x, v.oneCell' = true := by
  intro v hv
  simp only [encA, List.mem_cons, List.not_mem_nil, or_false] at hv
  rcases hv with rfl | rfl | rfl | rfl | rfl | rfl <;> rfl
/-- A slice's accounts. -/
def AC (w : World) (a : Option Addr) (n : Nat) (s : List Ac) : Prop := RS encA 6 w a n s ∧ FvA s
theorem AC.below {w w' : World} {a : Option Addr} {n : Nat} {s : List Ac} (h : AC w a n s) (hb : Below w.heap.size w w') : AC w' a n s := ⟨RS.below h.1 hb, h.2⟩
theorem AC.nil (w : World) (p : Option Addr) : AC w p 0 [] := ⟨RS.nil w p, fun x hx => absurd hx List.not_mem_nil⟩
theorem AC.at {w : World} {b off n : Nat} {s : List Ac} (h : AC w (some ⟨b, off, none⟩) n s) (i : Nat) (hi : i < n) : ∃ (k : ByteArray) (g : List Int), s[i]? = some (k, g) ∧ g.length = 5 ∧ w.cell? ⟨b, off + i * 6, none⟩ = some (.string k) ∧ ∀ j, j < 5 → w.cell? ⟨b, off + i * 6 + 1 + j, none⟩ = some (.int .i64 (atH g j)) := by
  have hl : i < s.length := by rw [h.1.1]; exact hi
  have hx : s[i]? = some s[i] := List.getElem?_eq_getElem hl
  rcases h.1.2.2 with h0 | ⟨b', off', ha, hc⟩
  · omega
  · cases ha
    have q := hc i _ hx
    refine ⟨s[i].1, s[i].2, hx, h.2 _ (List.getElem_mem hl), q 0 _ rfl, fun j hj => by rw [Nat.add_assoc]; refine q (1 + j) _ ?_; rcases (by omega : j = 0 ∨ j = 1 ∨ j = 2 ∨ j = 3 ∨ j = 4) with rfl | rfl | rfl | rfl | rfl <;> rfl⟩
theorem AC.addr {w : World} {a : Option Addr} {n : Nat} {s : List Ac} (h : AC w a n s) (h0 : 0 < n) : ∃ b off, a = some ⟨b, off, none⟩ := by
  rcases h.1.2.2 with hz | ⟨b, off, ha, _⟩
  · omega
  · exact ⟨b, off, ha⟩
def bd40 (h : List Int) : Prop := ∀ j, -1099511627776 ≤ atH h j ∧ atH h j ≤ 1099511627776
theorem bd_of {h : List Int} (ha : h.all in40 = true) : bd40 h := by
  intro j
  rcases Nat.lt_or_ge j h.length with hj | hj
  · unfold atH
    rw [List.getD_eq_getElem?_getD, List.getElem?_eq_getElem hj]
    have := of_decide_eq_true (List.all_eq_true.1 ha _ (List.getElem_mem hj))
    exact this
  · unfold atH
    rw [List.getD_eq_getElem?_getD, List.getElem?_eq_none hj]
    exact ⟨by decide, by decide⟩
theorem of_bd {h : List Int} (hb : bd40 h) : h.all in40 = true := by
  rw [List.all_eq_true]
  intro x hx
  obtain ⟨j, hj⟩ := List.mem_iff_getElem?.1 hx
  have := hb j
  unfold atH at this
  rw [List.getD_eq_getElem?_getD, hj] at this
  exact decide_eq_true this
def LightA (n : Nat) (s : List Ac) (w : World) (e : Ending) (w' : World) : Prop := ∃ b : Bool, e = .returned (.bool b) ∧ (b = true → n ≤ 60 ∧ ∀ x ∈ s, x.1.size ≤ 100) ∧ w' = w
set_option maxHeartbeats 2000000 in
theorem light11 (a : Option Addr) (n cap : Nat) (s : List Ac) (w : World) (hA : AC w a n s) : Calls Tryz.prog 37 #[.slice a n cap] w (LightA n s w) := by
  have HV := hide hA
  have HLEN := hide hA.1.1
  have hmx := hA.1.2.1
  unfold maxLen at hmx
  clear hA
  go_enter Tryz.func37, Tryz.ntmps37
  go_wp2
  go_loopw [3] (fun i wr => ∃ k : Nat, k ≤ n ∧ k ≤ 61 ∧ i = .int .i64 k ∧ Hid (∀ x ∈ s.take k, x.1.size ≤ 100) ∧ wr = w) (fun i _ => n - (intOf i).toNat)
  case atStart => exact ⟨0, by omega, by omega, rfl, (fun x hx => by simp at hx), rfl⟩
  case round =>
    obtain ⟨k0, hk, hk2, rfl, HF, hw⟩ := hrel
    subst hw
    by_cases hlt : k0 < n
    · by_cases hk30 : (k0 : Int) ≤ 60
      · obtain ⟨b, off, rfl⟩ := HV.out.addr (by omega)
        obtain ⟨k, g, hx, hg5, c0, cj⟩ := HV.out.at k0 hlt
        clear cj
        have hk0 : (0 : Int) ≤ (k0 : Int) := by omega
        have hk1 : (k0 : Int) < (n : Int) := by omega
        by_cases q1 : (k.size : Int) ≤ 100
        · have HF2 : Hid (∀ x ∈ s.take (k0 + 1), x.1.size ≤ 100) := by
            intro x hx'
            rw [takeG_snoc hx] at hx'
            rcases List.mem_append.1 hx' with q | q
            · exact HF.out x q
            · simp at q
              subst q
              simp only
              omega
          clear hx
          go_wp2
          go_roundw
          case rel => exact ⟨k0 + 1, by omega, by omega, by go_num, HF2, trivial⟩
          case measure => simp [intOf]; omega
        · clear hx
          go_wp2
          go_ret
          exact ⟨false, rfl, (fun h => by cases h), rfl⟩
      · have hn30 : ¬ (n : Int) ≤ 60 := by omega
        go_wp2
        go_ret
        exact ⟨false, by simp, (fun h => by cases h), rfl⟩
    · obtain rfl : k0 = n := by omega
      have HF2 : Hid (∀ x ∈ s, x.1.size ≤ 100) := by have := HF.out; rwa [← HLEN.out, List.take_length] at this
      by_cases hk30 : (k0 : Int) ≤ 60
      · go_wp2
        go_ret
        exact ⟨true, by simp, (fun _ => ⟨by omega, HF2.out⟩), rfl⟩
      · go_wp2
        go_ret
        exact ⟨false, by simp, (fun h => by cases h), rfl⟩
end Go.Proofs.YtkbbegbpkndebaaGreat

/- Notes in memory; the document's One, Later, May, Get of layer 12; Light. -/
namespace Go.Proofs.YtkbbegbpkndebaaGreat
open Go.RowKit Go.Lib
set_option linter.unusedVariables false
def encNt (x : Nt) : List Value := [.string x.1, .int .i64 x.2.1, .int .i64 x.2.2.1, .string x.2.2.2]
theorem encNt_len (x : Nt) : (encNt x).length = 4 := rfl
theorem encNt_one (x : Nt) : ∀ v ∈ encNt x, v.oneCell' = true := by
  intro v hv
  simp only [encNt, List.mem_cons, List.not_mem_nil, or_false] at hv
  rcases hv with rfl | rfl | rfl | rfl <;> rfl
/-- A slice's notes. -/
def NN (w : World) (a : Option Addr) (n : Nat) (s : List Nt) : Prop := RS encNt 4 w a n s
theorem NN.below {w w' : World} {a : Option Addr} {n : Nat} {s : List Nt} (h : NN w a n s) (hb : Below w.heap.size w w') : NN w' a n s := RS.below h hb
theorem NN.nil (w : World) (p : Option Addr) : NN w p 0 [] := RS.nil w p
theorem NN.at {w : World} {b off n : Nat} {s : List Nt} (h : NN w (some ⟨b, off, none⟩) n s) (i : Nat) (hi : i < n) : ∃ (k : ByteArray) (ta rp : Int) (wd : ByteArray), s[i]? = some (k, ta, rp, wd) ∧ w.cell? ⟨b, off + i * 4, none⟩ = some (.string k) ∧ w.cell? ⟨b, off + i * 4 + 1, none⟩ = some (.int .i64 ta) ∧ w.cell? ⟨b, off + i * 4 + 2, none⟩ = some (.int .i64 rp) ∧ w.cell? ⟨b, off + i * 4 + 3, none⟩ = some (.string wd) := by
  have hl : i < s.length := by rw [h.1]; exact hi
  have hx : s[i]? = some s[i] := List.getElem?_eq_getElem hl
  rcases h.2.2 with h0 | ⟨b', off', ha, hc⟩
  · omega
  · cases ha
    have q := hc i _ hx
    exact ⟨s[i].1, s[i].2.1, s[i].2.2.1, s[i].2.2.2, hx, q 0 _ rfl, q 1 _ rfl, q 2 _ rfl, q 3 _ rfl⟩
theorem NN.addr {w : World} {a : Option Addr} {n : Nat} {s : List Nt} (h : NN w a n s) (h0 : 0 < n) : ∃ b off, a = some ⟨b, off, none⟩ := by
  rcases h.2.2 with hz | ⟨b, off, ha, _⟩
  · omega
  · exact ⟨b, off, ha⟩
def LightNt (n : Nat) (s : List Nt) (w : World) (e : Ending) (w' : World) : Prop := ∃ b : Bool, e = .returned (.bool b) ∧ (b = true → n ≤ 60 ∧ ∀ x ∈ s, x.1.size ≤ 100 ∧ x.2.2.2.size ≤ 200) ∧ w' = w
set_option maxHeartbeats 2000000 in
theorem light12 (a : Option Addr) (n cap : Nat) (s : List Nt) (w : World) (hA : NN w a n s) : Calls Tryz.prog 38 #[.slice a n cap] w (LightNt n s w) := by
  have HV := hide hA
  have HLEN := hide hA.1
  have hmx := hA.2.1
  unfold maxLen at hmx
  clear hA
  go_enter Tryz.func38, Tryz.ntmps38
  go_wp2
  go_loopw [3] (fun i wr => ∃ k : Nat, k ≤ n ∧ k ≤ 61 ∧ i = .int .i64 k ∧ Hid (∀ x ∈ s.take k, x.1.size ≤ 100 ∧ x.2.2.2.size ≤ 200) ∧ wr = w) (fun i _ => n - (intOf i).toNat)
  case atStart => exact ⟨0, by omega, by omega, rfl, (fun x hx => by simp at hx), rfl⟩
  case round =>
    obtain ⟨k0, hk, hk2, rfl, HF, hw⟩ := hrel
    subst hw
    by_cases hlt : k0 < n
    · by_cases hk30 : (k0 : Int) ≤ 60
      · obtain ⟨b, off, rfl⟩ := HV.out.addr (by omega)
        obtain ⟨k, ta, rp, wd, hx, c0, c1, c2, c3⟩ := HV.out.at k0 hlt
        have hk0 : (0 : Int) ≤ (k0 : Int) := by omega
        have hk1 : (k0 : Int) < (n : Int) := by omega
        by_cases q1 : (k.size : Int) ≤ 100
        · by_cases q2 : (wd.size : Int) ≤ 200
          · have q3 : ¬ ((200 : Int) < (wd.size : Int)) := by omega
            have HF2 : Hid (∀ x ∈ s.take (k0 + 1), x.1.size ≤ 100 ∧ x.2.2.2.size ≤ 200) := by
              intro x hx'
              rw [takeG_snoc hx] at hx'
              rcases List.mem_append.1 hx' with q | q
              · exact HF.out x q
              · simp at q
                subst q
                simp only
                omega
            clear hx
            go_wp2
            go_roundw
            case rel => exact ⟨k0 + 1, by omega, by omega, by go_num, HF2, trivial⟩
            case measure => simp [intOf]; omega
          · have q3 : (200 : Int) < (wd.size : Int) := by omega
            clear hx
            go_wp2
            go_ret
            exact ⟨false, rfl, (fun h => by cases h), rfl⟩
        · clear hx
          go_wp2
          go_ret
          exact ⟨false, rfl, (fun h => by cases h), rfl⟩
      · have hn30 : ¬ (n : Int) ≤ 60 := by omega
        go_wp2
        go_ret
        exact ⟨false, by simp, (fun h => by cases h), rfl⟩
    · obtain rfl : k0 = n := by omega
      have HF2 : Hid (∀ x ∈ s, x.1.size ≤ 100 ∧ x.2.2.2.size ≤ 200) := by have := HF.out; rwa [← HLEN.out, List.take_length] at this
      by_cases hk30 : (k0 : Int) ≤ 60
      · go_wp2
        go_ret
        exact ⟨true, by simp, (fun _ => ⟨by omega, HF2.out⟩), rfl⟩
      · go_wp2
        go_ret
        exact ⟨false, by simp, (fun h => by cases h), rfl⟩
end Go.Proofs.YtkbbegbpkndebaaGreat

