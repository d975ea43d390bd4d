/- A disk in plain mathematics: two slots of bytes, of which the first ones are safe. -/
import Derived.Test.YtofalfaiamaapaaGPut
namespace Go.Proofs.Ytofalfaiamaapaa
open Go.RowKit
set_option linter.unusedVariables false

structure Sl where
  l : List Int
  s : Nat
structure Dk where
  a : Sl
  b : Sl
  room : Int
  stop : Int
  dead : Bool
def Dk.get (d : Dk) (i : Int) : Sl := if i = 0 then d.a else d.b
def Dk.set (d : Dk) (i : Int) (x : Sl) : Dk := if i = 0 then { d with a := x } else { d with b := x }
def Dk.left (d : Dk) : Int := d.room - d.a.l.length - d.b.l.length
def Dk.tick (d : Dk) : Dk := if d.stop > 0 then { d with stop := d.stop - 1 } else d
/-- What an act makes of a slot. -/
def Sl.act (x : Sl) (o : Int) (m : List Int) : Sl := if o = 0 then ⟨x.l ++ m, x.s⟩ else if o = 1 then ⟨[], 0⟩ else if o = 2 then ⟨x.l, x.l.length⟩ else x
def Dk.act (d : Dk) (o i : Int) (m : List Int) : Dk × Int :=
  if d.dead then (d, 9) else if i ≠ 0 ∧ i ≠ 1 then (d, 1) else if o = 0 ∧ (m.length : Int) > d.left then (d, 6)
  else if d.stop = 0 then ({ d with dead := true }, 9) else (d.tick.set i ((d.get i).act o m), 0)
/-- How many bytes stay of a slot. -/
def Sl.stay (x : Sl) (k : Option Int) : Nat := match k with
  | none => x.s
  | some z => if z > 0 then (if z < x.l.length - x.s then x.s + z.toNat else x.l.length) else x.s
def Sl.crash (x : Sl) (k : Option Int) : Sl := ⟨x.l.take (x.stay k), x.stay k⟩
def Dk.crash (d : Dk) (ks : List Int) : Dk := ⟨d.a.crash ks[0]?, d.b.crash ks[1]?, d.room, -1, false⟩
/-- One that can be. -/
def Sl.ok (x : Sl) : Prop := By x.l ∧ x.s ≤ x.l.length
def Dk.ok (d : Dk) : Prop := d.a.ok ∧ d.b.ok ∧ 0 ≤ d.left ∧ d.room ≤ 1048576 ∧ -1 ≤ d.stop ∧ d.stop ≤ 9223372036854775807
theorem Dk.ok.lens {d : Dk} (h : d.ok) : (d.a.l.length : Int) + d.b.l.length ≤ 1048576 ∧ 0 ≤ d.room := by
  obtain ⟨_, _, h1, h2, _⟩ := h
  unfold Dk.left at h1
  omega
theorem Sl.stay_le {x : Sl} (h : x.ok) (k : Option Int) : x.s ≤ x.stay k ∧ x.stay k ≤ x.l.length := by
  have := h.2
  unfold Sl.stay
  cases k with
  | none => simp only []; omega
  | some z =>
    simp only []
    split
    · split <;> omega
    · omega
theorem Sl.crash_ok {x : Sl} (h : x.ok) (k : Option Int) : (x.crash k).ok ∧ (x.crash k).l.length ≤ x.l.length := by
  have := Sl.stay_le h k
  refine ⟨⟨h.1.take _, ?_⟩, ?_⟩
  · simp only [Sl.crash, List.length_take]; omega
  · simp only [Sl.crash, List.length_take]; omega
theorem Dk.crash_ok {d : Dk} (h : d.ok) (ks : List Int) : (d.crash ks).ok := by
  obtain ⟨h1, h2, h3, h4, h5, h6⟩ := h
  have a1 := Sl.crash_ok h1 ks[0]?
  have a2 := Sl.crash_ok h2 ks[1]?
  refine ⟨a1.1, a2.1, ?_, h4, by simp [Dk.crash], by simp [Dk.crash]⟩
  unfold Dk.left at *
  simp only [Dk.crash]
  omega
theorem Sl.act_ok {x : Sl} (h : x.ok) (o : Int) {m : List Int} (hm : By m) : (x.act o m).ok ∧ (x.act o m).l.length ≤ x.l.length + (if o = 0 then m.length else 0) := by
  unfold Sl.act
  split
  · refine ⟨⟨h.1.append hm, ?_⟩, ?_⟩
    · have := h.2; simp only [List.length_append]; omega
    · simp only [List.length_append]; omega
  · split
    · exact ⟨⟨By.nil, Nat.le_refl _⟩, by simp⟩
    · split
      · exact ⟨⟨h.1, Nat.le_refl _⟩, by simp only []; omega⟩
      · exact ⟨h, by omega⟩
theorem Dk.act_ok {d : Dk} (h : d.ok) (o i : Int) {m : List Int} (hm : By m) : (d.act o i m).1.ok := by
  unfold Dk.act
  split
  · exact h
  · split
    · exact h
    · split
      · exact h
      · rename_i hf
        split
        · exact h
        · obtain ⟨h1, h2, h3, h4, h5, h6⟩ := h
          have q1 := Sl.act_ok h1 o hm
          have q2 := Sl.act_ok h2 o hm
          have hl : (d.tick).left = d.left ∧ d.tick.a = d.a ∧ d.tick.b = d.b ∧ d.tick.room = d.room := by unfold Dk.tick; split <;> exact ⟨rfl, rfl, rfl, rfl⟩
          obtain ⟨e1, e2, e3, e4⟩ := hl
          have e5 : -1 ≤ d.tick.stop ∧ d.tick.stop ≤ 9223372036854775807 := by unfold Dk.tick; split <;> (first | (simp only []; omega) | omega)
          have hle : (if o = 0 then m.length else 0 : Nat) ≤ d.left := by
            split
            · rename_i ho
              have : ¬ (m.length : Int) > d.left := fun hh => hf ⟨ho, hh⟩
              omega
            · exact h3
          by_cases hi : i = 0
          · simp only [Dk.set, Dk.get, if_pos hi]
            refine ⟨q1.1, by rw [e3]; exact h2, ?_, by simp only []; rw [e4]; exact h4, e5⟩
            unfold Dk.left at *
            simp only [] at *
            rw [e4, e3] at *
            omega
          · simp only [Dk.set, Dk.get, if_neg hi]
            refine ⟨by rw [e2]; exact h1, q2.1, ?_, by simp only []; rw [e4]; exact h4, e5⟩
            unfold Dk.left at *
            simp only [] at *
            rw [e4, e2] at *
            omega
theorem Dk.act_room (d : Dk) (o i : Int) (m : List Int) : (d.act o i m).1.room = d.room := by
  unfold Dk.act
  split
  · rfl
  · split
    · rfl
    · split
      · rfl
      · split
        · rfl
        · unfold Dk.set Dk.tick
          split <;> split <;> rfl
end Go.Proofs.Ytofalfaiamaapaa
