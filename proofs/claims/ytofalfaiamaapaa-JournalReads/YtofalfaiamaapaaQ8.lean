/- What a journal's disk has, opened again; two records opened again; nobody's journal (layer 7). -/
import Derived.Test.YtofalfaiamaapaaQ7
namespace Go.Proofs.Ytofalfaiamaapaa
open Go.RowKit
set_option linter.unusedVariables false
/-- A journal of a slot and a turn on a disk has these records. -/
def JI (d : Dk) (s t : Int) (all : List Rc) : Prop :=
  (t = 0 ∧ s = 1 ∧ d.a.l = [] ∧ d.b.l = [] ∧ all = []) ∨
  (1 ≤ t ∧ (s = 0 ∨ s = 1) ∧ ∃ base more, all = base ++ more ∧ (∀ x ∈ all, mayRc x = true) ∧ (∀ x ∈ all, By x.b) ∧ (d.get s).l = wholeRs t base ++ bytesRs more ∧ (scanRs (d.get (1 - s)).l).1 < t)
theorem scan_nil : scanRs [] = (0, [], 0) := rfl
theorem JI.opn {d : Dk} {s t : Int} {all : List Rc} (h : JI d s t all) (ht : t ≤ 1099511627776) : opn d = (s, t, all, false) := by
  rcases h with ⟨rfl, rfl, h1, h2, rfl⟩ | ⟨h1, hs, base, more, rfl, hM, hB, hw, ho⟩
  · have e0 : (d.get 0).l = [] := h1
    have e1 : (d.get 1).l = [] := h2
    have a1 : opnN d 1 = (1, 0, [], false) := by
      show opn1 _ 0 (d.get 0).l = _
      rw [e0, opn1_no (by rw [scan_nil]; simp [opnN])]
      rfl
    show opn1 (opnN d 1) 1 (d.get 1).l = _
    rw [e1, opn1_no (by rw [scan_nil, a1]; simp), a1]
  · have sc := scan_written t h1 ht base more (fun x hx => hM x (List.mem_append_left _ hx)) (fun x hx => hB x (List.mem_append_left _ hx)) (fun x hx => hM x (List.mem_append_right _ hx)) (fun x hx => hB x (List.mem_append_right _ hx))
    rw [← hw] at sc
    have hdec : decide ((d.get s).l.length < (d.get s).l.length) = false := by simp
    rcases hs with rfl | rfl
    · have e1 : opnN d 1 = (0, t, base ++ more, false) := by
        show opn1 _ 0 (d.get 0).l = _
        rw [opn1_yes (by rw [sc]; simp only [opnN]; omega), sc]
        simp only []
        rw [hdec]
      show opn1 (opnN d 1) 1 (d.get 1).l = _
      rw [e1, opn1_no]
      have ho' : (scanRs (d.get 1).l).1 < t := ho
      simp only []
      omega
    · have ho' : (scanRs (d.get 0).l).1 < t := ho
      have e1 : (opnN d 1).2.1 < t := by
        show (opn1 _ 0 (d.get 0).l).2.1 < t
        by_cases q : (scanRs (d.get 0).l).1 > (opnN d 0).2.1
        · rw [opn1_yes q]; exact ho'
        · rw [opn1_no q]; simp only [opnN]; omega
      show opn1 (opnN d 1) 1 (d.get 1).l = _
      rw [opn1_yes (by rw [sc]; exact e1), sc]
      simp only []
      rw [hdec]
theorem Dk.get_other (d : Dk) {s : Int} (h : s = 0 ∨ s = 1) (x : Sl) : (d.set (1 - s) x).get s = d.get s := by
  rcases h with rfl | rfl <;> simp [Dk.set, Dk.get]
theorem Dk.get_same (d : Dk) (s : Int) (x : Sl) : (d.set s x).get s = x := Dk.get_set d s x
theorem JI.slot {d : Dk} {s t : Int} {all : List Rc} (h : JI d s t all) : s = 0 ∨ s = 1 := by
  rcases h with ⟨_, h, _⟩ | ⟨_, h, _⟩
  · exact .inr h
  · exact h
theorem JI.turn {d : Dk} {s t : Int} {all : List Rc} (h : JI d s t all) : 0 ≤ t := by
  rcases h with ⟨h, _⟩ | ⟨h, _⟩ <;> omega
theorem JI.scan {d : Dk} {s t : Int} {all : List Rc} (h : JI d s t all) (ht : t ≤ 1099511627776) : (scanRs (d.get s).l).1 = t := by
  rcases h with ⟨rfl, rfl, h1, h2, rfl⟩ | ⟨h1, hs, base, more, rfl, hM, hB, hw, ho⟩
  · show (scanRs d.b.l).1 = 0
    rw [h2]; rfl
  · rw [hw, scan_written t h1 ht base more (fun x hx => hM x (List.mem_append_left _ hx)) (fun x hx => hB x (List.mem_append_left _ hx)) (fun x hx => hM x (List.mem_append_right _ hx)) (fun x hx => hB x (List.mem_append_right _ hx))]
/-- It is renewed: what it has then. -/
theorem JI.renew {d : Dk} {s t : Int} {all : List Rc} (h : JI d s t all) (ht : t < 1099511627776) (l : List Rc) (hM : ∀ x ∈ l, mayRc x = true) (hB : ∀ x ∈ l, By x.b) (n : Nat) : JI (d.set (1 - s) ⟨frame7 (t + 1) (bytesRs l), n⟩) (1 - s) (t + 1) l := by
  have hs := h.slot
  have h0 := h.turn
  refine .inr ⟨by omega, by omega, l, [], by simp, hM, hB, ?_, ?_⟩
  · rw [Dk.get_same]
    simp [bytesRs, frame7, wholeRs]
  · have e : (1 : Int) - (1 - s) = s := by omega
    rw [e, Dk.get_other d hs, h.scan (by omega)]
    omega
/-- It could not be renewed: it has what it had. -/
theorem JI.full {d : Dk} {s t : Int} {all : List Rc} (h : JI d s t all) : JI (d.set (1 - s) ⟨[], 0⟩) s t all := by
  rcases h with ⟨rfl, rfl, h1, h2, rfl⟩ | ⟨h1, hs, base, more, rfl, hM, hB, hw, ho⟩
  · exact .inl ⟨rfl, rfl, rfl, h2, rfl⟩
  · refine .inr ⟨h1, hs, base, more, rfl, hM, hB, ?_, ?_⟩
    · rw [Dk.get_other d hs]; exact hw
    · rw [Dk.get_same, scan_nil]
      simp only []
      omega
/-- Records are put behind. -/
theorem JI.put {d : Dk} {s t : Int} {all : List Rc} (h : JI d s t all) (ht : t ≠ 0) (l : List Rc) (hM : ∀ x ∈ l, mayRc x = true) (hB : ∀ x ∈ l, By x.b) (n : Nat) : JI (d.set s ⟨(d.get s).l ++ bytesRs l, n⟩) s t (all ++ l) := by
  rcases h with ⟨rfl, rfl, h1, h2, rfl⟩ | ⟨h1, hs, base, more, rfl, hM1, hB1, hw, ho⟩
  · exact absurd rfl ht
  · refine .inr ⟨h1, hs, base, more ++ l, by simp, ?_, ?_, ?_, ?_⟩
    · intro x hx
      rcases List.mem_append.1 hx with q | q
      · exact hM1 x q
      · exact hM x q
    · intro x hx
      rcases List.mem_append.1 hx with q | q
      · exact hB1 x q
      · exact hB x q
    · rw [Dk.get_same, hw, bytesRs_append, List.append_assoc]
    · have e : d.set s ⟨(d.get s).l ++ bytesRs l, n⟩ = d.set (1 - (1 - s)) ⟨(d.get s).l ++ bytesRs l, n⟩ := by congr 1; omega
      rw [e, Dk.get_other d (by omega)]
      exact ho
theorem JI.sync {d : Dk} {s t : Int} {all : List Rc} (h : JI d s t all) (n : Nat) : JI (d.set s ⟨(d.get s).l, n⟩) s t all := by
  rcases h with ⟨rfl, rfl, h1, h2, rfl⟩ | ⟨h1, hs, base, more, rfl, hM1, hB1, hw, ho⟩
  · exact .inl ⟨rfl, rfl, h1, h2, rfl⟩
  · refine .inr ⟨h1, hs, base, more, rfl, hM1, hB1, ?_, ?_⟩
    · rw [Dk.get_same]; exact hw
    · have e : d.set s ⟨(d.get s).l, n⟩ = d.set (1 - (1 - s)) ⟨(d.get s).l, n⟩ := by congr 1; omega
      rw [e, Dk.get_other d (by omega)]
      exact ho
theorem JI.new (room : Int) : JI (newD room) 1 0 [] := .inl ⟨rfl, rfl, rfl, rfl, rfl⟩
/-- Two records. -/
def recs2 : List Rc := [⟨10, []⟩, ⟨11, [7]⟩]
theorem recs2_may : allMay recs2 = true := by decide
theorem recs2_by : ∀ x ∈ recs2, By x.b := by
  intro x hx
  simp [recs2] at hx
  rcases hx with rfl | rfl
  · exact By.nil
  · exact By.cons (by decide) (by decide) By.nil
theorem recs2_len : (bytesRs recs2).length ≤ 60 := by
  have e : (bytesRs recs2).length = (record 10 []).length + (record 11 [7]).length := by simp [bytesRs, recs2]
  have := rec_le 10 []
  have := rec_le 11 [7]
  simp only [List.length_nil, List.length_cons] at *
  omega
theorem frame7_len (t : Int) (m : List Int) : (frame7 t m).length ≤ m.length + 60 := by
  unfold frame7
  have q2 := rec_le 2 []
  have h8 := nb_le t
  have q := rec_le 1 (num t)
  rw [num_len] at q
  simp only [List.length_append, List.length_nil] at *
  omega
theorem rnw_fits {d : Dk} {s t : Int} {m : List Int} (h : ¬ ((frame7 (t + 1) m).length : Int) > (d.set (1 - s) ⟨[], 0⟩).left) : rnw d s t m = (0, d.set (1 - s) ⟨frame7 (t + 1) m, (frame7 (t + 1) m).length⟩, 1 - s, t + 1) := if_neg h
end Go.Proofs.Ytofalfaiamaapaa
