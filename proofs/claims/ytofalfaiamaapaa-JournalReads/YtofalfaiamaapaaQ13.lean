/- Any bytes of two slots, opened (layer 7). -/
import Derived.Test.YtofalfaiamaapaaQ9
import Derived.Test.YtofalfaiamaapaaJ4
namespace Go.Proofs.Ytofalfaiamaapaa
open Go.RowKit
set_option linter.unusedVariables false
theorem scan_zero {l : List Int} (hb : By l) (h : (scanRs l).1 = 0) : scanRs l = (0, [], 0) := by
  rw [scan_whole l hb] at h ⊢
  unfold wholeP at h ⊢
  split at h
  · rename_i q
    rw [if_pos q]
  · rename_i q
    rw [if_neg q]
    split at h
    · exact absurd h q
    · rename_i q2
      rw [if_neg q2]
/-- Which slot is opened. -/
theorem opn_b {d : Dk} (hA : By d.a.l) (hgt : (scanRs d.b.l).1 > (scanRs d.a.l).1) : opn d = (1, (scanRs d.b.l).1, (scanRs d.b.l).2.1, decide ((scanRs d.b.l).2.2 < d.b.l.length)) := by
  have q := (scan_may d.a.l hA).2.2.1
  have e1 : (opnN d 1).2.1 ≤ (scanRs d.a.l).1 := by
    show (opn1 _ 0 (d.get 0).l).2.1 ≤ _
    by_cases h : (scanRs (d.get 0).l).1 > (opnN d 0).2.1
    · rw [opn1_yes h]; exact Int.le_refl _
    · rw [opn1_no h]; exact q
  show opn1 (opnN d 1) 1 (d.get 1).l = _
  have hg : (d.get 1).l = d.b.l := rfl
  rw [hg, opn1_yes (by omega)]
theorem opn_a {d : Dk} (hgt : ¬ (scanRs d.b.l).1 > (scanRs d.a.l).1) (h0 : (scanRs d.a.l).1 > 0) : opn d = (0, (scanRs d.a.l).1, (scanRs d.a.l).2.1, decide ((scanRs d.a.l).2.2 < d.a.l.length)) := by
  have hg0 : (d.get 0).l = d.a.l := rfl
  have hg : (d.get 1).l = d.b.l := rfl
  have e1 : opnN d 1 = (0, (scanRs d.a.l).1, (scanRs d.a.l).2.1, decide ((scanRs d.a.l).2.2 < d.a.l.length)) := by
    show opn1 _ 0 (d.get 0).l = _
    rw [hg0, opn1_yes (by simpa [opnN] using h0)]
  show opn1 (opnN d 1) 1 (d.get 1).l = _
  rw [e1, hg, opn1_no (by simpa using hgt)]
theorem opn_0 {d : Dk} (hA : By d.a.l) (hgt : ¬ (scanRs d.b.l).1 > (scanRs d.a.l).1) (h0 : ¬ (scanRs d.a.l).1 > 0) : opn d = (1, 0, [], false) := by
  have q := (scan_may d.a.l hA).2.2.1
  have hg0 : (d.get 0).l = d.a.l := rfl
  have hg : (d.get 1).l = d.b.l := rfl
  have e1 : opnN d 1 = (1, 0, [], false) := by
    show opn1 _ 0 (d.get 0).l = _
    rw [hg0, opn1_no (by simpa [opnN] using h0)]
    rfl
  show opn1 (opnN d 1) 1 (d.get 1).l = _
  rw [e1, hg, opn1_no (by simp only []; omega)]
theorem Open_still {N g : Nat} {va vb : Value} {d : Dk} {s t : Int} {rs : List Rc} (w : World) (h : PD N g w va vb d) (hs : d.stop = -1) (h1 : d.a.l.length ≤ 400000) (h2 : d.b.l.length ≤ 400000) (ho : opn d = (s, t, rs, false)) :
    Calls Try.prog 11 #[.pointer (some ⟨g, 0, none⟩)] w fun e w' => ∃ p n c, e = .returned (.tuple #[.pointer (some ⟨w.heap.size, 0, none⟩), .slice p n c, .int .i64 0]) ∧ RC w' p n rs ∧ CP p n c ∧ PD N g w' va vb d ∧ BJ w' w.heap.size g s t false ∧ Below w.heap.size w w' := by
  refine (Open_any w h hs h1 h2).mono ?_
  intro e w' hp
  rcases hp with ⟨_, V, xs, rfl, hr, hx, hp, hb, hl⟩ | ⟨hf, _⟩ | ⟨hf, _⟩
  · obtain ⟨p, c, rfl, hrc, hcp⟩ := hr.rc
    rw [hx] at hrc
    rw [ho] at hrc hb
    exact ⟨p, _, c, rfl, hrc, hcp, hp, hb, hl⟩
  · rw [ho] at hf
    cases hf
  · rw [ho] at hf
    cases hf
theorem Open_max {N g : Nat} {va vb : Value} {d : Dk} {s : Int} {rs : List Rc} (w : World) (h : PD N g w va vb d) (hs : d.stop = -1) (h1 : d.a.l.length ≤ 400000) (h2 : d.b.l.length ≤ 400000) (ho : opn d = (s, 1099511627776, rs, true)) :
    Calls Try.prog 11 #[.pointer (some ⟨g, 0, none⟩)] w fun e w' => e = .returned (.tuple #[.pointer none, .slice none 0 0, .int .i64 6]) ∧ Below N w w' ∧ ∃ X', Sp (Xs g va vb) X' w w' := by
  have hg := opnN_good d h.ok 2
  have hm : allMay rs = true := by
    have q := hg.2.2.2.1
    rw [show opnN d 2 = (s, 1099511627776, rs, true) from ho] at q
    exact q
  have hr : renJ d s 1099511627776 rs = (6, d, s, 1099511627776) := by
    unfold renJ
    rw [hm, if_neg (by decide), if_pos rfl]
  refine (Open_any w h hs h1 h2).mono ?_
  intro e w' hp
  unfold OPost at hp
  rw [ho] at hp
  simp only [hr] at hp
  rcases hp with ⟨hf, _⟩ | ⟨_, _, he, hb⟩ | ⟨_, hf, _⟩
  · cases hf
  · exact ⟨he, hb⟩
  · cases hf
theorem Open_turn {N g : Nat} {va vb : Value} {d : Dk} {s t : Int} {rs : List Rc} (w : World) (h : PD N g w va vb d) (hs : d.stop = -1) (h1 : d.a.l.length ≤ 400000) (h2 : d.b.l.length ≤ 400000) (ho : opn d = (s, t, rs, true)) (h01 : s = 0 ∨ s = 1) (ht0 : 0 < t) (ht : t < 1099511627776) (hsc : (scanRs (d.get s).l).1 = t) (hB : ∀ x ∈ rs, By x.b) (hfit : ((frame7 (t + 1) (bytesRs rs)).length : Int) ≤ (d.set (1 - s) ⟨[], 0⟩).left) :
    Calls Try.prog 11 #[.pointer (some ⟨g, 0, none⟩)] w fun e w' => ∃ p n c va' vb' d', e = .returned (.tuple #[.pointer (some ⟨w.heap.size, 0, none⟩), .slice p n c, .int .i64 0]) ∧ RC w' p n rs ∧ CP p n c ∧ PD N g w' va' vb' d' ∧ d'.stop = -1 ∧ JI d' (1 - s) (t + 1) rs ∧ BJ w' w.heap.size g (1 - s) (t + 1) false ∧ d' = d.set (1 - s) ⟨frame7 (t + 1) (bytesRs rs), (frame7 (t + 1) (bytesRs rs)).length⟩ ∧ Sp (Xs g va vb) (XJ g va' vb' w.heap.size) w w' ∧ Below N w w' := by
  have hg := opnN_good d h.ok 2
  have hm : allMay rs = true := by
    have q := hg.2.2.2.1
    rw [show opnN d 2 = (s, t, rs, true) from ho] at q
    exact q
  have hr : renJ d s t rs = (0, d.set (1 - s) ⟨frame7 (t + 1) (bytesRs rs), (frame7 (t + 1) (bytesRs rs)).length⟩, 1 - s, t + 1) := by
    unfold renJ
    rw [hm, if_neg (by decide), if_neg (by omega), rnw_fits (by omega)]
  refine (Open_any w h hs h1 h2).mono ?_
  intro e w' hp
  unfold OPost at hp
  rw [ho] at hp
  simp only [hr] at hp
  rcases hp with ⟨hf, _⟩ | ⟨_, hf, _⟩ | ⟨_, _, V, xs, va', vb', rfl, q1, q2, q3, q4, q5, q6⟩
  · cases hf
  · exact absurd rfl hf
  · obtain ⟨p, c, rfl, hrc, hcp⟩ := q1.rc
    rw [q2] at hrc
    refine ⟨p, _, c, va', vb', _, rfl, hrc, hcp, q3, by rw [Dk.set_stop]; exact hs, ?_, q4, rfl, q5, q6⟩
    refine .inr ⟨by omega, by omega, rs, [], by simp, (allMay_iff rs).1 hm, hB, ?_, ?_⟩
    · rw [Dk.get_same]
      simp [bytesRs, frame7, wholeRs]
    · have e : (1 : Int) - (1 - s) = s := by omega
      rw [e, Dk.get_other d h01, hsc]
      omega
theorem RO.spx {M : Nat} {X X' : Nat → Prop} {w w' : World} {V : Value} {xs : List Rw} (h : RO M w V xs) (hx : ∀ b, X b → b < M) (sp : Sp X X' w w') : RO M w' V xs := by
  refine ⟨h.1.sp sp fun b hb hq => ?_, fun x hh => ⟨(h.2 x hh).1.sp sp fun b hb hq => ?_, (h.2 x hh).2⟩⟩
  · have := (World.ownsRow.lt h.1 b hb).1
    have := hx b hq
    omega
  · have := ((h.2 x hh).1.lt b hb).1
    have := hx b hq
    omega
/-- The disk of two slots' bytes. -/
def dR (a b : List Int) : Dk := ⟨⟨a, 0⟩, ⟨b, 0⟩, 1048576, -1, false⟩
theorem dR_a (a : List Int) (h : a.length ≤ 3000) : (newD 1048576).pact 0 0 a = (dR a [], 0) := by
  have e : (newD 1048576).left = 1048576 := rfl
  rw [pact_app rfl (.inl rfl) a (by rw [e]; omega)]
  rfl
theorem dR_b (a b : List Int) (ha : a.length ≤ 3000) (h : b.length ≤ 3000) : (dR a []).pact 0 1 b = (dR a b, 0) := by
  have e : (dR a []).left = 1048576 - a.length := by simp [dR, Dk.left]
  rw [pact_app rfl (.inr rfl) b (by rw [e]; omega)]
  rfl
theorem dR_fit (a b : List Int) (ha : a.length ≤ 3000) (hb : b.length ≤ 3000) (s t : Int) (m : List Int) (hm : m.length ≤ 3000) : ((frame7 (t + 1) m).length : Int) ≤ ((dR a b).set (1 - s) ⟨[], 0⟩).left := by
  have q := frame7_len (t + 1) m
  have e : ((dR a b).set (1 - s) ⟨[], 0⟩).left ≥ 1048576 - 6000 := by
    unfold Dk.set Dk.left dR
    split <;> simp only [List.length_nil] <;> omega
  omega
theorem dR_len (a b : List Int) (ha : a.length ≤ 3000) (hb : b.length ≤ 3000) (o : Int) (m : List Int) (k : Nat) (hm : m.length ≤ 4000) : ((dR a b).set o ⟨m, k⟩).a.l.length ≤ 400000 ∧ ((dR a b).set o ⟨m, k⟩).b.l.length ≤ 400000 := by
  unfold Dk.set dR
  split <;> simp only [] <;> omega
theorem RO.rc2 {M : Nat} {w : World} {p : Option Addr} {n c : Nat} {xs : List Rw} (h : RO M w (.slice p n c) xs) : RC w p n (xs.map Rw.rc) ∧ CP p n c := by
  obtain ⟨p', c', e, h1, h2⟩ := h.rc
  injection e with e1 e2 e3
  subst e1 e2 e3
  exact ⟨h1, h2⟩
theorem scan_by (l : List Int) (hb : By l) : ∀ x ∈ (scanRs l).2.1, By x.b := by
  rw [scan_whole l hb]
  unfold wholeP
  split
  · intro x hx; simp at hx
  · split
    · intro x hx
      have b1 := hb.drop (headP l).2
      rcases List.mem_append.1 hx with q | q
      · exact ((takeR_may _ _ b1).1 x q).2
      · exact ((takeR_may _ _ (b1.drop _)).1 x q).2
    · intro x hx; simp at hx
end Go.Proofs.Ytofalfaiamaapaa
