/- Two records are there, opened again; nobody's journal (layer 7). -/
import Derived.Test.YtofalfaiamaapaaQ8
namespace Go.Proofs.Ytofalfaiamaapaa
open Go.RowKit
set_option linter.unusedVariables false
theorem Open_JI {N g : Nat} {va vb : Value} {d : Dk} {s t : Int} {all : List Rc} (w : World) (h : PD N g w va vb d) (hs : d.stop = -1) (h1 : d.a.l.length ≤ 400000) (h2 : d.b.l.length ≤ 400000) (hj : JI d s t all) (ht : t ≤ 1099511627776) :
    Calls Try.prog 11 #[.pointer (some ⟨g, 0, none⟩)] w fun e w' => ∃ p n c, e = .returned (.tuple #[.pointer (some ⟨w.heap.size, 0, none⟩), .slice p n c, .int .i64 0]) ∧ RC w' p n all ∧ CP p n c ∧ PD N g w' va vb d ∧ BJ w' w.heap.size g s t false ∧ Below w.heap.size w w' := by
  refine (Open_any w h hs h1 h2).mono ?_
  intro e w' hp
  have ho := hj.opn ht
  rcases hp with ⟨_, V, xs, rfl, hr, hx, hp, hb, hl⟩ | ⟨hf, _⟩ | ⟨hf, _⟩
  · obtain ⟨p, c, rfl, hrc, hcp⟩ := hr.rc
    rw [hx] at hrc
    rw [ho] at hrc hb
    exact ⟨p, _, c, rfl, hrc, hcp, hp, hb, hl⟩
  · rw [ho] at hf
    cases hf
  · rw [ho] at hf
    cases hf
theorem RC.two (w : World) (b1 b2 : Nat) (h1 : BX w b1 #[.int .u8 7] 5) (h2 : BX w b2 #[.int .i64 10, .slice none 0 0, .int .i64 11, .slice (some ⟨b1, 0, none⟩) 1 1] 71) : RC w (some ⟨b2, 0, none⟩) 2 recs2 := by
  refine ⟨rfl, by decide, .inr ⟨b2, 0, rfl, fun i x hi => ?_⟩⟩
  have hi2 : i < 2 := (List.getElem?_eq_some_iff.1 hi).1
  rcases (by omega : i = 0 ∨ i = 1) with rfl | rfl
  · cases hi
    refine ⟨[.int .i64 10, .slice none 0 0], rfl, ⟨none, 0, 0, rfl, BS.nil _ _, ⟨Nat.le_refl _, by decide, fun _ => rfl⟩⟩, fun j v hj => ?_⟩
    have hj2 : j < 2 := (List.getElem?_eq_some_iff.1 hj).1
    rcases (by omega : j = 0 ∨ j = 1) with rfl | rfl
    · cases hj; exact h2.cell 0 _ rfl
    · cases hj; exact h2.cell 1 _ rfl
  · cases hi
    refine ⟨[.int .i64 11, .slice (some ⟨b1, 0, none⟩) 1 1], rfl, ⟨some ⟨b1, 0, none⟩, 1, 1, rfl, ⟨rfl, by decide, By.cons (by decide) (by decide) By.nil, .inr ⟨b1, 0, rfl, fun j hj => ?_⟩⟩, ⟨Nat.le_refl _, by decide, fun h => by cases h⟩⟩, fun j v hj => ?_⟩
    · obtain rfl : j = 0 := by omega
      exact h1.cell 0 _ rfl
    · have hj2 : j < 2 := (List.getElem?_eq_some_iff.1 hj).1
      rcases (by omega : j = 0 ∨ j = 1) with rfl | rfl
      · cases hj; exact h2.cell 2 _ rfl
      · cases hj; exact h2.cell 3 _ rfl
theorem put_two : putJ (newD 1000) 1 0 recs2 = (0, (newD 1000).set 0 ⟨frame7 1 (bytesRs recs2), (frame7 1 (bytesRs recs2)).length⟩, 0, 1) := by
  unfold putJ
  rw [recs2_may, if_neg (by decide), if_pos rfl]
  have q := frame7_len 1 (bytesRs recs2)
  have q2 := recs2_len
  have hl : ((newD 1000).set (1 - 1) ⟨[], 0⟩).left = 1000 := rfl
  refine rnw_fits (d := newD 1000) (s := 1) (t := 0) (m := bytesRs recs2) ?_
  rw [hl]
  simp only [Int.zero_add]
  omega
set_option maxHeartbeats 4000000 in
theorem awake7 (w : World) : Calls Try.prog 7 #[] w fun e w' => e = .returned (.bool true) ∧ Below w.heap.size w w' := by
  have hm2 := (allMay_iff recs2).1 recs2_may
  have hfl : (frame7 1 (bytesRs recs2)).length ≤ 400000 := by have := frame7_len 1 (bytesRs recs2); have := recs2_len; omega
  go_enter Try.func7, Try.ntmps7
  go_wp2_with fail
  refine (New_any 1000 w (by decide) (by decide)).mono ?_
  rintro e w1 ⟨rfl, hp, hb⟩
  have P1 := hide hp
  have B1 := hide hb
  clear hp hb
  go_wp2_with fail
  refine (Open_JI w1 P1.out rfl (by decide) (by decide) (JI.new 1000) (by decide)).mono ?_
  rintro e w2 ⟨p2, n2, c2, rfl, hrc, hcp, hp, hj, hb⟩
  obtain rfl : n2 = 0 := hrc.1.symm
  have P2 := hide hp
  have J2 := hide hj
  have B2 := hide (B1.out.trans (hb.mono B1.out.size))
  have Z2 : Hid (w.heap.size ≤ w1.heap.size) := B1.out.size
  clear hrc hcp hp hj hb P1 B1
  go_wp2_with fail
  have b1 := BX.new w2 w2.heap.size rfl #[.int .u8 7] 5
  have b2 := BX.new (w2.alloc (.cells #[.int .u8 7] 5)) (w2.heap.size + 1) (by simp) #[.int .i64 10, .slice none 0 0, .int .i64 11, .slice (some ⟨w2.heap.size, 0, none⟩) 1 1] 71
  have hbb := bel_next (bel1 w2 (.cells #[.int .u8 7] 5)) (bel1 _ (.cells #[.int .i64 10, .slice none 0 0, .int .i64 11, .slice (some ⟨w2.heap.size, 0, none⟩) 1 1] 71))
  refine (Put_any _ 2 2 recs2 _ (P2.out.below hbb) rfl (J2.out.below hbb) Z2.out (.inr rfl) (by decide) (by decide) (RC.two _ _ _ (b1.alloc _) b2) ⟨by decide, by decide, fun h => by cases h⟩ (by have := recs2_len; omega)).mono ?_
  rw [put_two]
  rintro e w3 ⟨va3, vb3, rfl, hp, hj, _, hl⟩
  simp only [] at hp hj ⊢
  have P3 := hide hp
  have J3 := hide hj
  have B3 := hide (B2.out.trans ((hbb.mono B2.out.size).trans hl))
  clear hp hj hl b1 b2 hbb P2 J2 B2
  go_wp2_with fail
  refine (Open_JI w3 P3.out rfl hfl (by decide) (JI.renew (JI.new 1000) (by decide) recs2 hm2 recs2_by _) (by decide)).mono ?_
  rintro e w4 ⟨p4, n4, c4, rfl, hrc, hcp, hp, hj, hb⟩
  obtain rfl : n4 = 2 := hrc.1.symm
  obtain ⟨b, off, rfl⟩ := hrc.addr (by decide)
  obtain ⟨x, _, _, _, hx, _, _, c0, _⟩ := hrc.one 1 (by decide)
  cases hx
  have J4 := hide (J3.out.below hb)
  have B4 := hide (B3.out.trans (hb.mono B3.out.size))
  clear hrc hcp hp hj hb
  go_wp2_with fail
  refine (Turn_any _ _ _ _ _ w4 J4.out).mono ?_
  rintro e w5 ⟨rfl, rfl⟩
  go_wp2
  go_ret
  exact ⟨rfl, B4.out⟩
end Go.Proofs.Ytofalfaiamaapaa
