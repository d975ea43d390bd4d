/- Texts of this claim, joined: ON. -/
import Derived.Carry
import Derived.Test.YtomppblgalepjaaGreatDoorJ42
import Derived.Test.YtomppblgalepjaaGreatDoorJ43
/- The program's newSeen, Check, Same (layer 16). -/
namespace Go.Proofs.YtomppblgalepjaaGreatDoor
open Go.RowKit Go.Lib
set_option linter.unusedVariables false
set_option maxHeartbeats 4000000 in
theorem newSeen16 (h1 h2 h3 : Int) (w : World) : Calls Tryz.prog 27 #[.agg #[.int .i64 0, .int .i64 h1, .int .i64 h2, .int .i64 h3]] w fun e w' => e = .returned (.pointer (some ⟨w.heap.size + 1 + 3, 0, none⟩)) ∧ Below w.heap.size w w' ∧ SN w' (w.heap.size + 1) (h1, h2, h3) 0 ((0, 0, 0, 0, 0), [], [], fun _ _ => 0) := by
 have hmm := @run_makeMap Tryz.prog
 go_enter Tryz.func27, Tryz.ntmps27
 go_wp2
 go_ret
 have s1 : (w.alloc (.cells #[.int .i64 0, .int .i64 h1, .int .i64 h2, .int .i64 h3] 68)).heap.size = w.heap.size + 1 := by simp
 have q1 := NMp.made (w.alloc (.cells #[.int .i64 0, .int .i64 h1, .int .i64 h2, .int .i64 h3] 68))
 have q2 := FMp.made ((w.alloc (.cells #[.int .i64 0, .int .i64 h1, .int .i64 h2, .int .i64 h3] 68)).alloc (.map #[] 0))
 have q3 := LMp.made (((w.alloc (.cells #[.int .i64 0, .int .i64 h1, .int .i64 h2, .int .i64 h3] 68)).alloc (.map #[] 0)).alloc (.map #[] 0))
 have s2 : ((w.alloc (.cells #[.int .i64 0, .int .i64 h1, .int .i64 h2, .int .i64 h3] 68)).alloc (.map #[] 0)).heap.size = w.heap.size + 1 + 1 := by simp
 have s3 : (((w.alloc (.cells #[.int .i64 0, .int .i64 h1, .int .i64 h2, .int .i64 h3] 68)).alloc (.map #[] 0)).alloc (.map #[] 0)).heap.size = w.heap.size + 1 + 1 + 1 := by simp
 have s4 : ((((w.alloc (.cells #[.int .i64 0, .int .i64 h1, .int .i64 h2, .int .i64 h3] 68)).alloc (.map #[] 0)).alloc (.map #[] 0)).alloc (.map #[] 0)).heap.size = w.heap.size + 1 + 1 + 1 + 1 := by simp
 rw [s1] at q1
 rw [s2] at q2
 rw [s3] at q3
 have b4 := fun o : Obj => bel1 ((((w.alloc (.cells #[.int .i64 0, .int .i64 h1, .int .i64 h2, .int .i64 h3] 68)).alloc (.map #[] 0)).alloc (.map #[] 0)).alloc (.map #[] 0)) o
 have b3 := fun o : Obj => bel1 (((w.alloc (.cells #[.int .i64 0, .int .i64 h1, .int .i64 h2, .int .i64 h3] 68)).alloc (.map #[] 0)).alloc (.map #[] 0)) o
 have b2 := fun o : Obj => bel1 ((w.alloc (.cells #[.int .i64 0, .int .i64 h1, .int .i64 h2, .int .i64 h3] 68)).alloc (.map #[] 0)) o
 rw [s4] at b4
 rw [s3] at b3
 rw [s2] at b2
 refine ⟨rfl, ?_, ?_⟩
 ·exact (((((Below.refl _ w).alloc (Nat.le_refl _) _).alloc (by omega) _).alloc (by omega) _).alloc (by omega) _).alloc (by omega) _
 ·refine ⟨?_, ?_, ?_, ?_⟩
  ·exact BX.new _ _ (by rw [s4]) _ _
  ·exact ((q1.keep ((b2 _).block _ (by omega))).keep ((b3 _).block _ (by omega))).keep ((b4 _).block _ (by omega))
  ·exact (q2.keep ((b3 _).block _ (by omega))).keep ((b4 _).block _ (by omega))
  ·exact q3.keep ((b4 _).block _ (by omega))
def ec16 (b : Bool) : Int := if b = true then 0 else 1
set_option maxHeartbeats 4000000 in
theorem CheckP16 (r : Ru) (a1 a2 a3 a4 a5 : Option Addr) (n1 n2 n3 n4 n5 c1 c2 c3 c4 c5 : Nat) (w : World) (hR : RuM w a1 a2 a3 a4 a5 n1 n2 n3 n4 n5 c1 c2 c3 c4 c5 r) (hn : ∀ x ∈ allR r, x.size ≤ maxLen) (hh : n1 ≤ 100000 ∧ n2 ≤ 100000 ∧ n3 ≤ 100000) :
  Calls Tryz.prog 10 #[.agg #[.slice a1 n1 c1, .slice a2 n2 c2, .slice a3 n3 c3, .slice a4 n4 c4, .slice a5 n5 c5]] w fun e w' => e = .returned (.int .i64 (ec16 (mayR r))) ∧ Below w.heap.size w w' := by
 have hrs : rulS ((n1 : Int), (n2 : Int), (n3 : Int)) r = mayR r := by
  have q := rulS_is r
  rw [hR.1.1.1, hR.2.1.1.1, hR.2.2.1.1.1] at q
  exact q
 have HR := hide hR
 have HN := hide hn
 obtain ⟨ev, hev⟩ : ∃ ev, ec16 (mayR r) = ev := ⟨_, rfl⟩
 rw [hev]
 have HH : Hid ((n1 : Int) ≤ 1000000 ∧ (n2 : Int) ≤ 1000000 ∧ (n3 : Int) ≤ 1000000) := by unfold Hid; omega
 have HB := hide (bel1 w (.cells #[.slice a1 n1 c1, .slice a2 n2 c2, .slice a3 n3 c3, .slice a4 n4 c4, .slice a5 n5 c5] 29))
 have HX : Hid (BX (w.alloc (.cells #[.slice a1 n1 c1, .slice a2 n2 c2, .slice a3 n3 c3, .slice a4 n4 c4, .slice a5 n5 c5] 29)) w.heap.size #[.slice a1 n1 c1, .slice a2 n2 c2, .slice a3 n3 c3, .slice a4 n4 c4, .slice a5 n5 c5] 29) := BX.new w _ rfl _ _
 have HSZ : Hid (w.heap.size ≤ (w.alloc (.cells #[.slice a1 n1 c1, .slice a2 n2 c2, .slice a3 n3 c3, .slice a4 n4 c4, .slice a5 n5 c5] 29)).heap.size + 1) := by unfold Hid; simp; omega
 rcases hm : mayR r with _ | _
 ·rw [hm] at hrs
  have HRS := hide hrs
  have HE : Hid (ev = 1) := by unfold Hid; rw [← hev, hm]; rfl
  clear hev
  clear hR hn hh hm hrs
  go_enter Tryz.func10, Tryz.ntmps10
  go_upto_region 1 with fail
  generalize w.alloc (.cells #[.slice a1 n1 c1, .slice a2 n2 c2, .slice a3 n3 c3, .slice a4 n4 c4, .slice a5 n5 c5] 29) = u at *
  have g0 := HX.out.cell 0 _ rfl
  have g1 := HX.out.cell 1 _ rfl
  have g2 := HX.out.cell 2 _ rfl
  have g3 := HX.out.cell 3 _ rfl
  have g4 := HX.out.cell 4 _ rfl
  clear HX
  go_wp2_with (first | (go_at_call 27; refine (newSeen16 (n1 : Int) (n2 : Int) (n3 : Int) _).mono ?_; rintro e w1 ⟨rfl, hb, hs⟩; have HS1 := hide hs; have HB1 := hide hb; replace HB := hide (bel_next HB.out hb); replace g0 := bcell hb g0; replace g1 := bcell hb g1; replace g2 := bcell hb g2; replace g3 := bcell hb g3; replace g4 := bcell hb g4; clear hb hs) | (go_at_call 28; refine (rules16 (u.heap.size + 1) ((n1 : Int), (n2 : Int), (n3 : Int)) w r a1 a2 a3 a4 a5 n1 n2 n3 n4 n5 c1 c2 c3 c4 c5 _ HSZ.out HB.out HR.out HS1.out HN.out HH.out).mono ?_; rintro e w2 ⟨rfl, hb⟩; rw [HRS.out]; replace HB := hide hb; clear hb))
  go_ret
  exact ⟨by rw [HE.out]; rfl, HB.out⟩
 ·rw [hm] at hrs
  have HRS := hide hrs
  have HE : Hid (ev = 0) := by unfold Hid; rw [← hev, hm]; rfl
  clear hev
  clear hR hn hh hm hrs
  go_enter Tryz.func10, Tryz.ntmps10
  go_upto_region 1 with fail
  generalize w.alloc (.cells #[.slice a1 n1 c1, .slice a2 n2 c2, .slice a3 n3 c3, .slice a4 n4 c4, .slice a5 n5 c5] 29) = u at *
  have g0 := HX.out.cell 0 _ rfl
  have g1 := HX.out.cell 1 _ rfl
  have g2 := HX.out.cell 2 _ rfl
  have g3 := HX.out.cell 3 _ rfl
  have g4 := HX.out.cell 4 _ rfl
  clear HX
  go_wp2_with (first | (go_at_call 27; refine (newSeen16 (n1 : Int) (n2 : Int) (n3 : Int) _).mono ?_; rintro e w1 ⟨rfl, hb, hs⟩; have HS1 := hide hs; have HB1 := hide hb; replace HB := hide (bel_next HB.out hb); replace g0 := bcell hb g0; replace g1 := bcell hb g1; replace g2 := bcell hb g2; replace g3 := bcell hb g3; replace g4 := bcell hb g4; clear hb hs) | (go_at_call 28; refine (rules16 (u.heap.size + 1) ((n1 : Int), (n2 : Int), (n3 : Int)) w r a1 a2 a3 a4 a5 n1 n2 n3 n4 n5 c1 c2 c3 c4 c5 _ HSZ.out HB.out HR.out HS1.out HN.out HH.out).mono ?_; rintro e w2 ⟨rfl, hb⟩; rw [HRS.out]; replace HB := hide hb; clear hb))
  go_ret
  exact ⟨by rw [HE.out]; rfl, HB.out⟩
end Go.Proofs.YtomppblgalepjaaGreatDoor

