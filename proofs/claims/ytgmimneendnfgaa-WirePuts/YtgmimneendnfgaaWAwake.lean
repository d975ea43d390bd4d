/- Stage 2's own 'awake': it answers true and makes new memory only. -/
import Derived.Test.YtgmimneendnfgaaWRec
namespace Go.Proofs.Ytgmimneendnfgaa
open Go.RowKit
set_option linter.unusedVariables false

theorem rec3_len : (record 3 []).length = 6 := by
  unfold record
  rw [List.length_append, be_len]
  decide
theorem num258 : num 258 = [2, 1, 2] := by decide
theorem num0 : num 0 = [0] := by decide

set_option maxHeartbeats 1000000 in
set_option maxRecDepth 100000 in
theorem awake_any (w : World) :
    Calls Try.prog 10 #[] w fun e w' => e = .returned (.bool true) ∧ Below w.heap.size w w' := by
  go_enter Try.func10, Try.ntmps10
  go_wp2_with fail
  refine (record_any 3 none 0 0 [] w (BS.nil _ _) (fun _ => rfl) (by omega) (by omega) (by omega)).mono ?_
  rintro e w1 ⟨v, rfl, hown, hb⟩
  obtain ⟨p, cap, rfl, _, _⟩ := hown.open ((rhead_by (by omega) (by omega) By.nil).append (be_by _ _))
  rw [rec3_len]
  have Hb := hide hb
  have z1 := hb.size
  clear hown hb
  go_wp2_with fail
  refine (num_any 258 w1 (by omega) (by omega)).mono ?_
  rintro e w2 ⟨v, rfl, hown, hb⟩
  rw [num258] at hown
  obtain ⟨p2, cap2, rfl, hbs, _⟩ := hown.open (by rw [← num258]; exact num_by _)
  have Hbs := hide hbs
  have Hb2 := hide (Hb.out.trans (hb.mono z1))
  have z2 := Hb2.out.size
  clear hown hb hbs Hb
  go_wp2_with fail
  refine (bytes_as _ _ _ _ _ _ [2, 1, 2] [2, 1, 2] _ true rfl (Hbs.out.alloc _) (BS.new w2 _ rfl [2, 1, 2] _ rfl _ 3 rfl (by decide) (by rw [← num258]; exact num_by _))).mono ?_
  rintro e w3 ⟨rfl, hb⟩
  have Hb3 := hide ((Hb2.out.alloc z2 _).trans (hb.mono (by simp; omega)))
  have z3 := Hb3.out.size
  clear hb Hb2
  go_wp2_with fail
  refine (num_any 0 w3 (by omega) (by omega)).mono ?_
  rintro e w4 ⟨v, rfl, hown, hb⟩
  rw [num0] at hown
  obtain ⟨p4, cap4, rfl, hbs, _⟩ := hown.open (by rw [← num0]; exact num_by _)
  have Hbs4 := hide hbs
  have Hb4 := hide (Hb3.out.trans (hb.mono z3))
  have z4 := Hb4.out.size
  clear hown hb hbs Hb3
  go_wp2_with fail
  refine (bytes_as _ _ _ _ _ _ [0] [0] _ true rfl (Hbs4.out.alloc _) (BS.one w4 _ rfl 0 (by omega) (by omega))).mono ?_
  rintro e w5 ⟨rfl, hb⟩
  have Hb5 := hide ((Hb4.out.alloc z4 _).trans (hb.mono (by simp; omega)))
  clear hb Hb4
  go_wp2
  go_ret
  exact ⟨rfl, Hb5.out⟩
end Go.Proofs.Ytgmimneendnfgaa
