/- The document's Key, Rows, May (layer 8). -/
import Derived.Test.YtiodlpoeifmldaaA3
namespace Go.Proofs.Ytiodlpoeifmldaa
open Go.RowKit Go.Lib
set_option linter.unusedVariables false
theorem empK (k : ByteArray) : (k.toList == (⟨#[]⟩ : ByteArray).toList) = decide (k.size = 0) := by
  rw [eqK, Bool.eq_iff_iff, decide_eq_true_iff, decide_eq_true_iff]
  constructor
  · rintro rfl; rfl
  · intro h
    obtain ⟨⟨x⟩⟩ := k
    have : x.length = 0 := h
    rw [List.eq_nil_of_length_eq_zero this]
set_option maxHeartbeats 400000 in
theorem KeyR_any (k : ByteArray) (w : World) : Calls Try.prog 13 #[.string k] w fun e w' => e = .returned (.bool (mayK k)) ∧ Below w.heap.size w w' := by
  obtain ⟨b, hb⟩ : ∃ b, mayK k = b := ⟨_, rfl⟩
  rw [hb]
  have HB := hide hb
  clear hb
  by_cases h1 : k.size = 0
  · have he := empK k
    rw [decide_eq_true h1, eqK, decide_eq_true_iff] at he
    subst he
    clear h1
    go_enter Try.func13, Try.ntmps13
    go_wp2
    go_ret
    refine ⟨?_, by first | exact Below.refl _ _ | go_grown⟩
    rw [← HB.out]
    rfl
  · have hne : ¬ k.toList = [] := by
      intro h
      have he := empK k
      have h0 : (⟨#[]⟩ : ByteArray).toList = [] := by rw [ByteArray.toList_eq]
      rw [decide_eq_false h1, h, h0] at he
      cases he
    have hie : k.toList.isEmpty = false := by
      rcases hk : k.toList with _ | ⟨x, l⟩
      · exact absurd hk hne
      · rfl
    have hkp : (1 : Int) ≤ (k.size : Int) := by omega
    by_cases h2 : (k.size : Int) ≤ 32
    · go_enter Try.func13, Try.ntmps13
      go_wp2
      go_ret
      refine ⟨?_, by first | exact Below.refl _ _ | go_grown⟩
      rw [← HB.out]
      simp [mayK]; omega
    · go_enter Try.func13, Try.ntmps13
      go_wp2
      go_ret
      refine ⟨?_, by first | exact Below.refl _ _ | go_grown⟩
      rw [← HB.out]
      simp [mayK]; omega
set_option maxHeartbeats 400000 in
theorem RowsR_any (p : Option Addr) (n cap : Nat) (l : List Dot) (w : World) (hA : DS w p n l) (hn : n ≤ 100000) : Calls Try.prog 38 #[.slice p n cap] w fun e w' => e = .returned (.bool (rowsB l)) ∧ Below w.heap.size w w' := by
  have HV := hide hA
  clear hA
  have BB : Hid (Below w.heap.size w w) := Below.refl _ _
  rcases h1 : l.all mayD with _ | _
  · have H1 := hide h1
    have HR : Hid (rowsB l = false) := by unfold Hid rowsB; rw [h1]; rfl
    clear h1
    go_enter Try.func38, Try.ntmps38
    go_wp2_with (go_at_call 63; refine (All_any p n cap l _ HV.out).mono ?_; rintro e w1 ⟨rfl, hb⟩; rw [H1.out])
    go_ret
    exact ⟨by rw [HR.out]; rfl, hb⟩
  · have H1 := hide h1
    have HR : Hid (rowsB l = decide (ordD l = l)) := by unfold Hid rowsB; rw [h1]; rfl
    clear h1
    go_enter Try.func38, Try.ntmps38
    go_wp2_with (first | (go_at_call 63; refine (All_any p n cap l _ HV.out).mono ?_; rintro e w1 ⟨rfl, hb⟩; rw [H1.out]; replace BB := hide (bel_next BB.out hb); clear hb) | (go_at_call 64; refine (OrderR_any p n cap l _ (HV.out.below BB.out) hn).mono ?_; rintro e w2 ⟨v2, rfl, ho2, hb⟩; obtain ⟨p2, c2, rfl, hd2, _⟩ := ho2.open; have HD2 := hide hd2; replace BB := hide (bel_next BB.out hb); clear hb ho2 hd2) | (go_at_call 39; refine (Dots_any p2 p _ c2 n cap (ordD l) l _ HD2.out (HV.out.below BB.out)).mono ?_; rintro e w3 ⟨rfl, hb⟩; replace BB := hide (bel_next BB.out hb); clear hb))
    go_ret
    exact ⟨by rw [HR.out]; rfl, BB.out⟩
theorem mayN_yes {k : ByteArray} {l m : List Dot} (h : mayK k = true) (h1 : 0 < l.length) (h2 : m.length = 0) (h3 : rowsB l = true) : mayN (k, l, m) = true := by
  have e := List.eq_nil_of_length_eq_zero h2
  subst e
  refine mayN_iff.2 ⟨h, ?_, rfl, h3⟩
  rintro rfl
  simp at h1
theorem mayN_no1 {k : ByteArray} {l m : List Dot} (h : l.length = 0) : mayN (k, l, m) = false := by
  have := List.eq_nil_of_length_eq_zero h
  subst this
  simp [mayN]
theorem mayN_no2 {k : ByteArray} {l m : List Dot} (h : 0 < m.length) : mayN (k, l, m) = false := by
  have : m ≠ [] := fun e => by rw [e] at h; simp at h
  simp [mayN, this]
theorem mayN_no3 {k : ByteArray} {l m : List Dot} (h : rowsB l = false) : mayN (k, l, m) = false := by simp [mayN, h]
theorem mayN_no0 {k : ByteArray} {l m : List Dot} (h : mayK k = false) : mayN (k, l, m) = false := by simp [mayN, h]
end Go.Proofs.Ytiodlpoeifmldaa
