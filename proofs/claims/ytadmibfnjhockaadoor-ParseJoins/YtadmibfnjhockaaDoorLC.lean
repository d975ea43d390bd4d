/- The program's number (layer 14). -/
import Derived.Test.YtadmibfnjhockaaDoorLA
import Derived.Test.YtadmibfnjhockaaDoorLV
import Derived.Test.YtadmibfnjhockaaDoorLLay
import Derived.Test.YtadmibfnjhockaaDoorL8
import Derived.Lib.AtoiAllCases
import Derived.Lib.AtoiErrMem
import Derived.Lib.AppendIntMem
namespace Go.Proofs.YtadmibfnjhockaaDoor
open Go.RowKit Go.Lib
set_option linter.unusedVariables false
theorem bz_bytes (s : ByteArray) : bytesL s = bz s.data.toList := rfl
/-- strconv.Atoi, however it ends. -/
theorem atoi14 (s : ByteArray) (hs : s.size ≤ 1000000) (w : World) (hv : LV w) : Calls Tryd.prog 56 #[.string s] w fun e w' => Below w.heap.size w w' ∧ ((∃ v, atoiAll s.data.toList = .ok v ∧ e = .returned (.tuple #[.int .i64 v, .nilIface])) ∨ ((∀ v, atoiAll s.data.toList ≠ .ok v) ∧ ∃ x tp p, e = .returned (.tuple #[.int .i64 x, .iface tp p]))) := by
  rcases h : atoiAll s.data.toList with v | _ | _
  · refine (Any.strconv_Atoi_ok atoiD s (by omega) v h w).mono ?_
    rintro e w' ⟨rfl, hw⟩
    refine ⟨?_, .inl ⟨v, rfl, rfl⟩⟩
    rcases hw with rfl | ⟨t, rfl⟩
    · exact Below.refl _ _
    · exact bytesWorld_below _ _ _
  · obtain ⟨⟨tp, p, h1⟩, _⟩ := hv
    refine (Any.strconv_Atoi_syntax_var atoiD s (by omega) h tp p w h1).mono ?_
    rintro e w' ⟨N, rfl, _, _, hb⟩
    exact ⟨hb, .inr ⟨fun v h => (by cases h), _, _, _, rfl⟩⟩
  · obtain ⟨_, ⟨tp, p, h1⟩, _⟩ := hv
    refine (Any.strconv_Atoi_range_var atoiD s (by omega) h tp p w h1).mono ?_
    rintro e w' ⟨N, rfl, _, _, hb⟩
    exact ⟨hb, .inr ⟨fun v h => (by cases h), _, _, _, rfl⟩⟩
theorem itoa14 (n : Int) (h0 : -9223372036854775808 ≤ n) (h1 : n ≤ 9223372036854775807) (w : World) (hv : LV w) : Calls Tryd.prog 57 #[.int .i64 n] w fun e w' => e = .returned (.string ⟨(itoa n).toArray⟩) ∧ Below w.heap.size w w' := by
  refine (Any.strconv_Itoa itoaD n h0 h1 w hv.2.2).mono ?_
  rintro e w' ⟨rfl, k, os, rfl⟩
  exact ⟨rfl, below_grow _ w (Nat.le_refl _) k os⟩
/-- Whether a text is a number, and which. -/
def nmP (l : List Int) : Int × Bool := if numB l = true then (valN l, true) else (0, false)
theorem atoi_bd {l : List UInt8} {v : Int} (h : atoiAll l = .ok v) : -9223372036854775808 ≤ v ∧ v ≤ 9223372036854775807 := atoiAll_bounds h
theorem str_is {l : List UInt8} {s : ByteArray} (h : l = s.data.toList) : (⟨l.toArray⟩ : ByteArray) = s := by
  subst h
  rfl
set_option maxHeartbeats 4000000 in
theorem number14P (s : ByteArray) (hs : s.size ≤ 1000000) (w : World) (hv : LV w) : Calls Tryd.prog 50 #[.string s] w fun e w' => e = .returned (.tuple #[.int .i64 (nmP (bytesL s)).1, .bool (nmP (bytesL s)).2]) ∧ Below w.heap.size w w' := by
  have HV := hide hv
  have HQ : Hid (bytesL s = bz s.data.toList) := rfl
  rcases hn : numB (bytesL s) with _ | _
  · have HR : Hid (nmP (bytesL s) = (0, false)) := by unfold Hid nmP; rw [if_neg (by rw [hn]; decide)]
    rw [HQ.out] at hn
    have HN := hide (num_not hn)
    clear hn
    by_cases hok : ∃ v, atoiAll s.data.toList = .ok v
    · obtain ⟨v, hok⟩ := hok
      have hbd := atoi_bd hok
      have HA : Hid (∀ W, LV W → Calls Tryd.prog 56 #[.string s] W fun e w' => e = .returned (.tuple #[.int .i64 v, .nilIface]) ∧ Below W.heap.size W w') := fun W hW => by
        refine (atoi14 s hs W hW).mono ?_
        rintro e w' ⟨hb, ⟨x, hx, rfl⟩ | ⟨hx, _⟩⟩
        · rw [hok] at hx
          cases hx
          exact ⟨rfl, hb⟩
        · exact absurd hok (hx v)
      have HI := hide (fun W (hW : LV W) => itoa14 v hbd.1 hbd.2 W hW)
      have HT : Hid (∀ T : ByteArray, T = ⟨(itoa v).toArray⟩ → T = s → v < -9999 ∨ 9999 < v) := fun T h1 h2 => by
        subst h1
        by_cases h3 : v < -9999 ∨ 9999 < v
        · exact h3
        · exact absurd (by rw [← h2]) (HN.out v (by omega) (by omega))
      generalize (⟨(itoa v).toArray⟩ : ByteArray) = T at HI HT
      replace HT := hide (HT.out T rfl)
      have hq := eqK T s
      clear hok hbd HN HQ
      by_cases hts : T = s
      · have h3 := HT.out hts
        subst hts
        rcases h3 with h3 | h3
        · go_enter Tryd.func50, Tryd.ntmps50
          go_wp2_with (first | (go_at_call 56; refine (HA.out _ HV.out).mono ?_; rintro e w1 ⟨rfl, hb⟩; have HB := hide hb; have HV1 := hide (HV.out.below hb); clear hb) | (go_at_call 57; refine (HI.out _ HV1.out).mono ?_; rintro e w2 ⟨rfl, hb⟩; replace HB := hide (bel_next HB.out hb); clear hb))
          go_ret2
          exact ⟨by rw [HR.out]; rfl, HB.out⟩
        · have h4 : ¬ v < -9999 := by omega
          go_enter Tryd.func50, Tryd.ntmps50
          go_wp2_with (first | (go_at_call 56; refine (HA.out _ HV.out).mono ?_; rintro e w1 ⟨rfl, hb⟩; have HB := hide hb; have HV1 := hide (HV.out.below hb); clear hb) | (go_at_call 57; refine (HI.out _ HV1.out).mono ?_; rintro e w2 ⟨rfl, hb⟩; replace HB := hide (bel_next HB.out hb); clear hb))
          go_ret2
          exact ⟨by rw [HR.out]; rfl, HB.out⟩
      · rw [decide_eq_false hts] at hq
        go_enter Tryd.func50, Tryd.ntmps50
        go_wp2_with (first | (go_at_call 56; refine (HA.out _ HV.out).mono ?_; rintro e w1 ⟨rfl, hb⟩; have HB := hide hb; have HV1 := hide (HV.out.below hb); clear hb) | (go_at_call 57; refine (HI.out _ HV1.out).mono ?_; rintro e w2 ⟨rfl, hb⟩; replace HB := hide (bel_next HB.out hb); clear hb))
        go_ret2
        exact ⟨by rw [HR.out]; rfl, HB.out⟩
    · have HA : Hid (∀ W, LV W → Calls Tryd.prog 56 #[.string s] W fun e w' => ∃ x tp p, e = .returned (.tuple #[.int .i64 x, .iface tp p]) ∧ Below W.heap.size W w') := fun W hW => by
        refine (atoi14 s hs W hW).mono ?_
        rintro e w' ⟨hb, ⟨x, hx, rfl⟩ | ⟨hx, x, tp, p, rfl⟩⟩
        · exact absurd ⟨x, hx⟩ hok
        · exact ⟨x, tp, p, rfl, hb⟩
      clear hok HN HQ
      go_enter Tryd.func50, Tryd.ntmps50
      go_wp2_with (go_at_call 56; refine (HA.out _ HV.out).mono ?_; rintro e w1 ⟨x, tp, p, rfl, hb⟩; have HB := hide hb; clear hb)
      go_ret2
      exact ⟨by rw [HR.out]; rfl, HB.out⟩
  · have HR : Hid (nmP (bytesL s) = (valN (bytesL s), true)) := by unfold Hid nmP; rw [if_pos hn]
    rw [HQ.out] at hn
    have q := num_yes hn
    rw [← HQ.out] at q
    obtain ⟨v, hvv⟩ : ∃ v, valN (bytesL s) = v := ⟨_, rfl⟩
    rw [hvv] at q HR
    obtain ⟨q1, q2, q3, q4⟩ := q
    have HA : Hid (∀ W, LV W → Calls Tryd.prog 56 #[.string s] W fun e w' => e = .returned (.tuple #[.int .i64 v, .nilIface]) ∧ Below W.heap.size W w') := fun W hW => by
      refine (atoi14 s hs W hW).mono ?_
      rintro e w' ⟨hb, ⟨x, hx, rfl⟩ | ⟨hx, _⟩⟩
      · rw [q1] at hx
        cases hx
        exact ⟨rfl, hb⟩
      · exact absurd q1 (hx v)
    have HI : Hid (∀ W, LV W → Calls Tryd.prog 57 #[.int .i64 v] W fun e w' => e = .returned (.string s) ∧ Below W.heap.size W w') := fun W hW => by
      have k := itoa14 v (by omega) (by omega) W hW
      rw [str_is q2] at k
      exact k
    have h3 : ¬ v < -9999 := by omega
    have h4 : ¬ 9999 < v := by omega
    clear hn hvv q1 q2 q3 q4 HQ
    go_enter Tryd.func50, Tryd.ntmps50
    go_wp2_with (first | (go_at_call 56; refine (HA.out _ HV.out).mono ?_; rintro e w1 ⟨rfl, hb⟩; have HB := hide hb; have HV1 := hide (HV.out.below hb); clear hb) | (go_at_call 57; refine (HI.out _ HV1.out).mono ?_; rintro e w2 ⟨rfl, hb⟩; replace HB := hide (bel_next HB.out hb); clear hb))
    go_ret2
    exact ⟨by rw [HR.out]; rfl, HB.out⟩
end Go.Proofs.YtadmibfnjhockaaDoor
