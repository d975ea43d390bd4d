/- Texts of this claim, joined: A4. -/
import Derived.Test.YtkbbegbpkndebaaGreatJ7
/- Where a key stands in a set (layer 8). -/
namespace Go.Proofs.YtkbbegbpkndebaaGreat
open Go.RowKit Go.Lib
set_option linter.unusedVariables false
set_option maxHeartbeats 400000 in
theorem place1_any (k t : ByteArray) (vl vd : Value) (w : World) : Calls Tryz.prog 235 #[.agg #[.string k, vl, vd], .string t] w fun e w' => e = .returned (.int .i64 (cmpK k t)) ∧ Below w.heap.size w w' := by
  go_enter Tryz.func235, Tryz.ntmps235
  go_wp2_with (go_at_call 232; refine (Compare_any _ _ _).mono ?_; rintro e w' ⟨rfl, rfl⟩)
  go_ret
  exact ⟨rfl, bel1 _ _⟩
/-- A key's place is found by halving. -/
theorem halve_lo {s : List En} (hs : SrtK s) {t : ByteArray} {h : Nat} {x : En} (hx : s[h]? = some x) (hl : ltK x.1 t = true) : ∀ j y, j < h + 1 → s[j]? = some y → ltK y.1 t = true := by
  intro j y hj hy
  rcases Nat.lt_or_ge j h with k | k
  · exact ltK_trans (srt_lt hs hy hx k) hl
  · obtain rfl : j = h := by omega
    rw [hx] at hy
    cases hy
    exact hl
theorem halve_hi {s : List En} (hs : SrtK s) {t : ByteArray} {h : Nat} {x : En} (hx : s[h]? = some x) (hl : ltK x.1 t = false) : ∀ j y, h ≤ j → s[j]? = some y → ltK y.1 t = false := by
  intro j y hj hy
  rcases Nat.lt_or_ge h j with k | k
  · rcases hb : ltK y.1 t with _ | _
    · rfl
    · have := ltK_trans (srt_lt hs hx hy k) hb
      rw [hl] at this
      cases this
  · obtain rfl : j = h := by omega
    rw [hx] at hy
    cases hy
    exact hl
/-- Is a key at its place? -/
def thereB (s : List En) (t : ByteArray) (i : Nat) : Bool := match s[i]? with
  | none => false
  | some x => decide (x.1 = t)
set_option maxHeartbeats 2000000 in
theorem searchK_any (a : Option Addr) (n cap : Nat) (s : List En) (t : ByteArray) (w : World) (hA : NSS w a n s) (hS : SrtK s) (hn : n ≤ 4000) :
    Calls Tryz.prog 230 #[.slice a n cap, .string t, .func (.func 235) #[] #[]] w fun e w' => (∃ i : Nat, e = .returned (.tuple #[.int .i64 i, .bool (thereB s t i)]) ∧ PlaceK s t i) ∧ Below w.heap.size w w' := by
  have HV := hide hA
  have HLEN := hide hA.len
  have HS := hide hS
  clear hA hS
  go_enter Tryz.func230, Tryz.ntmps230
  go_wp2
  go_loopw [9, 10] (fun vi vj wr => ∃ i j : Nat, i ≤ j ∧ j ≤ n ∧ vi = .int .i64 i ∧ vj = .int .i64 j ∧ Hid (Below w.heap.size w wr) ∧ Hid (∀ q x, q < i → s[q]? = some x → ltK x.1 t = true) ∧ Hid (∀ q x, j ≤ q → s[q]? = some x → ltK x.1 t = false)) (fun vi vj _ => (intOf vj).toNat - (intOf vi).toNat)
  case atStart => exact ⟨0, n, by omega, by omega, rfl, rfl, Below.refl _ _, fun q x h => absurd h (Nat.not_lt_zero _), fun q x h1 h2 => by have := (List.getElem?_eq_some_iff.1 h2).1; rw [HLEN.out] at this; omega⟩
  case round =>
    obtain ⟨i, j, hij, hjn, rfl, rfl, HB, H1, H2⟩ := hrel
    by_cases hlt : i < j
    · obtain ⟨h, hh⟩ : ∃ h : Nat, h = (i + j) / 2 := ⟨_, rfl⟩
      have hih : i ≤ h := by omega
      have hhj : h < j := by omega
      have hI : ((i : Int) + (j : Int)) / 2 = (h : Int) := by omega
      have hh0 : (0 : Int) ≤ (h : Int) := by omega
      have hh1 : (h : Int) < (n : Int) := by omega
      clear hh
      obtain ⟨b, off, rfl⟩ := HV.out.addr (by omega)
      obtain ⟨k, pl, nl, cl, pd, nd, cd, ll, mm, hx, c0, c1, c2, _, _, _, _⟩ := (HV.out.below HB.out).at h (by omega)
      have HX := hide hx
      clear hx
      rcases hl : ltK k t with _ | _
      · have hc : ¬ cmpK k t < 0 := by rw [cmpK_lt, hl]; simp
        have H3 := hide (halve_hi HS.out HX.out hl)
        clear hl
        have HCM := hide (place1_any k t (.slice pl nl cl) (.slice pd nd cd))
        generalize cmpK k t = z at *
        go_wp2_with (go_at_call 235; refine (HCM.out _).mono ?_; rintro e w' ⟨rfl, hb⟩)
        go_roundw
        case rel => exact ⟨i, h, hih, by omega, rfl, rfl, (show Hid _ from bel_next HB.out hb), H1, H3⟩
        case measure => simp [intOf]; omega
      · have hc : cmpK k t < 0 := by rw [cmpK_lt, hl]
        have H3 := hide (halve_lo HS.out HX.out hl)
        clear hl
        have HCM := hide (place1_any k t (.slice pl nl cl) (.slice pd nd cd))
        generalize cmpK k t = z at *
        go_wp2_with (go_at_call 235; refine (HCM.out _).mono ?_; rintro e w' ⟨rfl, hb⟩)
        go_roundw
        case rel => exact ⟨h + 1, j, by omega, by omega, by go_num, rfl, (show Hid _ from bel_next HB.out hb), H3, H2⟩
        case measure => simp [intOf]; omega
    · obtain rfl : i = j := by omega
      have HP : Hid (PlaceK s t i) := ⟨by rw [HLEN.out]; omega, H1.out, H2.out⟩
      clear H1 H2
      by_cases hin : i < n
      · obtain ⟨b, off, rfl⟩ := HV.out.addr (by omega)
        obtain ⟨k, pl, nl, cl, pd, nd, cd, ll, mm, hx, c0, c1, c2, _, _, _, _⟩ := (HV.out.below HB.out).at i hin
        have HX : Hid (thereB s t i = (cmpK k t == 0)) := by
          unfold Hid thereB
          rw [hx, Bool.eq_iff_iff]
          simp [cmpK_eq]
        have hi0 : (0 : Int) ≤ (i : Int) := by omega
        have hi1 : (i : Int) < (n : Int) := by omega
        clear hx
        have HCM := hide (place1_any k t (.slice pl nl cl) (.slice pd nd cd))
        generalize cmpK k t = z at *
        go_wp2_with (go_at_call 235; refine (HCM.out _).mono ?_; rintro e w' ⟨rfl, hb⟩)
        go_ret2
        exact ⟨⟨i, by rw [HX.out]; rfl, HP.out⟩, bel_next HB.out hb⟩
      · have HX : Hid (thereB s t i = false) := by
          unfold Hid thereB
          rw [List.getElem?_eq_none (by rw [HLEN.out]; omega)]
        go_wp2
        go_ret2
        exact ⟨⟨i, by rw [HX.out]; rfl, HP.out⟩, HB.out⟩
set_option maxHeartbeats 400000 in
theorem place_any (a : Option Addr) (n cap : Nat) (s : List En) (t : ByteArray) (w : World) (hA : NSS w a n s) (hS : SrtK s) (hn : n ≤ 4000) :
    Calls Tryz.prog 217 #[.slice a n cap, .string t] w fun e w' => (∃ i : Nat, e = .returned (.tuple #[.int .i64 i, .bool (thereB s t i)]) ∧ PlaceK s t i) ∧ Below w.heap.size w w' := by
  go_enter Tryz.func217, Tryz.ntmps217
  go_wp2_with (go_at_call 230; refine (searchK_any a n cap s t _ hA hS hn).mono ?_; rintro e w' ⟨⟨i, rfl, hp⟩, hb⟩)
  go_ret2
  exact ⟨⟨i, rfl, hp⟩, hb⟩
set_option maxHeartbeats 400000 in
theorem liveOf_any (a : Option Addr) (n cap : Nat) (s : List En) (t : ByteArray) (w : World) (hA : NSS w a n s) (hS : SrtK s) (hn : n ≤ 4000) :
    Calls Tryz.prog 196 #[.slice a n cap, .string t] w fun e w' => (∃ p m c, e = .returned (.slice p m c) ∧ DS w' p m (getS s t) ∧ CP p m c ∧ (m = 0 ∨ DS w p m (getS s t))) ∧ Below w.heap.size w w' := by
  have HV := hide hA
  have HLEN := hide hA.len
  have HS := hide hS
  have HPL := hide (place_any a n cap s t w hA hS hn)
  clear hA hS
  go_enter Tryz.func196, Tryz.ntmps196
  go_upto_region 2 with (go_at_call 217; refine HPL.out.mono ?_; rintro e w' ⟨⟨i, rfl, hp⟩, hb⟩)
  have HP := hide hp
  have HB := hide hb
  clear hp hb HPL
  rcases ht : thereB s t i with _ | _
  · have HG : Hid (getS s t = []) := (place_not HS.out HP.out (fun x hx e => by unfold thereB at ht; rw [hx] at ht; simp [e] at ht) []).1
    go_wp2
    go_ret
    exact ⟨⟨none, 0, 0, rfl, by rw [HG.out]; exact DS.nil _ _, ⟨Nat.le_refl _, by decide, fun _ => rfl⟩, .inl rfl⟩, HB.out⟩
  · obtain ⟨x, hx, he⟩ : ∃ x, s[i]? = some x ∧ x.1 = t := by
      unfold thereB at ht
      split at ht
      · cases ht
      · exact ⟨_, by assumption, by simpa using ht⟩
    have HG := hide (place_there HS.out HP.out hx he []).1
    have hin : i < n := by rw [← HLEN.out]; exact (List.getElem?_eq_some_iff.1 hx).1
    obtain ⟨b, off, rfl⟩ := HV.out.addr (by omega)
    obtain ⟨k, pl, nl, cl, pd, nd, cd, ll, mm, hx', c0, c1, c2, h1, h2, _, _⟩ := HV.out.at i hin
    rw [hx] at hx'
    cases hx'
    have e1 := bcell HB.out c1
    have hi0 : (0 : Int) ≤ (i : Int) := by omega
    have hi1 : (i : Int) < (n : Int) := by omega
    have H1 := hide h1
    have H2 := hide h2
    clear hx he c0 c1 c2 h1 h2
    go_wp2
    go_ret
    exact ⟨⟨pl, nl, cl, rfl, by rw [HG.out]; exact H1.out.below HB.out, H2.out, .inr (by rw [HG.out]; exact H1.out)⟩, HB.out⟩
end Go.Proofs.YtkbbegbpkndebaaGreat

