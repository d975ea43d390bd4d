/- What 'GetText' does, the program's and the document's. -/
import Derived.Test.YtbeknlpoialgiaaWText
namespace Go.Proofs.Ytbeknlpoialgiaa
open Go.RowKit
set_option linter.unusedVariables false

theorem getText_of {l : List Int} {u m : Nat} (h : getNum l = some ((u : Int), m)) : getText l = if 65536 < u ∨ l.length < m + u then none else some ((l.drop m).take u, m + u) := by
  unfold getText
  rw [h]
  simp only [Int.toNat_natCast]
  congr 1
  simp only [eq_iff_iff]
  omega
theorem take_drop' (l : List Int) (m u : Nat) : (l.take (m + u)).drop m = (l.drop m).take u := by
  rw [List.drop_take]; congr 1; omega

set_option maxHeartbeats 1000000 in
set_option maxRecDepth 100000 in
theorem getText_any (a : Option Addr) (n c : Nat) (l : List Int) (w : World) (hA : BS w a n l) (hC : CP a n c) :
    Calls Try.prog 52 #[.slice a n c] w fun e w' => ((getText l = none ∧ e = .returned (.tuple #[.slice none 0 0, .int .i64 0, .int .i64 2])) ∨ ∃ (t : List Int) (m : Nat) (v : Value), getText l = some (t, m) ∧ e = .returned (.tuple #[v, .int .i64 (m : Int), .int .i64 0]) ∧ Own w.heap.size w' v t) ∧ Below w.heap.size w w' := by
  have hmax := hA.2.1
  have hcm := hC.2.1
  have hcn := hC.1
  unfold maxLen at hmax hcm
  have HA := hide hA
  have HC := hide hC
  have hsl : ∀ i : Nat, (if c = i then a else Option.map (fun x => x.add i) a) = slA a c i := fun _ => rfl
  clear hA hC
  go_enter Try.func52, Try.ntmps52
  go_wp2_with fail
  refine (getNum_any a n c l w HA.out HC.out).mono ?_
  rintro e w1 ⟨(⟨hg, rfl⟩ | ⟨x, m, hg, rfl⟩), rfl⟩
  · have hres : Hid (getText l = none) := by unfold getText; rw [hg]; rfl
    clear hg
    go_wp2
    go_ret3
    exact ⟨.inl ⟨hres.out, rfl⟩, Below.refl _ _⟩
  · obtain ⟨g0, g1, g2, g3, g4, g5, g6⟩ := getNum_some HA.out.2.2.1 hg
    have Hg5 := hide (And.intro g5 g6)
    clear g5 g6
    obtain ⟨u, rfl⟩ := Int.eq_ofNat_of_zero_le g0
    have hres := hide (getText_of hg)
    have hlen := hide HA.out.1
    rw [hlen.out] at g4
    clear hg
    by_cases hu : 65536 < u
    · have hu' : (65536 : Int) < u := by omega
      go_wp2
      go_ret3
      exact ⟨.inl ⟨by rw [hres.out, if_pos (.inl hu)], rfl⟩, Below.refl _ _⟩
    · have hu' : decide ((65536 : Int) < u) = false := by simp; omega
      by_cases hn : n < m + u
      · have hn' : (n : Int) - m < u := by omega
        go_wp2
        go_ret3
        exact ⟨.inl ⟨by rw [hres.out, hlen.out, if_pos (.inr hn)], rfl⟩, Below.refl _ _⟩
      · have hn' : ¬ (n : Int) - m < u := by omega
        obtain ⟨k, hk⟩ : ∃ k : Nat, k = m + u := ⟨_, rfl⟩
        have hK : (m : Int) + (u : Int) = (k : Int) := by omega
        have hk1 : (m : Int) ≤ (k : Int) := by omega
        have hk2 : (k : Int) ≤ (c : Int) := by omega
        have Hk := hide hk
        have hcut := hide (HA.out.cut m k c (by omega) (by omega) hcn)
        have hcp := hide (HC.out.cut m k (by omega) (by omega))
        have hkm : Hid (k - m ≤ 1000000) := by show k - m ≤ 1000000; omega
        have i1 : (u : Int) ≤ 65536 := by omega
        have i2 : (m : Int) ≤ 9 := by omega
        have i3 : (n : Int) ≤ 9223372036854775807 := by omega
        have i4 := hide hcn
        have i5 := hide hn
        have i6 := hide hu
        clear hk g0 g1 g2 g3 g4 hu hn hmax hcm hcn
        go_wp2_with fail
        refine (clone_any _ _ _ _ w1 hcut.out hcp.out.2.2 hkm.out).mono ?_
        rintro e w2 ⟨v, rfl, hown, hb⟩
        have Hown := hide hown
        have Hb := hide hb
        clear hown hb
        go_wp2
        go_ret3
        refine ⟨.inr ⟨_, k, v, ?_, rfl, Hown.out⟩, Hb.out⟩
        rw [hres.out, hlen.out, if_neg (by have := i5.out; have := i6.out; omega), Hk.out, take_drop']

set_option maxHeartbeats 1000000 in
set_option maxRecDepth 100000 in
theorem refGetText_any (a : Option Addr) (n c : Nat) (l : List Int) (w : World) (hA : BS w a n l) (hC : CP a n c) :
    Calls Try.prog 53 #[.slice a n c] w fun e w' => ((getText l = none ∧ e = .returned (.tuple #[.slice none 0 0, .int .i64 0])) ∨ ∃ (t : List Int) (m : Nat) (v : Value), getText l = some (t, m) ∧ e = .returned (.tuple #[v, .int .i64 (m : Int)]) ∧ Own w.heap.size w' v t) ∧ Below w.heap.size w w' := by
  have hmax := hA.2.1
  have hcm := hC.2.1
  have hcn := hC.1
  unfold maxLen at hmax hcm
  have HA := hide hA
  have HC := hide hC
  have hsl : ∀ i : Nat, (if c = i then a else Option.map (fun x => x.add i) a) = slA a c i := fun _ => rfl
  clear hA hC
  go_enter Try.func53, Try.ntmps53
  go_wp2_with fail
  refine (refGetNum_any a n c l w HA.out HC.out).mono ?_
  rintro e w1 ⟨(⟨hg, rfl⟩ | ⟨x, m, hg, rfl⟩), hb⟩
  · have hres : Hid (getText l = none) := by unfold getText; rw [hg]; rfl
    have Hb := hide hb
    clear hg hb
    go_wp2
    go_ret2
    exact ⟨.inl ⟨hres.out, rfl⟩, Hb.out⟩
  · obtain ⟨g0, g1, g2, g3, g4, g5, g6⟩ := getNum_some HA.out.2.2.1 hg
    have Hg5 := hide (And.intro g5 g6)
    have Hb := hide hb
    have hsz := hb.size
    clear g5 g6 hb
    obtain ⟨u, rfl⟩ := Int.eq_ofNat_of_zero_le g0
    have hres := hide (getText_of hg)
    have hlen := hide HA.out.1
    rw [hlen.out] at g4
    have hm0 : ((m : Int) == 0) = false := by simp; omega
    clear hg
    by_cases hu : 65536 < u
    · have hu' : (65536 : Int) < u := by omega
      go_wp2
      go_ret2
      exact ⟨.inl ⟨by rw [hres.out, if_pos (.inl hu)], rfl⟩, Hb.out⟩
    · have hu' : decide ((65536 : Int) < u) = false := by simp; omega
      obtain ⟨k, hk⟩ : ∃ k : Nat, k = m + u := ⟨_, rfl⟩
      have hK : (m : Int) + (u : Int) = (k : Int) := by omega
      have Hk := hide hk
      by_cases hn : n < m + u
      · have hn' : (n : Int) < k := by omega
        clear hk
        go_wp2
        go_ret2
        exact ⟨.inl ⟨by rw [hres.out, hlen.out, if_pos (.inr hn)], rfl⟩, Hb.out⟩
      · have hn' : ¬ (n : Int) < k := by omega
        have hk1 : (m : Int) ≤ (k : Int) := by omega
        have hk2 : (k : Int) ≤ (c : Int) := by omega
        have hcut := hide (HA.out.cut m k c (by omega) (by omega) hcn)
        have hcp := hide (HC.out.cut m k (by omega) (by omega))
        have hkm : Hid (k - m ≤ 1000000) := by show k - m ≤ 1000000; omega
        have i1 : (u : Int) ≤ 65536 := by omega
        have i2 : (m : Int) ≤ 9 := by omega
        have i3 : (n : Int) ≤ 9223372036854775807 := by omega
        have i4 := hide hcn
        have i5 := hide hn
        have i6 := hide hu
        clear hk g0 g1 g2 g3 g4 hu hn hmax hcm hcn
        go_wp2_with (at_builtin; refine Stop.at ?_)
        unfold Stop
        refine append_bytes rfl _ _ rfl w.heap.size _ _ _ rfl (Own.made w1 w.heap.size _ rfl hsz) _ _ _ rfl hcp.out.2.2 ((hcut.out.below Hb.out).alloc _) (by have := hkm.out; rw [hcut.out.1]; simp; omega) (by simp; omega) ?_
        intro v w2 hown hgrow hbel
        have Hown := hide hown
        have Hbel := hide (hbel w (Hb.out.alloc hsz _))
        clear hown hgrow hbel
        go_wp2
        go_ret2
        refine ⟨.inr ⟨_, k, v, ?_, rfl, Hown.out⟩, Hbel.out⟩
        rw [hres.out, hlen.out, if_neg (by have := i5.out; have := i6.out; omega), Hk.out, take_drop']
        rfl
end Go.Proofs.Ytbeknlpoialgiaa
