/- What 'sumOf' and 'Record' do, the program's and the document's. -/
import Derived.Test.YtgmimneendnfgaaWRefUnpack
namespace Go.Proofs.Ytgmimneendnfgaa
open Go.RowKit
set_option linter.unusedVariables false

def rhead (k : Int) (t : List Int) : List Int := k :: text t
def record (k : Int) (t : List Int) : List Int := rhead k t ++ be 4 (of [rhead k t])
theorem be4 (x : Int) (h0 : 0 ≤ x) (h1 : x < 4294967296) : be 4 x = [x / 16777216, x / 65536 % 256, x / 256 % 256, x % 256] := by
  simp [be]
  omega
theorem rhead_by {k : Int} {t : List Int} (h0 : 0 ≤ k) (h1 : k < 256) (h : By t) : By (rhead k t) := By.cons h0 h1 (text_by h)
theorem rhead_len (k : Int) (t : List Int) : (rhead k t).length ≤ t.length + 10 := by
  have := text_len t
  unfold rhead
  rw [List.length_cons]
  omega

theorem refOf_as (a : Option Addr) (len cap : Nat) (l : List Int) (w : World) (x : Int) (hx : of [l] = x) (hB : BS w a len l) (h15 : len ≤ 100000) :
    Calls Try.prog 35 #[.slice a len cap] w fun e w' => e = .returned (.int .u32 x) ∧ Below w.heap.size w w' := by
  rw [← hx]; exact refOf_any a len cap l w hB h15

set_option maxHeartbeats 1000000 in
set_option maxRecDepth 100000 in
theorem sumOf_any (a : Option Addr) (n c : Nat) (l : List Int) (w : World) (hA : BS w a n l) :
    Calls Try.prog 34 #[.slice a n c] w fun e w' => ∃ v, e = .returned v ∧ Own w.heap.size w' v (be 4 (of [l])) ∧ Below w.heap.size w w' := by
  have hps := hide (one_ps w a n c l hA)
  have hb := of_bd [l]
  have hb0 := hb.1
  have hb1 := hb.2
  have hbe := hide (be4 (of [l]) hb0 hb1)
  clear hA hb
  obtain ⟨x, hx⟩ : ∃ x, of [l] = x := ⟨_, rfl⟩
  rw [hx] at hbe hb0 hb1
  have Hx := hide hx
  clear hx
  go_enter Try.func34, Try.ntmps34
  go_wp2_with fail
  refine (of_as _ _ _ [l] _ x Hx.out hps.out).mono ?_
  rintro e w1 ⟨rfl, rfl⟩
  go_wp2
  go_ret
  refine ⟨_, rfl, ?_, ((Below.refl _ w).alloc (Nat.le_refl _) _).alloc (by simp) _⟩
  rw [Hx.out, hbe.out]
  exact Own.lit _ _ _ (by simp) (by simp) _ _ rfl 4 rfl (by simp [maxLen])

set_option maxHeartbeats 1000000 in
set_option maxRecDepth 100000 in
theorem record_arg (k : Int) (a : Option Addr) (n c : Nat) (w : World) (h : k < 1 ∨ 200 < k ∨ 65536 < n) :
    Calls Try.prog 25 #[.int .i64 k, .slice a n c] w fun e w' => e = .returned (.tuple #[.slice none 0 0, .int .i64 1]) ∧ w' = w := by
  by_cases h1 : k < 1
  · clear h
    go_enter Try.func25, Try.ntmps25
    go_wp2
    go_ret2
    exact ⟨rfl, rfl⟩
  · have d1 : decide (k < 1) = false := by simp; omega
    by_cases h2 : 200 < k
    · clear h h1
      go_enter Try.func25, Try.ntmps25
      go_wp2
      go_ret2
      exact ⟨rfl, rfl⟩
    · have d2 : decide (200 < k) = false := by simp; omega
      have d3 : (65536 : Int) < (n : Int) := by omega
      clear h h1 h2
      go_enter Try.func25, Try.ntmps25
      go_wp2
      go_ret2
      exact ⟨rfl, rfl⟩

set_option maxHeartbeats 1000000 in
set_option maxRecDepth 100000 in
theorem record_any (k : Int) (a : Option Addr) (n c : Nat) (l : List Int) (w : World) (hA : BS w a n l) (hp : a = none → c = 0) (h1 : 1 ≤ k) (h2 : k ≤ 200) (h3 : n ≤ 65536) :
    Calls Try.prog 25 #[.int .i64 k, .slice a n c] w fun e w' => ∃ v, e = .returned (.tuple #[v, .int .i64 0]) ∧ Own w.heap.size w' v (record k l) ∧ Below w.heap.size w w' := by
  have d1 : decide (k < 1) = false := by simp; omega
  have d2 : decide (200 < k) = false := by simp; omega
  have d3 : ¬ (65536 : Int) < (n : Int) := by omega
  have HA := hide hA
  have H3 := hide h3
  have Hp := hide hp
  have hrl := hide (rhead_len k l)
  have hl := hide hA.1
  have Hby := hide hA.2.2.1
  clear hA h3 hp
  go_enter Try.func25, Try.ntmps25
  go_wp2_with fail
  refine (text_any a n c l _ (HA.out.alloc _) Hp.out (by have := H3.out; omega)).mono ?_
  rintro e w1 ⟨v, rfl, hown, hb⟩
  obtain ⟨p, cap, rfl, hbs, hcp⟩ := hown.open (text_by Hby.out)
  have Hbs := hide hbs
  have Hcp := hide hcp
  have Hown := hide ((Own.one w w.heap.size _ rfl (Nat.le_refl _) k).below hb)
  have Hb : Hid (Below w.heap.size w w1) := ((Below.refl _ w).alloc (Nat.le_refl _) _).trans (hb.mono (by simp))
  have hsz := Hb.out.size
  clear hown hb hbs hcp
  go_wp2_with (at_builtin; refine Stop.at ?_)
  unfold Stop
  refine append_bytes rfl _ _ rfl w.heap.size _ [k] (text l) rfl Hown.out p _ cap rfl Hcp.out.2.2 Hbs.out (by have := hrl.out; have := H3.out; have := hl.out; unfold rhead at *; simp at *; omega) hsz ?_
  intro v2 w2 hown2 hgrow hbel2
  have hE : [k] ++ text l = rhead k l := rfl
  rw [hE] at hown2
  obtain ⟨p2, cap2, rfl, hbs2, hcp2⟩ := hown2.open (rhead_by (by omega) (by omega) Hby.out)
  have Hown2 := hide hown2
  have Hbs2 := hide hbs2
  have Hbel2 := hide (hbel2 w Hb.out)
  have hsz2 := Hbel2.out.size
  clear hown2 hgrow hbel2 hbs2 hcp2 hE Hown Hb
  go_wp2_with fail
  refine (sumOf_any _ _ _ (rhead k l) w2 Hbs2.out).mono ?_
  rintro e w3 ⟨v3, rfl, hown3, hb3⟩
  obtain ⟨p3, cap3, rfl, hbs3, hcp3⟩ := hown3.open (be_by _ _)
  have Hbs3 := hide hbs3
  have Hcp3 := hide hcp3
  have Hown3 := hide (Hown2.out.below hb3)
  have Hb3 := hide (Hbel2.out.trans (hb3.mono hsz2))
  have hsz3 := Hb3.out.size
  clear hown3 hbs3 hcp3 hb3 Hown2 Hbel2
  go_wp2_with (at_builtin; refine Stop.at ?_)
  unfold Stop
  refine append_bytes rfl _ _ rfl w.heap.size _ (rhead k l) (be 4 (of [rhead k l])) rfl Hown3.out p3 _ cap3 rfl Hcp3.out.2.2 Hbs3.out (by have := hrl.out; have := H3.out; have := hl.out; rw [be_len]; omega) hsz3 ?_
  intro v4 w4 hown4 hgrow hbel4
  have Hown4 := hide hown4
  have Hbel4 := hide (hbel4 w Hb3.out)
  clear hown4 hgrow hbel4
  go_wp2
  go_ret2
  exact ⟨_, rfl, Hown4.out, Hbel4.out⟩

set_option maxHeartbeats 1000000 in
set_option maxRecDepth 100000 in
theorem refRecord_any (k : Int) (a : Option Addr) (n c : Nat) (l : List Int) (w : World) (hA : BS w a n l) (hp : a = none → c = 0) (h1 : 1 ≤ k) (h2 : k ≤ 200) (h3 : n ≤ 65536) :
    Calls Try.prog 27 #[.int .i64 k, .slice a n c] w fun e w' => ∃ v, e = .returned v ∧ Own w.heap.size w' v (record k l) ∧ Below w.heap.size w w' := by
  have HA := hide hA
  have H3 := hide h3
  have Hp := hide hp
  have hrl := hide (rhead_len k l)
  have hl := hide hA.1
  have Hby := hide hA.2.2.1
  have hb := of_bd [rhead k l]
  have hb0 := hb.1
  have hb1 := hb.2
  have hbe := hide (be4 (of [rhead k l]) hb0 hb1)
  obtain ⟨x, hx⟩ : ∃ x, of [rhead k l] = x := ⟨_, rfl⟩
  rw [hx] at hbe hb0 hb1
  have Hx := hide hx
  clear hA h3 hp hb hx
  go_enter Try.func27, Try.ntmps27
  go_wp2_with fail
  refine (refText_any a n c l _ (HA.out.alloc _) Hp.out (by have := H3.out; omega)).mono ?_
  rintro e w1 ⟨v, rfl, hown, hb⟩
  obtain ⟨p, cap, rfl, hbs, hcp⟩ := hown.open (text_by Hby.out)
  have Hbs := hide hbs
  have Hcp := hide hcp
  have Hown := hide ((Own.one w w.heap.size _ rfl (Nat.le_refl _) k).below hb)
  have Hb : Hid (Below w.heap.size w w1) := ((Below.refl _ w).alloc (Nat.le_refl _) _).trans (hb.mono (by simp))
  have hsz := Hb.out.size
  clear hown hb hbs hcp
  go_wp2_with (at_builtin; refine Stop.at ?_)
  unfold Stop
  refine append_bytes rfl _ _ rfl w.heap.size _ [k] (text l) rfl Hown.out p _ cap rfl Hcp.out.2.2 Hbs.out (by have := hrl.out; have := H3.out; have := hl.out; unfold rhead at *; simp at *; omega) hsz ?_
  intro v2 w2 hown2 hgrow hbel2
  have hE : [k] ++ text l = rhead k l := rfl
  rw [hE] at hown2
  obtain ⟨p2, cap2, rfl, hbs2, hcp2⟩ := hown2.open (rhead_by (by omega) (by omega) Hby.out)
  have Hown2 := hide hown2
  have Hbs2 := hide hbs2
  have Hbel2 := hide (hbel2 w Hb.out)
  have hsz2 := Hbel2.out.size
  clear hown2 hgrow hbel2 hbs2 hcp2 hE Hown Hb
  go_wp2_with fail
  refine (refOf_as _ _ _ (rhead k l) w2 x Hx.out Hbs2.out (by have := hrl.out; have := H3.out; have := hl.out; omega)).mono ?_
  rintro e w3 ⟨rfl, hb3⟩
  have Hown3 := hide (Hown2.out.below hb3)
  have Hb3 := hide (Hbel2.out.trans (hb3.mono hsz2))
  have hsz3 := Hb3.out.size
  clear hb3 Hown2 Hbel2
  go_wp2_with (at_builtin; refine Stop.at ?_)
  unfold Stop
  refine append_bytes rfl _ _ rfl w.heap.size _ (rhead k l) (be 4 (of [rhead k l])) rfl (Hown3.out.alloc _) _ 4 4 rfl (by intro h; cases h) (by rw [Hx.out, hbe.out]; exact BS.new w3 _ rfl _ _ rfl _ 4 rfl (by decide) (by rw [← hbe.out]; exact be_by 4 x)) (by have := hrl.out; have := H3.out; have := hl.out; rw [be_len]; omega) (by simp; omega) ?_
  intro v4 w4 hown4 hgrow hbel4
  have Hown4 := hide hown4
  have Hbel4 := hide (hbel4 w (Hb3.out.alloc (by omega) _))
  clear hown4 hgrow hbel4
  go_wp2
  go_ret
  exact ⟨_, rfl, Hown4.out, Hbel4.out⟩
end Go.Proofs.Ytgmimneendnfgaa
