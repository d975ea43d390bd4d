/- What 'Unpack' does, the program's and the document's. -/
import Derived.Test.YtbeknlpoialgiaaWOwnP
namespace Go.Proofs.Ytbeknlpoialgiaa
open Go.RowKit
set_option linter.unusedVariables false

def cont (acc : List (List Int)) (at_ : Nat) (o : Option (List (List Int) × Nat)) : Option (List (List Int) × Nat) := o.map fun r => (acc ++ r.1, at_ + r.2)
theorem cont_none {acc : List (List Int)} {at_ k : Nat} {l : List Int} (h : getText (l.drop at_) = none) : cont acc at_ (gets (k + 1) (l.drop at_)) = none := by
  unfold gets
  rw [h]; rfl
theorem cont_some {acc : List (List Int)} {at_ k : Nat} {l t : List Int} {n : Nat} (h : getText (l.drop at_) = some (t, n)) : cont acc at_ (gets (k + 1) (l.drop at_)) = cont (acc ++ [t]) (at_ + n) (gets k (l.drop (at_ + n))) := by
  conv => lhs; unfold gets
  rw [h]
  simp only [List.drop_drop]
  rcases gets k (l.drop (at_ + n)) with _ | ⟨r, m⟩
  · rfl
  · simp [cont, Nat.add_assoc]
theorem cont_zero (acc : List (List Int)) (at_ : Nat) (l : List Int) : cont acc at_ (gets 0 (l.drop at_)) = some (acc, at_) := by simp [gets, cont]
theorem unpack_of {l : List Int} {u m : Nat} {most : Int} (h : getNum l = some ((u : Int), m)) (hm : ¬ most < u) : unpack l most = cont [] m (gets u (l.drop m)) := by
  unfold unpack
  rw [h]
  simp only [Int.toNat_natCast]
  rw [if_neg hm]
  rcases gets u (l.drop m) with _ | ⟨r, k⟩ <;> rfl
theorem unpack_big {l : List Int} {u : Int} {m : Nat} {most : Int} (h : getNum l = some (u, m)) (hm : most < u) : unpack l most = none := by
  unfold unpack
  rw [h]
  simp only []
  rw [if_pos hm]
theorem unpack_no {l : List Int} {most : Int} (h : getNum l = none) : unpack l most = none := by
  unfold unpack
  rw [h]
theorem BS.rest {w : World} {a : Option Addr} {n c : Nat} {l : List Int} (h : BS w a n l) (i : Nat) (hi : i ≤ n) (hc : n ≤ c) : BS w (slA a c i) (n - i) (l.drop i) := by
  have := h.cut i n c hi (Nat.le_refl _) hc
  rw [List.take_of_length_le (by rw [h.1]; exact Nat.le_refl _)] at this
  exact this

set_option maxHeartbeats 2000000 in
set_option maxRecDepth 100000 in
theorem unpack_arg (a : Option Addr) (n c : Nat) (most : Int) (w : World) (hm : most < 0 ∨ 1000 < most) :
    Calls Try.prog 43 #[.slice a n c, .int .i64 most] w fun e w' => e = .returned (.tuple #[.slice none 0 0, .int .i64 0, .int .i64 1]) ∧ w' = w := by
  rcases hm with h | h
  · go_enter Try.func43, Try.ntmps43
    go_wp2
    go_ret3
    exact ⟨rfl, rfl⟩
  · have h' : decide (most < 0) = false := by simp; omega
    go_enter Try.func43, Try.ntmps43
    go_wp2
    go_ret3
    exact ⟨rfl, rfl⟩

set_option maxHeartbeats 2000000 in
set_option maxRecDepth 100000 in
theorem unpack_any (a : Option Addr) (n c : Nat) (l : List Int) (most : Int) (w : World) (hA : BS w a n l) (hC : CP a n c) (hm0 : 0 ≤ most) (hm1 : most ≤ 1000) :
    Calls Try.prog 43 #[.slice a n c, .int .i64 most] w fun e w' => ((unpack l most = none ∧ e = .returned (.tuple #[.slice none 0 0, .int .i64 0, .int .i64 2])) ∨ ∃ (qs : List (Value × List Int)) (m : Nat) (v : Value), unpack l most = some (qs.map (·.2), m) ∧ e = .returned (.tuple #[v, .int .i64 (m : Int), .int .i64 0]) ∧ OwnP w.heap.size w' v qs) ∧ Below w.heap.size w w' := by
  have hcm : (c : Int) ≤ 9223372036854775807 := by have := hC.2.1; unfold maxLen at this; omega
  have hcn : (n : Int) ≤ (c : Int) := by have := hC.1; omega
  have HA := hide hA
  have HC := hide hC
  have hsl : ∀ i : Nat, (if c = i then a else Option.map (fun x => x.add i) a) = slA a c i := fun _ => rfl
  have hd0 : decide (most < 0) = false := by simp; omega
  clear hA hC
  go_enter Try.func43, Try.ntmps43
  go_wp2_with fail
  refine (getNum_any a n c l w HA.out HC.out).mono ?_
  rintro e w1 ⟨(⟨hg, rfl⟩ | ⟨x, m, hg, rfl⟩), rfl⟩
  · have hres := hide (unpack_no (most := most) hg)
    clear hg
    go_wp2
    go_ret3
    exact ⟨.inl ⟨hres.out, rfl⟩, Below.refl _ _⟩
  · obtain ⟨g0, g1, g2, g3, g4, g5, g6⟩ := getNum_some HA.out.2.2.1 hg
    obtain ⟨u, rfl⟩ := Int.eq_ofNat_of_zero_le g0
    have Hg := hide hg
    have hl := hide HA.out.1
    have hmn : (m : Int) ≤ (n : Int) := by have := hl.out; omega
    have hm9 : (m : Int) ≤ 9 := by omega
    clear g2 g3 g4 g5 g6 hg
    by_cases hu : most < (u : Int)
    · have hres := hide (unpack_big Hg.out hu)
      go_wp2
      go_ret3
      exact ⟨.inl ⟨hres.out, rfl⟩, Below.refl _ _⟩
    · have hres := hide (unpack_of Hg.out hu)
      have hu1 : (u : Int) ≤ 1000 := by omega
      clear g1
      go_wp2
      go_loopw [8, 10, 35] (fun at_ v i wr => ∃ (j p : Nat) (qs : List (Value × List Int)), j ≤ u ∧ i = .int .u64 (j : Int) ∧ at_ = .int .i64 (p : Int) ∧ p ≤ n ∧ qs.length = j ∧ Hid (unpack l most = cont (qs.map (·.2)) p (gets (u - j) (l.drop p))) ∧ Hid (OwnP w1.heap.size wr v qs) ∧ Hid (Below w1.heap.size w1 wr)) (fun _ _ i _ => u - (intOf i).toNat)
      case atStart => exact ⟨0, m, [], by omega, rfl, rfl, by omega, rfl, hres.out, OwnP.nil _ _, Below.refl _ _⟩
      case round =>
        obtain ⟨j, p, qs, hj, rfl, rfl, hp, hq, hun, hown, hbel⟩ := hrel
        have hsz := hbel.out.size
        have Hq := hide hq
        clear hq
        by_cases hlt : j < u
        · have hltI : (j : Int) < (u : Int) := by omega
          have hpI : (p : Int) ≤ (n : Int) := by omega
          have hpc : (p : Int) ≤ (c : Int) := by omega
          have hbs := hide ((HA.out.below hbel.out).rest (c := c) p hp (by omega))
          have hcp := hide (HC.out.cut p n (Nat.le_refl _) hp)
          obtain ⟨r, hr⟩ : ∃ r, u - j = r + 1 := ⟨u - j - 1, by omega⟩
          have hr2 : Hid (u - (j + 1) = r) := by show u - (j + 1) = r; omega
          rw [hr] at hun
          clear hr
          go_wp2_with fail
          refine (getText_any _ _ _ _ wr hbs.out hcp.out).mono ?_
          rintro e w2 ⟨(⟨hg, rfl⟩ | ⟨t, k, v2, hg, rfl, hown2⟩), hb2⟩
          · have hres2 : Hid (unpack l most = none) := by rw [hun.out, cont_none hg]; rfl
            have hbel2 := hide (hbel.out.trans (hb2.mono hsz))
            clear hg hb2 hown hbel
            go_wp2
            go_ret3
            exact ⟨.inl ⟨hres2.out, rfl⟩, hbel2.out⟩
          · have hun2 : Hid (unpack l most = cont ((qs ++ [(v2, t)]).map (·.2)) (p + k) (gets (u - (j + 1)) (l.drop (p + k)))) := by
              refine hide ?_
              rw [hun.out, cont_some hg, hr2.out]; simp
            obtain ⟨k1, k2, k3, k4, k5⟩ := getText_some (By.drop HA.out.2.2.1 p) hg
            rw [List.length_drop, hl.out] at k2
            have hpk : p + k ≤ n := by omega
            have hbel2 := hide (hbel.out.trans (hb2.mono hsz))
            have Hown := hide (hown.out.below hb2)
            have Hown2 := hide (hown2.mono hsz)
            have hby := hide k5
            obtain ⟨p2, cap2, rfl, _, _⟩ := hown2.open k5
            have hsz2 := hbel2.out.size
            have hkI : (p : Int) + (k : Int) ≤ 9223372036854775807 := by omega
            clear hg hb2 hown hown2 hbel hun k1 k2 k3 k4 k5
            go_wp2_with (at_builtin; refine Stop.at ?_)
            unfold Stop
            refine append_text rfl _ _ rfl w1.heap.size u10 qs (.slice p2 t.length cap2) t _ rfl rfl Hown.out Hown2.out hby.out rfl (by have := Hq.out; omega) hsz2 ?_
            intro v3 w3 hown3 hbel3
            have Hown3 := hide hown3
            have Hbel3 := hide (hbel3 w1 hbel2.out)
            clear hown3 hbel3 Hown Hown2
            go_wp2
            go_roundw
            case rel => exact ⟨j + 1, p + k, qs ++ [(_, t)], by omega, by go_num, by go_num, hpk, by have := Hq.out; simp; omega, hun2, Hown3, Hbel3⟩
            case measure => simp [intOf]; omega
        · have hju : j = u := by omega
          subst hju
          have hres2 : Hid (unpack l most = some (qs.map (·.2), p)) := by refine hide ?_; rw [hun.out, Nat.sub_self, cont_zero]
          go_wp2
          go_ret3
          exact ⟨.inr ⟨qs, p, _, hres2.out, rfl, hown.out⟩, hbel.out⟩
end Go.Proofs.Ytbeknlpoialgiaa
