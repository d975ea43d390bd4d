/- What 'GetRecord' does. -/
import Derived.Test.YtgmimneendnfgaaWEq
namespace Go.Proofs.Ytgmimneendnfgaa
open Go.RowKit
set_option linter.unusedVariables false

theorem Own.none (N : Nat) (w : World) : Own N w (.slice Option.none 0 0) [] := ⟨rfl, .inl ⟨rfl, rfl⟩⟩
theorem rec_cons (k : Int) (r : List Int) : getRecord (k :: r) = if k < 1 ∨ 200 < k then (0, [], 0, 2)
    else if (getSize r).2.2 ≠ 0 then (0, [], 0, (getSize r).2.2)
    else if (k :: r).length < 1 + (getSize r).2.1 + (getSize r).1.toNat + 4 then (0, [], 0, 3)
    else if ((k :: r).drop (1 + (getSize r).2.1 + (getSize r).1.toNat)).take 4 = be 4 (of [(k :: r).take (1 + (getSize r).2.1 + (getSize r).1.toNat)]) then
      (k, ((k :: r).drop (1 + (getSize r).2.1)).take (getSize r).1.toNat, 1 + (getSize r).2.1 + (getSize r).1.toNat + 4, 0)
    else (0, [], 0, 2) := rfl
theorem getSize_err {r : List Int} (h : ¬ (getSize r).2.2 = 0) : getSize r = (0, 0, 2) ∨ getSize r = (0, 0, 3) := by
  rcases r with _ | ⟨c, q⟩
  · exact .inr rfl
  · have e : getSize (c :: q) = if 3 < c ∨ ¬ nz (q.take c.toNat) ∨ 65536 < val (q.take c.toNat) * 256 ^ (c.toNat - q.length) then (0, 0, 2) else if q.length < c.toNat then (0, 0, 3) else (val (q.take c.toNat), 1 + c.toNat, 0) := rfl
    rw [e] at h ⊢
    split
    · exact .inl rfl
    · rename_i h1
      rw [if_neg h1] at h
      split
      · exact .inr rfl
      · rename_i h2
        rw [if_neg h2] at h
        exact absurd rfl h
theorem run_cut (W : World) (b o n c i h : Nat) (hi : i ≤ h) (hh : h ≤ c) (hc : ¬ c = i) (hm : (c : Int) ≤ 9223372036854775807) :
    (Instr.slice 27 (.slice (some ⟨b, o, none⟩) n c) (some (.int .i64 (i : Int))) (some (.int .i64 (h : Int))) none).run Try.prog W = .ok (.slice (some ⟨b, o + i, none⟩) (h - i) (c - i)) W := by
  have h1 : (i : Int) ≤ (h : Int) := by omega
  have h2 : (h : Int) ≤ (c : Int) := by omega
  have h3 : (i : Int) ≤ 9223372036854775807 := by omega
  have h4 : (h : Int) ≤ 9223372036854775807 := by omega
  go_simp
theorem getSize_nil : getSize [] = (0, 0, 3) := rfl

/-- What GetRecord's contract says. -/
def RecSays (l : List Int) (w : World) (e : Ending) (w' : World) : Prop :=
  ∃ v, e = .returned (.tuple #[.int .i64 (getRecord l).1, v, .int .i64 ((getRecord l).2.2.1 : Int), .int .i64 (getRecord l).2.2.2]) ∧ Own w.heap.size w' v (getRecord l).2.1 ∧ Below w.heap.size w w'
theorem RecSays.err {l : List Int} {w w' : World} {er : Int} (h : getRecord l = (0, [], 0, er)) (hb : Below w.heap.size w w') : RecSays l w (.returned (.tuple #[.int .i64 0, .slice none 0 0, .int .i64 0, .int .i64 er])) w' := by
  unfold RecSays
  rw [h]
  exact ⟨_, rfl, Own.none _ _, hb⟩
theorem RecSays.ok {l : List Int} {w w' : World} {k : Int} {t : List Int} {n : Nat} {v : Value} (h : getRecord l = (k, t, n, 0)) (ho : Own w.heap.size w' v t) (hb : Below w.heap.size w w') :
    RecSays l w (.returned (.tuple #[.int .i64 k, v, .int .i64 (n : Int), .int .i64 0])) w' := by
  unfold RecSays
  rw [h]
  exact ⟨_, rfl, ho, hb⟩

set_option maxHeartbeats 8000000 in
set_option maxRecDepth 100000 in
theorem getRec_any (a : Option Addr) (n c : Nat) (l : List Int) (w : World) (hA : BS w a n l) (hC : CP a n c) :
    Calls Try.prog 28 #[.slice a n c] w fun e w' => RecSays l w e w' := by
  rcases l with _ | ⟨y, r⟩
  · have hn : n = 0 := by have := hA.1; simpa using this.symm
    subst hn
    go_enter Try.func28, Try.ntmps28
    go_wp2
    refine bodyPost_ret (results_tmp4 rfl _ _ _) rfl ?_
    exact RecSays.err rfl (Below.refl _ _)
  · have HA := hide hA
    have HB : Hid (By r) := By.tail hA.2.2.1
    have HBl : Hid (By (y :: r)) := hA.2.2.1
    obtain ⟨b, o, rfl, qc, hy0, hy1, hn⟩ := hA.cell0
    have hn0 : ((n : Int) == 0) = false := by simp; omega
    have hmaxI : (n : Int) ≤ 9223372036854775807 := by have := hA.2.1; unfold maxLen at this; omega
    have hrl : r.length = n - 1 := by omega
    have Hrl := hide hrl
    have hnp : (1 : Int) ≤ n := by omega
    have hcn : (n : Int) ≤ c := by have := hC.1; omega
    have hcm : (c : Int) ≤ 9223372036854775807 := by have := hC.2.1; unfold maxLen at this; omega
    have HR := hide (rec_cons y r)
    clear hA hn hrl hC
    by_cases h1 : y < 1
    · have hres : Hid (getRecord (y :: r) = (0, [], 0, 2)) := by refine hide ?_; rw [HR.out, if_pos (.inl h1)]
      go_enter Try.func28, Try.ntmps28
      go_wp2
      refine bodyPost_ret (results_tmp4 rfl _ _ _) rfl ?_
      exact RecSays.err hres.out (Below.refl _ _)
    · have d1 : decide (y < 1) = false := by simp; omega
      by_cases h2 : 200 < y
      · have hres : Hid (getRecord (y :: r) = (0, [], 0, 2)) := by refine hide ?_; rw [HR.out, if_pos (.inr h2)]
        clear h1
        go_enter Try.func28, Try.ntmps28
        go_wp2
        refine bodyPost_ret (results_tmp4 rfl _ _ _) rfl ?_
        exact RecSays.err hres.out (Below.refl _ _)
      · have d2 : decide (200 < y) = false := by simp; omega
        have HR : Hid (getRecord (y :: r) = if (getSize r).2.2 ≠ 0 then (0, [], 0, (getSize r).2.2)
            else if (y :: r).length < 1 + (getSize r).2.1 + (getSize r).1.toNat + 4 then (0, [], 0, 3)
            else if ((y :: r).drop (1 + (getSize r).2.1 + (getSize r).1.toNat)).take 4 = be 4 (of [(y :: r).take (1 + (getSize r).2.1 + (getSize r).1.toNat)]) then
              (y, ((y :: r).drop (1 + (getSize r).2.1)).take (getSize r).1.toNat, 1 + (getSize r).2.1 + (getSize r).1.toNat + 4, 0)
            else (0, [], 0, 2)) := by refine hide ?_; rw [HR.out, if_neg (by omega)]
        clear h1 h2
        by_cases hc1 : c = 1
        · subst hc1
          have hn1 : n = 1 := by omega
          subst hn1
          obtain rfl : r = [] := List.eq_nil_of_length_eq_zero Hrl.out
          have hres : Hid (getRecord (y :: []) = (0, [], 0, 3)) := by refine hide ?_; rw [HR.out, getSize_nil, if_pos (by decide)]
          clear HR
          go_enter Try.func28, Try.ntmps28
          go_wp2_with fail
          refine (getSize_any _ 0 _ [] w (BS.nil _ _) ⟨by omega, by decide, fun h => by cases h⟩).mono ?_
          rw [getSize_nil]
          rintro e w' ⟨rfl, rfl⟩
          go_wp2
          refine bodyPost_ret (results_tmp4 rfl _ _ _) rfl ?_
          exact RecSays.err hres.out (Below.refl _ _)
        · have hbs : Hid (BS w (some ⟨b, o + 1, none⟩) (n - 1) r) := by
            have q1 := HA.out.at 1 (n - 1) (by omega)
            have q2 : (((y :: r).drop 1).take (n - 1)) = r := by
              show r.take (n - 1) = r
              exact List.take_of_length_le (by rw [Hrl.out]; exact Nat.le_refl _)
            rw [q2] at q1
            exact q1
          have hcp : Hid (CP (some ⟨b, o + 1, none⟩) (n - 1) (c - 1)) := CP.some (by omega) (by unfold maxLen; omega)
          by_cases he : (getSize r).2.2 = 0
          · obtain ⟨s, m, hgs, hs, hm1, hm4, hmr, hgn⟩ := getSize_ok HB.out he
            have hsI : (s : Int) ≤ 65536 := by omega
            have hmI : (m : Int) ≤ 4 := by omega
            have hmI1 : (1 : Int) ≤ m := by omega
            rw [hgs] at HR
            have Hgs := hide hgs
            obtain ⟨F, hF⟩ : ∃ F : Nat, 1 + m = F := ⟨_, rfl⟩
            obtain ⟨T, hT⟩ : ∃ T : Nat, F + s = T := ⟨_, rfl⟩
            have hFI : (1 : Int) + (m : Int) = (F : Int) := by omega
            have hTI : (F : Int) + (s : Int) = (T : Int) := by omega
            have HR : Hid (getRecord (y :: r) = if (y :: r).length < T + 4 then (0, [], 0, 3)
                else if ((y :: r).drop T).take 4 = be 4 (of [(y :: r).take T]) then (y, ((y :: r).drop F).take s, T + 4, 0)
                else (0, [], 0, 2)) := by
              refine hide ?_
              rw [HR.out]
              simp only [ne_eq, not_true_eq_false, if_false, Int.toNat_natCast, hF, hT]
            have HF := hide (And.intro hF hT)
            have Hlen : Hid ((y :: r).length = n) := HA.out.1
            have Hmr := hide hmr
            clear hs hm1 hm4 hmr hgn hgs he hF hT
            by_cases hlt : (n : Int) < (T : Int) + 4
            · have hres : Hid (getRecord (y :: r) = (0, [], 0, 3)) := by refine hide ?_; rw [HR.out, Hlen.out, if_pos (by omega)]
              clear HR
              go_enter Try.func28, Try.ntmps28
              go_wp2_with fail
              refine (getSize_any _ _ _ r w hbs.out hcp.out).mono ?_
              rw [Hgs.out]
              rintro e w' ⟨rfl, rfl⟩
              go_wp2
              refine bodyPost_ret (results_tmp4 rfl _ _ _) rfl ?_
              exact RecSays.err hres.out (Below.refl _ _)
            · have HR : Hid (getRecord (y :: r) = if ((y :: r).drop T).take 4 = be 4 (of [(y :: r).take T]) then (y, ((y :: r).drop F).take s, T + 4, 0) else (0, [], 0, 2)) := by
                refine hide ?_; rw [HR.out, Hlen.out, if_neg (by omega)]
              have hT4 : (T : Int) + 4 ≤ (c : Int) := by omega
              have hTc : (T : Int) ≤ (c : Int) := by omega
              have hTT : (T : Int) ≤ (T : Int) + 4 := by omega
              have hFT : (F : Int) ≤ (T : Int) := by omega
              have hcT : ¬ c = T := by omega
              have hcF : ¬ c = F := by omega
              have hb4 : Hid (BS w (some ⟨b, o + T, none⟩) 4 (((y :: r).drop T).take 4)) := HA.out.at T 4 (by omega)
              have hbT : Hid (BS w (some ⟨b, o, none⟩) T ((y :: r).take T)) := HA.out.head T (by omega)
              have hbF : Hid (BS w (some ⟨b, o + F, none⟩) s (((y :: r).drop F).take s)) := HA.out.at F s (by have := HF.out; omega)
              obtain ⟨E, hE⟩ : ∃ E : Nat, E = T + 4 := ⟨_, rfl⟩
              have hEI : (T : Int) + 4 = (E : Int) := by omega
              have hE1 : (T : Int) ≤ (E : Int) := by omega
              have hE2 : (E : Int) ≤ (c : Int) := by omega
              have hE3 : ¬ (n : Int) < (E : Int) := by omega
              have hE4 : (E : Int) ≤ 9223372036854775807 := by omega
              have hT9 : (T : Int) ≤ 9223372036854775807 := by omega
              have hwr : IntKind.i64.wrap (E : Int) = (E : Int) := by rw [IntKind.wrap_i64]; omega
              have hET : E - T = 4 := by omega
              have HE := hide hE
              have HET := hide hET
              have hb4 : Hid (BS w (some ⟨b, o + T, none⟩) (E - T) (((y :: r).drop T).take 4)) := by rw [hET]; exact hb4
              have h4p : Hid (0 < E - T) := by show 0 < E - T; omega
              clear hE hlt hET
              have hTF : T - F = s := by have := HF.out; omega
              rw [← hTF] at hbF
              have hTF2 : Hid (T - F ≤ 1000000) := by show T - F ≤ 1000000; omega
              have HTF := hide hTF
              clear hTF
              by_cases hd : ((y :: r).drop T).take 4 = be 4 (of [(y :: r).take T])
              · have hres : Hid (getRecord (y :: r) = (y, ((y :: r).drop F).take s, T + 4, 0)) := by refine hide ?_; rw [HR.out, if_pos hd]
                have Hd := hide (decide_eq_true hd)
                clear hd HR
                go_enter Try.func28, Try.ntmps28
                go_wp2_with fail
                refine (getSize_any _ _ _ r w hbs.out hcp.out).mono ?_
                rw [Hgs.out]
                rintro e w' ⟨rfl, rfl⟩
                go_wp2_with fail
                go_region_held3 (fun _ => True) (trivial) (first
                  | (go_at_call 34; refine (sumOf_any _ _ _ ((y :: r).take T) _ (by exact hbT.out.drew)).mono ?_; rintro e w2 ⟨v2, rfl, hown2, hb2⟩; obtain ⟨p2, c2, rfl, hbs2, hcp2⟩ := hown2.open (be_by _ _); simp only [be_len] at hbs2 ⊢; have HS := hide hbs2; have HZ := hide hb2; clear hown2 hbs2 hb2 hcp2)
                  | (go_at_call 37; refine (equal_as _ _ _ _ _ _ (((y :: r).drop T).take 4) (be 4 (of [(y :: r).take T])) _ true Hd.out (by exact hb4.out.drew.below HZ.out) (by exact HS.out) h4p.out (by omega)).mono ?_; rintro e w3 ⟨rfl, rfl⟩))
                have HZ2 : Hid (Below w'.heap.size w' w3) := (Below.refl _ w').drew.trans HZ.out
                clear HZ HS
                have qc2 : w3.cell? ⟨b, o, none⟩ = some (.int .u8 y) := by rw [HZ2.out.cell (World.block_lt_of_cell? w' _ qc)]; exact qc
                have hbF3 := hide (hbF.out.below HZ2.out)
                have hk0 : w3.drew.cell? ⟨b, o, none⟩ = some (.int .u8 y) ∧ Hid (Below w3.heap.size w3 w3.drew) := ⟨qc2, (Below.refl _ w3).drew⟩
                have hwy : IntKind.i64.wrap y = y := by rw [IntKind.wrap_i64]; omega
                have hnq : (0 : Int) < (n : Int) := by omega
                have hnr : 0 < n := by omega
                clear qc hbF hbT hb4 hbs HA
                go_wp2_with fail
                go_region_held3 (fun W => W.cell? ⟨b, o, none⟩ = some (.int .u8 y) ∧ Hid (Below w3.heap.size w3 W)) (first | exact hk1 | exact hk0) (first
                  | (go_at_call 33; refine (clone_any _ _ _ _ _ (by exact hbF3.out.held (by assumption)) (fun h => by cases h) hTF2.out).mono ?_; rintro e w4 ⟨v4, rfl, hown4, hb5⟩; have hk1 := held_next (by assumption) hb5; have HO := hide hown4; clear hown4 hb5))
                have hres2 := hres.out
                rw [← HE.out] at hres2
                have z := HZ2.out.size
                have ho := HO.out
                rw [HTF.out] at ho
                have hsay := RecSays.ok (w := w') hres2 (Own.mono ho (show w'.heap.size ≤ w3.drew.heap.size from z)) (HZ2.out.trans (hk1.2.out.mono z))
                have Hsay := hide hsay
                clear hsay hres2 hk1 hk0 ho
                go_wp2
                refine bodyPost_ret (results_tmp4 rfl _ _ _) rfl ?_
                exact Hsay.out
              · have hres : Hid (getRecord (y :: r) = (0, [], 0, 2)) := by refine hide ?_; rw [HR.out, if_neg hd]
                have Hd := hide (decide_eq_false hd)
                clear hd HR
                go_enter Try.func28, Try.ntmps28
                go_wp2_with fail
                refine (getSize_any _ _ _ r w hbs.out hcp.out).mono ?_
                rw [Hgs.out]
                rintro e w' ⟨rfl, rfl⟩
                go_wp2_with fail
                go_region_held3 (fun _ => True) (trivial) (first
                  | (go_at_call 34; refine (sumOf_any _ _ _ ((y :: r).take T) _ (by exact hbT.out.drew)).mono ?_; rintro e w2 ⟨v2, rfl, hown2, hb2⟩; obtain ⟨p2, c2, rfl, hbs2, hcp2⟩ := hown2.open (be_by _ _); simp only [be_len] at hbs2 ⊢; have HS := hide hbs2; have HZ := hide hb2; clear hown2 hbs2 hb2 hcp2)
                  | (go_at_call 37; refine (equal_as _ _ _ _ _ _ (((y :: r).drop T).take 4) (be 4 (of [(y :: r).take T])) _ false Hd.out (by exact hb4.out.drew.below HZ.out) (by exact HS.out) h4p.out (by omega)).mono ?_; rintro e w3 ⟨rfl, rfl⟩))
                have HZ2 : Hid (Below w'.heap.size w' w3) := (Below.refl _ w').drew.trans HZ.out
                clear HZ HS
                go_wp2
                refine bodyPost_ret (results_tmp4 rfl _ _ _) rfl ?_
                exact RecSays.err hres.out HZ2.out
          · rcases getSize_err he with hgs | hgs
            · have hres : Hid (getRecord (y :: r) = (0, [], 0, 2)) := by refine hide ?_; rw [HR.out, if_pos he, hgs]
              have Hgs := hide hgs
              clear HR he hgs
              go_enter Try.func28, Try.ntmps28
              go_wp2_with fail
              refine (getSize_any _ _ _ r w hbs.out hcp.out).mono ?_
              rw [Hgs.out]
              rintro e w' ⟨rfl, rfl⟩
              go_wp2
              refine bodyPost_ret (results_tmp4 rfl _ _ _) rfl ?_
              exact RecSays.err hres.out (Below.refl _ _)
            · have hres : Hid (getRecord (y :: r) = (0, [], 0, 3)) := by refine hide ?_; rw [HR.out, if_pos he, hgs]
              have Hgs := hide hgs
              clear HR he hgs
              go_enter Try.func28, Try.ntmps28
              go_wp2_with fail
              refine (getSize_any _ _ _ r w hbs.out hcp.out).mono ?_
              rw [Hgs.out]
              rintro e w' ⟨rfl, rfl⟩
              go_wp2
              refine bodyPost_ret (results_tmp4 rfl _ _ _) rfl ?_
              exact RecSays.err hres.out (Below.refl _ _)
end Go.Proofs.Ytgmimneendnfgaa
