/- What the document's 'GetRecord' does. -/
import Derived.Test.YtgmimneendnfgaaWRefRec
namespace Go.Proofs.Ytgmimneendnfgaa
open Go.RowKit
set_option linter.unusedVariables false

theorem rec_out {k : Int} {r : List Int} (h : k < 1 ∨ 200 < k) : getRecord (k :: r) = (0, [], 0, 2) := by rw [rec_cons, if_pos h]
theorem within_nil : within [] = true := rfl
theorem refGetNum_none (a : Option Addr) (n c : Nat) (l : List Int) (w : World) (hg : getNum l = none) (hA : BS w a n l) (hC : CP a n c) :
    Calls Try.prog 19 #[.slice a n c] w fun e w' => e = .returned (.tuple #[.int .u64 0, .int .i64 0]) ∧ Below w.heap.size w w' := by
  refine (refGetNum_any a n c l w hA hC).mono ?_
  rintro e w1 ⟨(⟨_, rfl⟩ | ⟨x, m, h, rfl⟩), hb⟩
  · exact ⟨rfl, hb⟩
  · rw [hg] at h; cases h
theorem refGetNum_is (a : Option Addr) (n c : Nat) (l : List Int) (w : World) (x : Int) (m : Nat) (hg : getNum l = some (x, m)) (hA : BS w a n l) (hC : CP a n c) :
    Calls Try.prog 19 #[.slice a n c] w fun e w' => e = .returned (.tuple #[.int .u64 x, .int .i64 (m : Int)]) ∧ Below w.heap.size w w' := by
  refine (refGetNum_any a n c l w hA hC).mono ?_
  rintro e w1 ⟨(⟨h, rfl⟩ | ⟨x, m, h, rfl⟩), hb⟩
  · rw [hg] at h; cases h
  · rw [hg] at h
    simp only [Option.some.injEq, Prod.mk.injEq] at h
    obtain ⟨rfl, rfl⟩ := h
    exact ⟨rfl, hb⟩

set_option maxHeartbeats 8000000 in
set_option maxRecDepth 100000 in
theorem refGetRec_any (a : Option Addr) (n c : Nat) (l : List Int) (w : World) (hA : BS w a n l) (hC : CP a n c) :
    Calls Try.prog 29 #[.slice a n c] w fun e w' => RecSays l w e w' := by
  rcases l with _ | ⟨y, r⟩
  · have hn : n = 0 := by have := hA.1; simpa using this.symm
    subst hn
    go_enter Try.func29, Try.ntmps29
    go_wp2
    refine bodyPost_ret (results_tmp4 rfl _ _ _) rfl ?_
    exact RecSays.err rfl (Below.refl _ _)
  · have HA := hide hA
    have HB : Hid (By r) := By.tail hA.2.2.1
    obtain ⟨b, o, rfl, qc, hy0, hy1, hn⟩ := hA.cell0
    have hn0 : ((n : Int) == 0) = false := by simp; omega
    have hmaxI : (n : Int) ≤ 9223372036854775807 := by have := hA.2.1; unfold maxLen at this; omega
    have hrl : r.length = n - 1 := by omega
    have Hrl := hide hrl
    have hnp : (1 : Int) ≤ n := by omega
    have hcn : (n : Int) ≤ c := by have := hC.1; omega
    have hcm : (c : Int) ≤ 9223372036854775807 := by have := hC.2.1; unfold maxLen at this; omega
    clear hA hn hrl hC
    by_cases h1 : y < 1
    · have hres := hide (rec_out (r := r) (.inl h1))
      go_enter Try.func29, Try.ntmps29
      go_wp2
      refine bodyPost_ret (results_tmp4 rfl _ _ _) rfl ?_
      exact RecSays.err hres.out (Below.refl _ _)
    · have d1 : decide (y < 1) = false := by simp; omega
      have H1 := hide h1
      by_cases h2 : 200 < y
      · have hres := hide (rec_out (r := r) (.inr h2))
        clear h1
        go_enter Try.func29, Try.ntmps29
        go_wp2
        refine bodyPost_ret (results_tmp4 rfl _ _ _) rfl ?_
        exact RecSays.err hres.out (Below.refl _ _)
      · have d2 : decide (200 < y) = false := by simp; omega
        have H2 := hide h2
        clear h1 h2
        by_cases hc1 : c = 1
        · subst hc1
          have hn1 : n = 1 := by omega
          subst hn1
          obtain rfl : r = [] := List.eq_nil_of_length_eq_zero Hrl.out
          have hres := hide (rec_within (k := y) HB.out H1.out H2.out within_nil)
          go_enter Try.func29, Try.ntmps29
          go_wp2_with fail
          refine (within_as _ 0 _ [] w true within_nil (BS.nil _ _) ⟨by omega, by decide, fun h => by cases h⟩).mono ?_
          rintro e w1 ⟨rfl, hb⟩
          have Hb := hide hb
          clear hb
          go_wp2
          refine bodyPost_ret (results_tmp4 rfl _ _ _) rfl ?_
          exact RecSays.err hres.out Hb.out
        · have hbs : Hid (BS w (some ⟨b, o + 1, none⟩) (n - 1) r) := by
            have q1 := HA.out.at 1 (n - 1) (by omega)
            have q2 : (((y :: r).drop 1).take (n - 1)) = r := by
              show r.take (n - 1) = r
              exact List.take_of_length_le (by rw [Hrl.out]; exact Nat.le_refl _)
            rw [q2] at q1
            exact q1
          have hcp : Hid (CP (some ⟨b, o + 1, none⟩) (n - 1) (c - 1)) := CP.some (by omega) (by unfold maxLen; omega)
          rcases hwi : within r with _ | _
          · have Hwi := hide hwi
            clear hwi
            rcases hgn : getNum r with _ | ⟨u, m⟩
            · have hres := hide (rec_none (k := y) HB.out H1.out H2.out Hwi.out hgn)
              have Hgn := hide hgn
              clear hgn
              go_enter Try.func29, Try.ntmps29
              go_wp2_with fail
              refine (within_as _ _ _ r w false Hwi.out hbs.out hcp.out).mono ?_
              rintro e w1 ⟨rfl, hb⟩
              have Hb := hide hb
              have hbs1 := hide (hbs.out.below hb)
              clear hb
              go_wp2_with fail
              refine (refGetNum_none _ _ _ r w1 Hgn.out hbs1.out hcp.out).mono ?_
              rintro e w2 ⟨rfl, hb⟩
              have Hb2 := hide (Hb.out.trans (hb.mono Hb.out.size))
              clear hb
              go_wp2
              refine bodyPost_ret (results_tmp4 rfl _ _ _) rfl ?_
              exact RecSays.err hres.out Hb2.out
            · obtain ⟨g0, g1, g2, g3, g4, g5, g6⟩ := getNum_some HB.out hgn
              have hm0 : ((m : Int) == 0) = false := by simp; omega
              have hm9 : (m : Int) ≤ 9 := by omega
              have hm1 : (1 : Int) ≤ (m : Int) := by omega
              have Hmr : Hid (m ≤ r.length) := g4
              clear g2 g3 g4 g5 g6
              by_cases hu : 65536 < u
              · have hres := hide (rec_big (k := y) HB.out H1.out H2.out Hwi.out hgn hu)
                have Hgn := hide hgn
                clear hgn
                go_enter Try.func29, Try.ntmps29
                go_wp2_with fail
                refine (within_as _ _ _ r w false Hwi.out hbs.out hcp.out).mono ?_
                rintro e w1 ⟨rfl, hb⟩
                have Hb := hide hb
                have hbs1 := hide (hbs.out.below hb)
                clear hb
                go_wp2_with fail
                refine (refGetNum_is _ _ _ r w1 u m Hgn.out hbs1.out hcp.out).mono ?_
                rintro e w2 ⟨rfl, hb⟩
                have Hb2 := hide (Hb.out.trans (hb.mono Hb.out.size))
                clear hb
                go_wp2
                refine bodyPost_ret (results_tmp4 rfl _ _ _) rfl ?_
                exact RecSays.err hres.out Hb2.out
              · obtain ⟨s, rfl⟩ := Int.eq_ofNat_of_zero_le g0
                have hs : s ≤ 65536 := by omega
                have hres := hide (rec_fits (k := y) HB.out H1.out H2.out hgn hs)
                have Hgn := hide hgn
                have dU : decide ((65536 : Int) < (s : Int)) = false := by simp; omega
                have hsI : (s : Int) ≤ 65536 := by omega
                have Hs := hide hs
                have hlen : Hid ((y :: r).length = n) := HA.out.1
                obtain ⟨F, hF⟩ : ∃ F : Nat, 1 + m = F := ⟨_, rfl⟩
                obtain ⟨T, hT⟩ : ∃ T : Nat, F + s = T := ⟨_, rfl⟩
                obtain ⟨E, hE⟩ : ∃ E : Nat, T + 4 = E := ⟨_, rfl⟩
                have hFI : (1 : Int) + (m : Int) = (F : Int) := by omega
                have hTI : (F : Int) + (s : Int) = (T : Int) := by omega
                have hEI : (T : Int) + 4 = (E : Int) := by omega
                rw [hlen.out, hF, hT, hE] at hres
                have HF := hide (And.intro hF (And.intro hT hE))
                clear hgn hu hs hF hT hE g0 g1
                by_cases hlt : (n : Int) < (E : Int)
                · have hres : Hid (getRecord (y :: r) = (0, [], 0, 3)) := by refine hide ?_; rw [hres.out, if_pos (by omega)]
                  go_enter Try.func29, Try.ntmps29
                  go_wp2_with fail
                  refine (within_as _ _ _ r w false Hwi.out hbs.out hcp.out).mono ?_
                  rintro e w1 ⟨rfl, hb⟩
                  have Hb := hide hb
                  have hbs1 := hide (hbs.out.below hb)
                  clear hb
                  go_wp2_with fail
                  refine (refGetNum_is _ _ _ r w1 s m Hgn.out hbs1.out hcp.out).mono ?_
                  rintro e w2 ⟨rfl, hb⟩
                  have Hb2 := hide (Hb.out.trans (hb.mono Hb.out.size))
                  clear hb
                  go_wp2
                  refine bodyPost_ret (results_tmp4 rfl _ _ _) rfl ?_
                  exact RecSays.err hres.out Hb2.out
                · have hres : Hid (getRecord (y :: r) = if record y (((y :: r).drop F).take s) = (y :: r).take E then (y, ((y :: r).drop F).take s, E, 0) else (0, [], 0, 2)) := by refine hide ?_; rw [hres.out, if_neg (by omega)]
                  have hEc : (E : Int) ≤ (c : Int) := by omega
                  have hET : (E : Int) - 4 = (T : Int) := by omega
                  have hTc : (T : Int) ≤ (c : Int) := by omega
                  have hFT : (F : Int) ≤ (T : Int) := by omega
                  have hcF : ¬ c = F := by omega
                  have hE4 : (E : Int) ≤ 9223372036854775807 := by omega
                  have hT9 : (T : Int) ≤ 9223372036854775807 := by omega
                  have hTF : T - F = s := by have := HF.out; omega
                  have hbE : Hid (BS w (some ⟨b, o, none⟩) E ((y :: r).take E)) := HA.out.head E (by omega)
                  have hbF : Hid (BS w (some ⟨b, o + F, none⟩) (T - F) (((y :: r).drop F).take s)) := by rw [hTF]; exact HA.out.at F s (by have := HF.out; omega)
                  have hbl : Hid ((((y :: r).drop F).take s).length = s) := by have := hbF.out.1; rw [hTF] at this; exact this
                  have hbB : Hid (By (((y :: r).drop F).take s)) := hbF.out.2.2.1
                  have HTF := hide hTF
                  have hwy : IntKind.i64.wrap y = y := by rw [IntKind.wrap_i64]; omega
                  have hnq : (0 : Int) < (n : Int) := by omega
                  have hnr : 0 < n := by omega
                  obtain ⟨t, ht⟩ : ∃ t, ((y :: r).drop F).take s = t := ⟨_, rfl⟩
                  rw [ht] at hres hbF hbl hbB
                  clear hTF ht
                  go_enter Try.func29, Try.ntmps29
                  go_wp2_with fail
                  refine (within_as _ _ _ r w false Hwi.out hbs.out hcp.out).mono ?_
                  rintro e w1 ⟨rfl, hb⟩
                  have Hb := hide hb
                  have hbs1 := hide (hbs.out.below hb)
                  clear hb
                  go_wp2_with fail
                  refine (refGetNum_is _ _ _ r w1 s m Hgn.out hbs1.out hcp.out).mono ?_
                  rintro e w2 ⟨rfl, hb⟩
                  have Hb2 := hide (Hb.out.trans (hb.mono Hb.out.size))
                  clear hb hbs1 Hb
                  go_wp2_with (at_builtin; refine Stop.at ?_)
                  unfold Stop
                  refine append_bytes rfl _ _ rfl w.heap.size _ [] t rfl (Own.made w2 w.heap.size _ rfl Hb2.out.size) _ (T - F) (c - F) rfl (by intro h; cases h) ((hbF.out.below Hb2.out).alloc _) (by have := hbl.out; have := Hs.out; simp; omega) (by have := Hb2.out.size; simp; omega) ?_
                  intro v w3 hown hgrow hbel
                  rw [List.nil_append] at hown
                  have HE3 := hide (hbel w (Hb2.out.alloc Hb2.out.size _))
                  obtain ⟨p3, c3, rfl, hb3, hc3⟩ := hown.open hbB.out
                  rw [hbl.out] at hb3 hc3 hown ⊢
                  have Hown := hide hown
                  have hbs3 := hide hb3
                  have hcp3 := hide hc3
                  have qc3 : w3.cell? ⟨b, o, none⟩ = some (.int .u8 y) := by rw [HE3.out.cell (World.block_lt_of_cell? w _ qc)]; exact qc
                  have hbE3 := hide (hbE.out.below HE3.out)
                  have hk0 : w3.drew.cell? ⟨b, o, none⟩ = some (.int .u8 y) ∧ Hid (Below w3.heap.size w3 w3.drew) := ⟨qc3, (Below.refl _ w3).drew⟩
                  have hy1' : Hid (1 ≤ y) := by have := H1.out; show 1 ≤ y; omega
                  have hy2' : Hid (y ≤ 200) := by have := H2.out; show y ≤ 200; omega
                  have Hrb := hide (record_by hy0 hy1 hbB.out)
                  clear hown hgrow hbel Hb2 hb3 hc3 qc hbE hbF hbs HA
                  by_cases hd : record y t = (y :: r).take E
                  · have hres : Hid (getRecord (y :: r) = (y, t, E, 0)) := by refine hide ?_; rw [hres.out, if_pos hd]
                    have Hd := hide (decide_eq_true hd)
                    clear hd
                    go_wp2_with fail
                    go_region_held3 (fun W => W.cell? ⟨b, o, none⟩ = some (.int .u8 y) ∧ Hid (Below w3.heap.size w3 W)) (first | exact hk2 | exact hk1 | exact hk0) (first
                      | (go_at_call 27; refine (refRecord_any y _ _ _ t _ (by exact hbs3.out.held (by assumption)) hcp3.out.2.2 hy1'.out hy2'.out Hs.out).mono ?_; rintro e w4 ⟨v4, rfl, hown4, hb4⟩; obtain ⟨p4, c4, rfl, hbs4, hcp4⟩ := hown4.open Hrb.out; have hk1 := held_next (by assumption) hb4; have HS := hide hbs4; clear hown4 hbs4 hcp4 hb4)
                      | (go_at_call 11; refine (bytes_as _ _ _ _ _ _ (record y t) ((y :: r).take E) _ true Hd.out (by exact HS.out) (by exact hbE3.out.held (by assumption))).mono ?_; rintro e w5 ⟨rfl, hb5⟩; have hk2 := held_next (by assumption) hb5; clear hb5))
                    have hk3 := hk2.2
                    have hk4 := hk2.1
                    clear hk0 hk1 HS
                    have Hsay := hide (RecSays.ok (w := w) hres.out (Own.below Hown.out hk3.out) (HE3.out.trans (hk3.out.mono HE3.out.size)))
                    clear hk2
                    go_wp2
                    refine bodyPost_ret (results_tmp4 rfl _ _ _) rfl ?_
                    exact Hsay.out
                  · have hres : Hid (getRecord (y :: r) = (0, [], 0, 2)) := by refine hide ?_; rw [hres.out, if_neg hd]
                    have Hd := hide (decide_eq_false hd)
                    clear hd
                    go_wp2_with fail
                    go_region_held3 (fun W => W.cell? ⟨b, o, none⟩ = some (.int .u8 y) ∧ Hid (Below w3.heap.size w3 W)) (first | exact hk2 | exact hk1 | exact hk0) (first
                      | (go_at_call 27; refine (refRecord_any y _ _ _ t _ (by exact hbs3.out.held (by assumption)) hcp3.out.2.2 hy1'.out hy2'.out Hs.out).mono ?_; rintro e w4 ⟨v4, rfl, hown4, hb4⟩; obtain ⟨p4, c4, rfl, hbs4, hcp4⟩ := hown4.open Hrb.out; have hk1 := held_next (by assumption) hb4; have HS := hide hbs4; clear hown4 hbs4 hcp4 hb4)
                      | (go_at_call 11; refine (bytes_as _ _ _ _ _ _ (record y t) ((y :: r).take E) _ false Hd.out (by exact HS.out) (by exact hbE3.out.held (by assumption))).mono ?_; rintro e w5 ⟨rfl, hb5⟩; have hk2 := held_next (by assumption) hb5; clear hb5))
                    have hk3 := hk2.2
                    clear hk0 hk1 HS
                    have Hsay := hide (RecSays.err (w := w) hres.out (HE3.out.trans (hk3.out.mono HE3.out.size)))
                    clear hk2
                    go_wp2
                    refine bodyPost_ret (results_tmp4 rfl _ _ _) rfl ?_
                    exact Hsay.out
          · have hres := hide (rec_within (k := y) HB.out H1.out H2.out hwi)
            have Hwi := hide hwi
            clear hwi
            go_enter Try.func29, Try.ntmps29
            go_wp2_with fail
            refine (within_as _ _ _ r w true Hwi.out hbs.out hcp.out).mono ?_
            rintro e w1 ⟨rfl, hb⟩
            have Hb := hide hb
            clear hb
            go_wp2
            refine bodyPost_ret (results_tmp4 rfl _ _ _) rfl ?_
            exact RecSays.err hres.out Hb.out
end Go.Proofs.Ytgmimneendnfgaa
