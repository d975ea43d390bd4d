/- Texts of this claim, joined: GE3. -/
import Derived.Test.YtkbbegbpkndebaaGreatJ12
/- The document's Right and Same of layer 11. -/
namespace Go.Proofs.YtkbbegbpkndebaaGreat
open Go.RowKit Go.Lib
set_option linter.unusedVariables false
theorem AC.five {w : World} {b off n : Nat} {s : List Ac} (h : AC w (some ⟨b, off, none⟩) n s) (i : Nat) (hi : i < n) : ∃ (k : ByteArray) (g0 g1 g2 g3 g4 : Int), s[i]? = some (k, [g0, g1, g2, g3, g4]) ∧ w.cell? ⟨b, off + i * 6, none⟩ = some (.string k) ∧ w.cell? ⟨b, off + i * 6 + 1, none⟩ = some (.int .i64 g0) ∧ w.cell? ⟨b, off + i * 6 + 2, none⟩ = some (.int .i64 g1) ∧ w.cell? ⟨b, off + i * 6 + 3, none⟩ = some (.int .i64 g2) ∧ w.cell? ⟨b, off + i * 6 + 4, none⟩ = some (.int .i64 g3) ∧ w.cell? ⟨b, off + i * 6 + 5, none⟩ = some (.int .i64 g4) := by
  obtain ⟨k, g, hx, hg, c0, cj⟩ := h.at i hi
  match g, hg with
  | [g0, g1, g2, g3, g4], _ => exact ⟨k, g0, g1, g2, g3, g4, hx, c0, cj 0 (by omega), cj 1 (by omega), cj 2 (by omega), cj 3 (by omega), cj 4 (by omega)⟩
theorem mayAc_big {k : ByteArray} {g : List Int} {j : Nat} (h : ¬ (-1099511627776 ≤ atH g j ∧ atH g j ≤ 1099511627776)) : mayAc (k, g) = false := by
  rcases hb : mayAc (k, g) with _ | _
  · rfl
  · exact absurd (bd_of (mayAc_iff.1 hb).2.2.1 j) h
theorem mayAc_key {k : ByteArray} {g : List Int} (h : mayK k = false) : mayAc (k, g) = false := by
  unfold mayAc
  simp only
  rw [h]
  rfl
theorem part3 (w : World) (xs : Array Value) (j : Nat) (v : Value) (hx : xs[j]? = some v) : (part 3 xs j).run Tryz.prog w = .ok v w := by
  go_simp
theorem eql5 (d : Nat) (g0 g1 g2 g3 g4 h0 h1 h2 h3 h4 : Int) (w : World) : (Op.equalIn (d + 1 + 1) 132 (.agg #[.int .i64 g0, .int .i64 g1, .int .i64 g2, .int .i64 g3, .int .i64 g4]) (.agg #[.int .i64 h0, .int .i64 h1, .int .i64 h2, .int .i64 h3, .int .i64 h4])).run Tryz.prog w = .ok (g0 == h0 && (g1 == h1 && (g2 == h2 && (g3 == h3 && g4 == h4)))) w := by
  have hu : Tryz.prog.underlying 132 = some (.array 5 3) := by kernel_rfl
  have hi3 : Tryz.prog.underlying 3 = some (.int .i64) := by kernel_rfl
  have hs : (sizeOf 3).run Tryz.prog w = .ok 1 w := by kernel_rfl
  have he := fun a b => run_equalIn_int (P := Tryz.prog) w d 3 .i64 .i64 a b hi3
  rw [Op.equalIn]
  simp only [Sem.run_bind, run_underlying hu, Result.andThen_ok, hs]
  simp only [Std.Legacy.Range.forIn_eq_forIn_range', Std.Legacy.Range.size, Nat.sub_zero, Nat.add_one_sub_one, Nat.div_one]
  simp only [List.range', List.forIn_cons, Sem.run_bind, Nat.zero_add, Nat.mul_one, Nat.reduceAdd]
  rw [part3 w _ _ (.int .i64 g0) rfl]
  simp only [Result.andThen_ok]
  rw [part3 w _ _ (.int .i64 h0) rfl]
  simp only [Result.andThen_ok]
  rw [he]
  simp only [Result.andThen_ok]
  rcases e0 : (g0 == h0) with _ | _
  · simp
  simp only [Bool.not_true, Bool.false_eq_true, if_false, Sem.run_pure, Result.andThen_ok, Sem.run_bind]
  rw [part3 w _ _ (.int .i64 g1) rfl]
  simp only [Result.andThen_ok]
  rw [part3 w _ _ (.int .i64 h1) rfl]
  simp only [Result.andThen_ok]
  rw [he]
  simp only [Result.andThen_ok]
  rcases e1 : (g1 == h1) with _ | _
  · simp
  simp only [Bool.not_true, Bool.false_eq_true, if_false, Sem.run_pure, Result.andThen_ok, Sem.run_bind]
  rw [part3 w _ _ (.int .i64 g2) rfl]
  simp only [Result.andThen_ok]
  rw [part3 w _ _ (.int .i64 h2) rfl]
  simp only [Result.andThen_ok]
  rw [he]
  simp only [Result.andThen_ok]
  rcases e2 : (g2 == h2) with _ | _
  · simp
  simp only [Bool.not_true, Bool.false_eq_true, if_false, Sem.run_pure, Result.andThen_ok, Sem.run_bind]
  rw [part3 w _ _ (.int .i64 g3) rfl]
  simp only [Result.andThen_ok]
  rw [part3 w _ _ (.int .i64 h3) rfl]
  simp only [Result.andThen_ok]
  rw [he]
  simp only [Result.andThen_ok]
  rcases e3 : (g3 == h3) with _ | _
  · simp
  simp only [Bool.not_true, Bool.false_eq_true, if_false, Sem.run_pure, Result.andThen_ok, Sem.run_bind]
  rw [part3 w _ _ (.int .i64 g4) rfl]
  simp only [Result.andThen_ok]
  rw [part3 w _ _ (.int .i64 h4) rfl]
  simp only [Result.andThen_ok]
  rw [he]
  simp only [Result.andThen_ok]
  rcases e4 : (g4 == h4) with _ | _
  · simp
  · simp
set_option maxHeartbeats 4000000 in
theorem Same11_ref (a : Option Addr) (n cap : Nat) (s : List Ac) (a' : Option Addr) (n' cap' : Nat) (s' : List Ac) (w : World) (hA : AC w a n s) (hA' : AC w a' n' s') : Calls Tryz.prog 73 #[.slice a n cap, .slice a' n' cap'] w fun e w' => e = .returned (.bool (decide (s = s'))) ∧ Below w.heap.size w w' := by
  have HV := hide hA
  have HV' := hide hA'
  have HLEN := hide hA.1.1
  have HLEN' := hide hA'.1.1
  have hmx := hA.1.2.1
  unfold maxLen at hmx
  clear hA hA'
  by_cases hnn : n = n'
  · subst hnn
    go_enter Tryz.func73, Tryz.ntmps73
    go_wp2
    go_loopw [5] (fun v wr => ∃ k : Nat, k ≤ n ∧ v = .int .i64 k ∧ Hid (s.take k = s'.take k) ∧ Hid (Below w.heap.size w wr)) (fun v _ => n - (intOf v).toNat)
    case atStart => exact ⟨0, by omega, rfl, (show _ = _ by simp), Below.refl _ _⟩
    case round =>
      obtain ⟨k0, hk, rfl, HF, HB⟩ := hrel
      by_cases hlt : k0 < n
      · obtain ⟨b, off, rfl⟩ := HV.out.addr (by omega)
        obtain ⟨b', off', rfl⟩ := HV'.out.addr (by omega)
        obtain ⟨k, g0, g1, g2, g3, g4, hx, c0, c1, c2, c3, c4, c5⟩ := (HV.out.below HB.out).five k0 hlt
        obtain ⟨k', h0, h1, h2, h3, h4, hx', d0, d1, d2, d3, d4, d5⟩ := (HV'.out.below HB.out).five k0 hlt
        have hk0 : (0 : Int) ≤ (k0 : Int) := by omega
        have hk1 : (k0 : Int) < (n : Int) := by omega
        have hq := eqK k k'
        have HX := hide hx
        have HX' := hide hx'
        clear hx hx'
        by_cases he : k = k'
        · rw [decide_eq_true he] at hq
          subst he
          by_cases hm0 : g0 = h0
          · subst hm0
            by_cases hm1 : g1 = h1
            · subst hm1
              by_cases hm2 : g2 = h2
              · subst hm2
                by_cases hm3 : g3 = h3
                · subst hm3
                  by_cases hm4 : g4 = h4
                  · subst hm4
                    have hE : ∀ W, Sem.run Tryz.prog (Op.equalIn 9999 132 (.agg #[.int .i64 g0, .int .i64 g1, .int .i64 g2, .int .i64 g3, .int .i64 g4]) (.agg #[.int .i64 g0, .int .i64 g1, .int .i64 g2, .int .i64 g3, .int .i64 g4])) W = .ok true W := fun W => (eql5 9997 g0 g1 g2 g3 g4 g0 g1 g2 g3 g4 W).trans (by simp)
                    have HF2 : Hid (s.take (k0 + 1) = s'.take (k0 + 1)) := by unfold Hid; rw [takeG_snoc HX.out, takeG_snoc HX'.out, HF.out]
                    go_upto_region 6 with fail
                    refine wp_region_held_drew (S := fun W => Below wr.heap.size wr W) (by kernel_rfl) ((Below.refl _ wr).drew) (fun hS0 => ?_)
                    refine tkI 0 17 ?v82 rfl rfl hS0 ?hy82 ?_
                    case hy82 => (intro W hW; clear hW; go_simp; try rfl)
                    simp only [ly]
                    refine tkI 1 18 ?v83 rfl rfl hS0 ?hy83 ?_
                    case hy83 => (intro W hW; clear hW; go_simp; try rfl)
                    simp only [ly]
                    refine tkI 2 19 ?v84 rfl rfl hS0 ?hy84 ?_
                    case hy84 => (intro W hW; clear hW; go_simp; try rfl)
                    simp only [ly]
                    refine tkI 3 20 ?v85 rfl rfl hS0 ?hy85 ?_
                    case hy85 => (intro W hW; have e0 := bcell hW c0; have e1 := bcell hW c1; have e2 := bcell hW c2; have e3 := bcell hW c3; have e4 := bcell hW c4; have e5 := bcell hW c5; have e6 := bcell hW d0; have e7 := bcell hW d1; have e8 := bcell hW d2; have e9 := bcell hW d3; have e10 := bcell hW d4; have e11 := bcell hW d5; clear hW; go_simp; try rfl)
                    simp only [ly]
                    refine tkI 4 21 ?v86 rfl rfl hS0 ?hy86 ?_
                    case hy86 => (intro W hW; clear hW; go_simp; try rfl)
                    simp only [ly]
                    refine tkI 5 22 ?v87 rfl rfl hS0 ?hy87 ?_
                    case hy87 => (intro W hW; clear hW; go_simp; try rfl)
                    simp only [ly]
                    refine tkI 6 23 ?v88 rfl rfl hS0 ?hy88 ?_
                    case hy88 => (intro W hW; clear hW; go_simp; try rfl)
                    simp only [ly]
                    refine tkI 7 24 ?v89 rfl rfl hS0 ?hy89 ?_
                    case hy89 => (intro W hW; have e0 := bcell hW c0; have e1 := bcell hW c1; have e2 := bcell hW c2; have e3 := bcell hW c3; have e4 := bcell hW c4; have e5 := bcell hW c5; have e6 := bcell hW d0; have e7 := bcell hW d1; have e8 := bcell hW d2; have e9 := bcell hW d3; have e10 := bcell hW d4; have e11 := bcell hW d5; clear hW; go_simp; try rfl)
                    simp only [ly]
                    refine tkI 8 25 ?v90 rfl rfl hS0 ?hy90 ?_
                    case hy90 => (intro W hW; clear hW; go_simp; try rfl)
                    simp only [ly]
                    refine wpAnyH_done (by kernel_rfl) ?_ _
                    go_wp2
                    go_roundw
                    case rel => exact ⟨k0 + 1, by omega, by go_num, HF2, (show Hid _ from bel_next HB.out hS0)⟩
                    case measure => simp [intOf]; omega
                  · have HNO : Hid (decide (s = s') = false) := by
                      unfold Hid
                      rw [decide_eq_false_iff_not]
                      intro q
                      have h1 := HX.out
                      rw [q, HX'.out] at h1
                      cases h1
                      exact hm4 rfl
                    have hb4 : (g4 == h4) = false := by rw [beq_eq_false_iff_ne]; exact hm4
                    have hE : ∀ W, Sem.run Tryz.prog (Op.equalIn 9999 132 (.agg #[.int .i64 g0, .int .i64 g1, .int .i64 g2, .int .i64 g3, .int .i64 g4]) (.agg #[.int .i64 g0, .int .i64 g1, .int .i64 g2, .int .i64 g3, .int .i64 h4])) W = .ok false W := fun W => (eql5 9997 g0 g1 g2 g3 g4 g0 g1 g2 g3 h4 W).trans (by rw [hb4]; simp)
                    go_upto_region 6 with fail
                    refine wp_region_held_drew (S := fun W => Below wr.heap.size wr W) (by kernel_rfl) ((Below.refl _ wr).drew) (fun hS0 => ?_)
                    refine tkI 0 17 ?v91 rfl rfl hS0 ?hy91 ?_
                    case hy91 => (intro W hW; clear hW; go_simp; try rfl)
                    simp only [ly]
                    refine tkI 1 18 ?v92 rfl rfl hS0 ?hy92 ?_
                    case hy92 => (intro W hW; clear hW; go_simp; try rfl)
                    simp only [ly]
                    refine tkI 2 19 ?v93 rfl rfl hS0 ?hy93 ?_
                    case hy93 => (intro W hW; clear hW; go_simp; try rfl)
                    simp only [ly]
                    refine tkI 3 20 ?v94 rfl rfl hS0 ?hy94 ?_
                    case hy94 => (intro W hW; have e0 := bcell hW c0; have e1 := bcell hW c1; have e2 := bcell hW c2; have e3 := bcell hW c3; have e4 := bcell hW c4; have e5 := bcell hW c5; have e6 := bcell hW d0; have e7 := bcell hW d1; have e8 := bcell hW d2; have e9 := bcell hW d3; have e10 := bcell hW d4; have e11 := bcell hW d5; clear hW; go_simp; try rfl)
                    simp only [ly]
                    refine tkI 4 21 ?v95 rfl rfl hS0 ?hy95 ?_
                    case hy95 => (intro W hW; clear hW; go_simp; try rfl)
                    simp only [ly]
                    refine tkI 5 22 ?v96 rfl rfl hS0 ?hy96 ?_
                    case hy96 => (intro W hW; clear hW; go_simp; try rfl)
                    simp only [ly]
                    refine tkI 6 23 ?v97 rfl rfl hS0 ?hy97 ?_
                    case hy97 => (intro W hW; clear hW; go_simp; try rfl)
                    simp only [ly]
                    refine tkI 7 24 ?v98 rfl rfl hS0 ?hy98 ?_
                    case hy98 => (intro W hW; have e0 := bcell hW c0; have e1 := bcell hW c1; have e2 := bcell hW c2; have e3 := bcell hW c3; have e4 := bcell hW c4; have e5 := bcell hW c5; have e6 := bcell hW d0; have e7 := bcell hW d1; have e8 := bcell hW d2; have e9 := bcell hW d3; have e10 := bcell hW d4; have e11 := bcell hW d5; clear hW; go_simp; try rfl)
                    simp only [ly]
                    refine tkI 8 25 ?v99 rfl rfl hS0 ?hy99 ?_
                    case hy99 => (intro W hW; clear hW; go_simp; try rfl)
                    simp only [ly]
                    refine wpAnyH_done (by kernel_rfl) ?_ _
                    go_wp2
                    go_ret
                    exact ⟨by rw [HNO.out]; rfl, bel_next HB.out hS0⟩
                · have HNO : Hid (decide (s = s') = false) := by
                    unfold Hid
                    rw [decide_eq_false_iff_not]
                    intro q
                    have h1 := HX.out
                    rw [q, HX'.out] at h1
                    cases h1
                    exact hm3 rfl
                  have hb3 : (g3 == h3) = false := by rw [beq_eq_false_iff_ne]; exact hm3
                  have hE : ∀ W, Sem.run Tryz.prog (Op.equalIn 9999 132 (.agg #[.int .i64 g0, .int .i64 g1, .int .i64 g2, .int .i64 g3, .int .i64 g4]) (.agg #[.int .i64 g0, .int .i64 g1, .int .i64 g2, .int .i64 h3, .int .i64 h4])) W = .ok false W := fun W => (eql5 9997 g0 g1 g2 g3 g4 g0 g1 g2 h3 h4 W).trans (by rw [hb3]; simp)
                  go_upto_region 6 with fail
                  refine wp_region_held_drew (S := fun W => Below wr.heap.size wr W) (by kernel_rfl) ((Below.refl _ wr).drew) (fun hS0 => ?_)
                  refine tkI 0 17 ?v100 rfl rfl hS0 ?hy100 ?_
                  case hy100 => (intro W hW; clear hW; go_simp; try rfl)
                  simp only [ly]
                  refine tkI 1 18 ?v101 rfl rfl hS0 ?hy101 ?_
                  case hy101 => (intro W hW; clear hW; go_simp; try rfl)
                  simp only [ly]
                  refine tkI 2 19 ?v102 rfl rfl hS0 ?hy102 ?_
                  case hy102 => (intro W hW; clear hW; go_simp; try rfl)
                  simp only [ly]
                  refine tkI 3 20 ?v103 rfl rfl hS0 ?hy103 ?_
                  case hy103 => (intro W hW; have e0 := bcell hW c0; have e1 := bcell hW c1; have e2 := bcell hW c2; have e3 := bcell hW c3; have e4 := bcell hW c4; have e5 := bcell hW c5; have e6 := bcell hW d0; have e7 := bcell hW d1; have e8 := bcell hW d2; have e9 := bcell hW d3; have e10 := bcell hW d4; have e11 := bcell hW d5; clear hW; go_simp; try rfl)
                  simp only [ly]
                  refine tkI 4 21 ?v104 rfl rfl hS0 ?hy104 ?_
                  case hy104 => (intro W hW; clear hW; go_simp; try rfl)
                  simp only [ly]
                  refine tkI 5 22 ?v105 rfl rfl hS0 ?hy105 ?_
                  case hy105 => (intro W hW; clear hW; go_simp; try rfl)
                  simp only [ly]
                  refine tkI 6 23 ?v106 rfl rfl hS0 ?hy106 ?_
                  case hy106 => (intro W hW; clear hW; go_simp; try rfl)
                  simp only [ly]
                  refine tkI 7 24 ?v107 rfl rfl hS0 ?hy107 ?_
                  case hy107 => (intro W hW; have e0 := bcell hW c0; have e1 := bcell hW c1; have e2 := bcell hW c2; have e3 := bcell hW c3; have e4 := bcell hW c4; have e5 := bcell hW c5; have e6 := bcell hW d0; have e7 := bcell hW d1; have e8 := bcell hW d2; have e9 := bcell hW d3; have e10 := bcell hW d4; have e11 := bcell hW d5; clear hW; go_simp; try rfl)
                  simp only [ly]
                  refine tkI 8 25 ?v108 rfl rfl hS0 ?hy108 ?_
                  case hy108 => (intro W hW; clear hW; go_simp; try rfl)
                  simp only [ly]
                  refine wpAnyH_done (by kernel_rfl) ?_ _
                  go_wp2
                  go_ret
                  exact ⟨by rw [HNO.out]; rfl, bel_next HB.out hS0⟩
              · have HNO : Hid (decide (s = s') = false) := by
                  unfold Hid
                  rw [decide_eq_false_iff_not]
                  intro q
                  have h1 := HX.out
                  rw [q, HX'.out] at h1
                  cases h1
                  exact hm2 rfl
                have hb2 : (g2 == h2) = false := by rw [beq_eq_false_iff_ne]; exact hm2
                have hE : ∀ W, Sem.run Tryz.prog (Op.equalIn 9999 132 (.agg #[.int .i64 g0, .int .i64 g1, .int .i64 g2, .int .i64 g3, .int .i64 g4]) (.agg #[.int .i64 g0, .int .i64 g1, .int .i64 h2, .int .i64 h3, .int .i64 h4])) W = .ok false W := fun W => (eql5 9997 g0 g1 g2 g3 g4 g0 g1 h2 h3 h4 W).trans (by rw [hb2]; simp)
                go_upto_region 6 with fail
                refine wp_region_held_drew (S := fun W => Below wr.heap.size wr W) (by kernel_rfl) ((Below.refl _ wr).drew) (fun hS0 => ?_)
                refine tkI 0 17 ?v109 rfl rfl hS0 ?hy109 ?_
                case hy109 => (intro W hW; clear hW; go_simp; try rfl)
                simp only [ly]
                refine tkI 1 18 ?v110 rfl rfl hS0 ?hy110 ?_
                case hy110 => (intro W hW; clear hW; go_simp; try rfl)
                simp only [ly]
                refine tkI 2 19 ?v111 rfl rfl hS0 ?hy111 ?_
                case hy111 => (intro W hW; clear hW; go_simp; try rfl)
                simp only [ly]
                refine tkI 3 20 ?v112 rfl rfl hS0 ?hy112 ?_
                case hy112 => (intro W hW; have e0 := bcell hW c0; have e1 := bcell hW c1; have e2 := bcell hW c2; have e3 := bcell hW c3; have e4 := bcell hW c4; have e5 := bcell hW c5; have e6 := bcell hW d0; have e7 := bcell hW d1; have e8 := bcell hW d2; have e9 := bcell hW d3; have e10 := bcell hW d4; have e11 := bcell hW d5; clear hW; go_simp; try rfl)
                simp only [ly]
                refine tkI 4 21 ?v113 rfl rfl hS0 ?hy113 ?_
                case hy113 => (intro W hW; clear hW; go_simp; try rfl)
                simp only [ly]
                refine tkI 5 22 ?v114 rfl rfl hS0 ?hy114 ?_
                case hy114 => (intro W hW; clear hW; go_simp; try rfl)
                simp only [ly]
                refine tkI 6 23 ?v115 rfl rfl hS0 ?hy115 ?_
                case hy115 => (intro W hW; clear hW; go_simp; try rfl)
                simp only [ly]
                refine tkI 7 24 ?v116 rfl rfl hS0 ?hy116 ?_
                case hy116 => (intro W hW; have e0 := bcell hW c0; have e1 := bcell hW c1; have e2 := bcell hW c2; have e3 := bcell hW c3; have e4 := bcell hW c4; have e5 := bcell hW c5; have e6 := bcell hW d0; have e7 := bcell hW d1; have e8 := bcell hW d2; have e9 := bcell hW d3; have e10 := bcell hW d4; have e11 := bcell hW d5; clear hW; go_simp; try rfl)
                simp only [ly]
                refine tkI 8 25 ?v117 rfl rfl hS0 ?hy117 ?_
                case hy117 => (intro W hW; clear hW; go_simp; try rfl)
                simp only [ly]
                refine wpAnyH_done (by kernel_rfl) ?_ _
                go_wp2
                go_ret
                exact ⟨by rw [HNO.out]; rfl, bel_next HB.out hS0⟩
            · have HNO : Hid (decide (s = s') = false) := by
                unfold Hid
                rw [decide_eq_false_iff_not]
                intro q
                have h1 := HX.out
                rw [q, HX'.out] at h1
                cases h1
                exact hm1 rfl
              have hb1 : (g1 == h1) = false := by rw [beq_eq_false_iff_ne]; exact hm1
              have hE : ∀ W, Sem.run Tryz.prog (Op.equalIn 9999 132 (.agg #[.int .i64 g0, .int .i64 g1, .int .i64 g2, .int .i64 g3, .int .i64 g4]) (.agg #[.int .i64 g0, .int .i64 h1, .int .i64 h2, .int .i64 h3, .int .i64 h4])) W = .ok false W := fun W => (eql5 9997 g0 g1 g2 g3 g4 g0 h1 h2 h3 h4 W).trans (by rw [hb1]; simp)
              go_upto_region 6 with fail
              refine wp_region_held_drew (S := fun W => Below wr.heap.size wr W) (by kernel_rfl) ((Below.refl _ wr).drew) (fun hS0 => ?_)
              refine tkI 0 17 ?v118 rfl rfl hS0 ?hy118 ?_
              case hy118 => (intro W hW; clear hW; go_simp; try rfl)
              simp only [ly]
              refine tkI 1 18 ?v119 rfl rfl hS0 ?hy119 ?_
              case hy119 => (intro W hW; clear hW; go_simp; try rfl)
              simp only [ly]
              refine tkI 2 19 ?v120 rfl rfl hS0 ?hy120 ?_
              case hy120 => (intro W hW; clear hW; go_simp; try rfl)
              simp only [ly]
              refine tkI 3 20 ?v121 rfl rfl hS0 ?hy121 ?_
              case hy121 => (intro W hW; have e0 := bcell hW c0; have e1 := bcell hW c1; have e2 := bcell hW c2; have e3 := bcell hW c3; have e4 := bcell hW c4; have e5 := bcell hW c5; have e6 := bcell hW d0; have e7 := bcell hW d1; have e8 := bcell hW d2; have e9 := bcell hW d3; have e10 := bcell hW d4; have e11 := bcell hW d5; clear hW; go_simp; try rfl)
              simp only [ly]
              refine tkI 4 21 ?v122 rfl rfl hS0 ?hy122 ?_
              case hy122 => (intro W hW; clear hW; go_simp; try rfl)
              simp only [ly]
              refine tkI 5 22 ?v123 rfl rfl hS0 ?hy123 ?_
              case hy123 => (intro W hW; clear hW; go_simp; try rfl)
              simp only [ly]
              refine tkI 6 23 ?v124 rfl rfl hS0 ?hy124 ?_
              case hy124 => (intro W hW; clear hW; go_simp; try rfl)
              simp only [ly]
              refine tkI 7 24 ?v125 rfl rfl hS0 ?hy125 ?_
              case hy125 => (intro W hW; have e0 := bcell hW c0; have e1 := bcell hW c1; have e2 := bcell hW c2; have e3 := bcell hW c3; have e4 := bcell hW c4; have e5 := bcell hW c5; have e6 := bcell hW d0; have e7 := bcell hW d1; have e8 := bcell hW d2; have e9 := bcell hW d3; have e10 := bcell hW d4; have e11 := bcell hW d5; clear hW; go_simp; try rfl)
              simp only [ly]
              refine tkI 8 25 ?v126 rfl rfl hS0 ?hy126 ?_
              case hy126 => (intro W hW; clear hW; go_simp; try rfl)
              simp only [ly]
              refine wpAnyH_done (by kernel_rfl) ?_ _
              go_wp2
              go_ret
              exact ⟨by rw [HNO.out]; rfl, bel_next HB.out hS0⟩
          · have HNO : Hid (decide (s = s') = false) := by
              unfold Hid
              rw [decide_eq_false_iff_not]
              intro q
              have h1 := HX.out
              rw [q, HX'.out] at h1
              cases h1
              exact hm0 rfl
            have hb0 : (g0 == h0) = false := by rw [beq_eq_false_iff_ne]; exact hm0
            have hE : ∀ W, Sem.run Tryz.prog (Op.equalIn 9999 132 (.agg #[.int .i64 g0, .int .i64 g1, .int .i64 g2, .int .i64 g3, .int .i64 g4]) (.agg #[.int .i64 h0, .int .i64 h1, .int .i64 h2, .int .i64 h3, .int .i64 h4])) W = .ok false W := fun W => (eql5 9997 g0 g1 g2 g3 g4 h0 h1 h2 h3 h4 W).trans (by rw [hb0]; simp)
            go_upto_region 6 with fail
            refine wp_region_held_drew (S := fun W => Below wr.heap.size wr W) (by kernel_rfl) ((Below.refl _ wr).drew) (fun hS0 => ?_)
            refine tkI 0 17 ?v127 rfl rfl hS0 ?hy127 ?_
            case hy127 => (intro W hW; clear hW; go_simp; try rfl)
            simp only [ly]
            refine tkI 1 18 ?v128 rfl rfl hS0 ?hy128 ?_
            case hy128 => (intro W hW; clear hW; go_simp; try rfl)
            simp only [ly]
            refine tkI 2 19 ?v129 rfl rfl hS0 ?hy129 ?_
            case hy129 => (intro W hW; clear hW; go_simp; try rfl)
            simp only [ly]
            refine tkI 3 20 ?v130 rfl rfl hS0 ?hy130 ?_
            case hy130 => (intro W hW; have e0 := bcell hW c0; have e1 := bcell hW c1; have e2 := bcell hW c2; have e3 := bcell hW c3; have e4 := bcell hW c4; have e5 := bcell hW c5; have e6 := bcell hW d0; have e7 := bcell hW d1; have e8 := bcell hW d2; have e9 := bcell hW d3; have e10 := bcell hW d4; have e11 := bcell hW d5; clear hW; go_simp; try rfl)
            simp only [ly]
            refine tkI 4 21 ?v131 rfl rfl hS0 ?hy131 ?_
            case hy131 => (intro W hW; clear hW; go_simp; try rfl)
            simp only [ly]
            refine tkI 5 22 ?v132 rfl rfl hS0 ?hy132 ?_
            case hy132 => (intro W hW; clear hW; go_simp; try rfl)
            simp only [ly]
            refine tkI 6 23 ?v133 rfl rfl hS0 ?hy133 ?_
            case hy133 => (intro W hW; clear hW; go_simp; try rfl)
            simp only [ly]
            refine tkI 7 24 ?v134 rfl rfl hS0 ?hy134 ?_
            case hy134 => (intro W hW; have e0 := bcell hW c0; have e1 := bcell hW c1; have e2 := bcell hW c2; have e3 := bcell hW c3; have e4 := bcell hW c4; have e5 := bcell hW c5; have e6 := bcell hW d0; have e7 := bcell hW d1; have e8 := bcell hW d2; have e9 := bcell hW d3; have e10 := bcell hW d4; have e11 := bcell hW d5; clear hW; go_simp; try rfl)
            simp only [ly]
            refine tkI 8 25 ?v135 rfl rfl hS0 ?hy135 ?_
            case hy135 => (intro W hW; clear hW; go_simp; try rfl)
            simp only [ly]
            refine wpAnyH_done (by kernel_rfl) ?_ _
            go_wp2
            go_ret
            exact ⟨by rw [HNO.out]; rfl, bel_next HB.out hS0⟩
        · have HNO : Hid (decide (s = s') = false) := by
            unfold Hid
            rw [decide_eq_false_iff_not]
            intro q
            have h1 := HX.out
            rw [q, HX'.out] at h1
            cases h1
            exact he rfl
          rw [decide_eq_false he] at hq
          go_upto_region 6 with fail
          refine wp_region_held_drew (S := fun W => Below wr.heap.size wr W) (by kernel_rfl) ((Below.refl _ wr).drew) (fun hS0 => ?_)
          refine tkI 0 17 ?v136 rfl rfl hS0 ?hy136 ?_
          case hy136 => (intro W hW; clear hW; go_simp; try rfl)
          simp only [ly]
          refine tkI 1 18 ?v137 rfl rfl hS0 ?hy137 ?_
          case hy137 => (intro W hW; clear hW; go_simp; try rfl)
          simp only [ly]
          refine tkI 2 19 ?v138 rfl rfl hS0 ?hy138 ?_
          case hy138 => (intro W hW; clear hW; go_simp; try rfl)
          simp only [ly]
          refine tkI 3 20 ?v139 rfl rfl hS0 ?hy139 ?_
          case hy139 => (intro W hW; have e0 := bcell hW c0; have e1 := bcell hW c1; have e2 := bcell hW c2; have e3 := bcell hW c3; have e4 := bcell hW c4; have e5 := bcell hW c5; have e6 := bcell hW d0; have e7 := bcell hW d1; have e8 := bcell hW d2; have e9 := bcell hW d3; have e10 := bcell hW d4; have e11 := bcell hW d5; clear hW; go_simp; try rfl)
          simp only [ly]
          refine tkI 4 21 ?v140 rfl rfl hS0 ?hy140 ?_
          case hy140 => (intro W hW; clear hW; go_simp; try rfl)
          simp only [ly]
          refine tkI 5 22 ?v141 rfl rfl hS0 ?hy141 ?_
          case hy141 => (intro W hW; clear hW; go_simp; try rfl)
          simp only [ly]
          refine tkI 6 23 ?v142 rfl rfl hS0 ?hy142 ?_
          case hy142 => (intro W hW; clear hW; go_simp; try rfl)
          simp only [ly]
          refine tkI 7 24 ?v143 rfl rfl hS0 ?hy143 ?_
          case hy143 => (intro W hW; have e0 := bcell hW c0; have e1 := bcell hW c1; have e2 := bcell hW c2; have e3 := bcell hW c3; have e4 := bcell hW c4; have e5 := bcell hW c5; have e6 := bcell hW d0; have e7 := bcell hW d1; have e8 := bcell hW d2; have e9 := bcell hW d3; have e10 := bcell hW d4; have e11 := bcell hW d5; clear hW; go_simp; try rfl)
          simp only [ly]
          refine tkI 8 25 ?v144 rfl rfl hS0 ?hy144 ?_
          case hy144 => (intro W hW; clear hW; go_simp; try rfl)
          simp only [ly]
          refine wpAnyH_done (by kernel_rfl) ?_ _
          go_wp2
          go_ret
          exact ⟨by rw [HNO.out]; rfl, bel_next HB.out hS0⟩
      · obtain rfl : k0 = n := by omega
        have HR : Hid (s = s') := by
          have := HF.out
          rwa [List.take_of_length_le (by rw [HLEN.out]; exact Nat.le_refl _), List.take_of_length_le (by rw [HLEN'.out]; exact Nat.le_refl _)] at this
        clear HF
        go_wp2
        go_ret
        exact ⟨by rw [decide_eq_true HR.out]; rfl, HB.out⟩
  · have HNO : Hid (decide (s = s') = false) := by
      unfold Hid
      rw [decide_eq_false_iff_not]
      intro q
      have := HLEN.out
      rw [q, HLEN'.out] at this
      exact hnn this.symm
    have hnz : ¬ (n : Int) = (n' : Int) := by omega
    have hnb : ((n : Int) == (n' : Int)) = false := by rw [beq_eq_false_iff_ne]; exact hnz
    go_enter Tryz.func73, Tryz.ntmps73
    go_wp2
    go_ret
    exact ⟨by rw [HNO.out]; rfl, Below.refl _ _⟩
end Go.Proofs.YtkbbegbpkndebaaGreat

