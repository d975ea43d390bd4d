/- For every bytes and every number: the statement 'WireGets' returns true, and its arguments read behind the call as they read before. No condition. -/
import Derived.Test.YtgmimneendnfgaaRows
import Derived.WalkKit
import Derived.ProofKit
import Derived.OpenShut
import Derived.ShutString
import Derived.ChangeOld
import Derived.Below
import Derived.SizedLaws
import Derived.Test.YtgmimneendnfgaaWOpen
namespace Go.Proofs.Ytgmimneendnfgaa.wireGets
open Go.ChangeShapes Go.WideShapes Go.ChangeAt Go.RowKit
set_option linter.unusedVariables false

theorem own : ownKnob Try.prog.godebug = none := by kernel_rfl
theorem laidOut : laidOutB Try.prog = true := by kernel_rfl

/-! ### The walk -/
theorem getText_no {l : List Int} (h : getNum l = none) : getText l = none := by unfold getText; rw [h]
theorem PC.nil (w : World) (a : Option Addr) : PC w a 0 [] := ⟨rfl, by decide, .inl rfl⟩
theorem packs_as (a b : Option Addr) (n c m d : Nat) (l k : List (List Int)) (w : World) (h : l = k) (hA : PC w a n l) (hB : PC w b m k) :
    Calls Try.prog 24 #[.slice a n c, .slice b m d] w fun e w' => e = .returned (.bool true) ∧ Below w.heap.size w w' := by
  have := packs_any a b n c m d l k w hA hB
  rw [show decide (l = k) = true from decide_eq_true h] at this
  exact this

set_option maxHeartbeats 16000000 in
set_option maxRecDepth 100000 in
theorem walk (v0 : Value) (a1 : Int) (w : World) (w0 : InB w v0) (w1 : (Lit.int .i64 a1).wf = true) :
    Calls Try.prog 4 #[v0, .int .i64 a1] w fun e w' => e = .returned (.bool true) ∧ Below w.heap.size w w' := by
  obtain ⟨a, len, cap, l, rfl, hB, hC, hbig⟩ := w0
  have HB := hide hB
  have HC := hide hC
  have Hl := hide hB.1
  have hcapI : (len : Int) ≤ (cap : Int) := by have := hC.1; omega
  have Hbig := hide hbig
  have hby := hide hB.2.2.1
  have Hw1 := hide w1
  clear hB hC hbig w1
  by_cases h3 : (3000 : Int) < (len : Int)
  · go_enter Try.func4, Try.ntmps4
    go_wp2_with fail
    refine (awake_any w).mono ?_
    rintro e w' ⟨rfl, hb⟩
    have Hb := hide hb
    clear hb
    go_wp2
    go_ret
    exact ⟨rfl, Hb.out⟩
  · rcases hgn : getNum l with _ | ⟨x, m⟩
    · have Hq0 := hide h3
      have Hgn := hide hgn
      clear hgn
      rcases hgt : getText l with _ | ⟨t, k⟩
      · have Hq1 := hide h3
        have Hgt := hide hgt
        clear hgt
        by_cases hmost : a1 < 0 ∨ 1000 < a1
        · have Hmost := hide hmost
          go_enter Try.func4, Try.ntmps4
          go_wp2_with fail
          refine (getNum_any a len cap l w HB.out HC.out).mono ?_
          rintro e w1 ⟨(⟨hg, rfl⟩ | ⟨x', m', hg, rfl⟩), rfl⟩
          rotate_left
          · rw [Hgn.out] at hg; cases hg
          · have H0 := hide hg
            clear hg
            go_wp2_with fail
            refine (refGetNum_any a len cap l w1 HB.out HC.out).mono ?_
            rintro e W1 ⟨(⟨hg, rfl⟩ | ⟨x', m', hg, rfl⟩), hb⟩
            rotate_left
            · rw [Hgn.out] at hg; cases hg
            · have H1 := hide hg
              have HB1 := hide (HB.out.below hb)
              have HZ1 := hide hb
              clear hg hb HB
              go_wp2_with fail
              refine (getText_any a len cap l W1 HB1.out HC.out).mono ?_
              rintro e W2 ⟨(⟨hg, rfl⟩ | ⟨t', k', v, hg, rfl, hown⟩), hb⟩
              rotate_left
              · rw [Hgt.out] at hg; cases hg
              · have H2 := hide hg
                have HB2 := hide (HB1.out.below hb)
                have HZ2 := hide (HZ1.out.trans (hb.mono HZ1.out.size))
                clear hg hb HB1 HZ1
                go_wp2_with fail
                refine (refGetText_any a len cap l W2 HB2.out HC.out).mono ?_
                rintro e W3 ⟨(⟨hg, rfl⟩ | ⟨t', k', v, hg, rfl, hown⟩), hb⟩
                rotate_left
                · rw [Hgt.out] at hg; cases hg
                · have H3 := hide hg
                  have HB3 := hide (HB2.out.below hb)
                  have HZ3 := hide (HZ2.out.trans (hb.mono HZ2.out.size))
                  clear hg hb HB2 HZ2
                  go_wp2_with fail
                  refine (bytes_as _ _ _ _ _ _ [] [] _ true rfl (BS.nil _ _) (BS.nil _ _)).mono ?_
                  rintro e W4 ⟨rfl, hb⟩
                  have HB4 := hide (HB3.out.below hb)
                  have HZ4 := hide (HZ3.out.trans (hb.mono HZ3.out.size))
                  clear hb HB3 HZ3
                  go_wp2_with fail
                  refine (unpack_arg a len cap a1 W4 Hmost.out).mono ?_
                  rintro e W5 ⟨rfl, rfl⟩
                  rcases Hmost.out with hlt | hgt
                  · clear hmost
                    go_wp2_with fail
                    refine (awake_any _).mono ?_
                    rintro e W9 ⟨rfl, hb⟩
                    have Hb := hide hb
                    clear hb
                    go_wp2
                    go_ret
                    exact ⟨rfl, HZ4.out.trans (Hb.out.mono HZ4.out.size)⟩
                  · have hd0 : decide (a1 < 0) = false := by simp; omega
                    clear hmost
                    go_wp2_with fail
                    refine (awake_any _).mono ?_
                    rintro e W9 ⟨rfl, hb⟩
                    have Hb := hide hb
                    clear hb
                    go_wp2
                    go_ret
                    exact ⟨rfl, HZ4.out.trans (Hb.out.mono HZ4.out.size)⟩
        · have hn0 : 0 ≤ a1 := by omega
          have hn1 : a1 ≤ 1000 := by omega
          have hd0 : decide (a1 < 0) = false := by simp; omega
          have hd1 : ¬ 1000 < a1 := by omega
          clear hmost
          rcases hup : unpack l a1 with _ | ⟨ps, j⟩
          · have Hup := hide hup
            clear hup
            go_enter Try.func4, Try.ntmps4
            go_wp2_with fail
            refine (getNum_any a len cap l w HB.out HC.out).mono ?_
            rintro e w1 ⟨(⟨hg, rfl⟩ | ⟨x', m', hg, rfl⟩), rfl⟩
            rotate_left
            · rw [Hgn.out] at hg; cases hg
            · have H0 := hide hg
              clear hg
              go_wp2_with fail
              refine (refGetNum_any a len cap l w1 HB.out HC.out).mono ?_
              rintro e W1 ⟨(⟨hg, rfl⟩ | ⟨x', m', hg, rfl⟩), hb⟩
              rotate_left
              · rw [Hgn.out] at hg; cases hg
              · have H1 := hide hg
                have HB1 := hide (HB.out.below hb)
                have HZ1 := hide hb
                clear hg hb HB
                go_wp2_with fail
                refine (getText_any a len cap l W1 HB1.out HC.out).mono ?_
                rintro e W2 ⟨(⟨hg, rfl⟩ | ⟨t', k', v, hg, rfl, hown⟩), hb⟩
                rotate_left
                · rw [Hgt.out] at hg; cases hg
                · have H2 := hide hg
                  have HB2 := hide (HB1.out.below hb)
                  have HZ2 := hide (HZ1.out.trans (hb.mono HZ1.out.size))
                  clear hg hb HB1 HZ1
                  go_wp2_with fail
                  refine (refGetText_any a len cap l W2 HB2.out HC.out).mono ?_
                  rintro e W3 ⟨(⟨hg, rfl⟩ | ⟨t', k', v, hg, rfl, hown⟩), hb⟩
                  rotate_left
                  · rw [Hgt.out] at hg; cases hg
                  · have H3 := hide hg
                    have HB3 := hide (HB2.out.below hb)
                    have HZ3 := hide (HZ2.out.trans (hb.mono HZ2.out.size))
                    clear hg hb HB2 HZ2
                    go_wp2_with fail
                    refine (bytes_as _ _ _ _ _ _ [] [] _ true rfl (BS.nil _ _) (BS.nil _ _)).mono ?_
                    rintro e W4 ⟨rfl, hb⟩
                    have HB4 := hide (HB3.out.below hb)
                    have HZ4 := hide (HZ3.out.trans (hb.mono HZ3.out.size))
                    clear hb HB3 HZ3
                    go_wp2_with fail
                    refine (unpack_any a len cap l a1 W4 HB4.out HC.out hn0 hn1).mono ?_
                    rintro e W5 ⟨(⟨hg, rfl⟩ | ⟨qs, j', v, hg, rfl, hown⟩), hb⟩
                    rotate_left
                    · rw [Hup.out] at hg; cases hg
                    · have H5 := hide hg
                      have HB5 := hide (HB4.out.below hb)
                      have HZ5 := hide (HZ4.out.trans (hb.mono HZ4.out.size))
                      clear hg hb HB4 HZ4
                      go_wp2_with fail
                      refine (refUnpack_any a len cap l a1 W5 HB5.out HC.out hn0 hn1).mono ?_
                      rintro e W6 ⟨(⟨hg, rfl⟩ | ⟨qs', j', v, hg, rfl, hown⟩), hb⟩
                      rotate_left
                      · rw [Hup.out] at hg; cases hg
                      · have H6 := hide hg
                        have HZ6 := hide (HZ5.out.trans (hb.mono HZ5.out.size))
                        clear hg hb HB5 HZ5
                        go_wp2_with fail
                        refine (packs_as _ _ _ _ _ _ [] [] _ rfl (PC.nil _ _) (PC.nil _ _)).mono ?_
                        rintro e W7 ⟨rfl, hb⟩
                        have HZ7 := hide (HZ6.out.trans (hb.mono HZ6.out.size))
                        clear hb HZ6
                        go_wp2_with fail
                        refine (awake_any _).mono ?_
                        rintro e W9 ⟨rfl, hb⟩
                        have Hb := hide hb
                        clear hb
                        go_wp2
                        go_ret
                        exact ⟨rfl, HZ7.out.trans (Hb.out.mono HZ7.out.size)⟩
          · rw [unpack_no Hgn.out] at hup; cases hup
      · rw [getText_no Hgn.out] at hgt; cases hgt
    · have Hq0 := hide h3
      obtain ⟨hx0, hx1, g2, g3, g4, g5, g6⟩ := getNum_some hby.out hgn
      have hm0 : (0 : Int) < (m : Int) := by omega
      have hm1 : ((m : Int) == 0) = false := by simp; omega
      have hm2 : ¬ m = 0 := by omega
      clear g2 g3 g4 g5 g6
      have Hgn := hide hgn
      clear hgn
      rcases hgt : getText l with _ | ⟨t, k⟩
      · have Hq1 := hide h3
        have Hgt := hide hgt
        clear hgt
        by_cases hmost : a1 < 0 ∨ 1000 < a1
        · have Hmost := hide hmost
          go_enter Try.func4, Try.ntmps4
          go_wp2_with fail
          refine (getNum_any a len cap l w HB.out HC.out).mono ?_
          rintro e w1 ⟨(⟨hg, rfl⟩ | ⟨x', m', hg, rfl⟩), rfl⟩
          · rw [Hgn.out] at hg; cases hg
          · obtain ⟨rfl, rfl⟩ : x = x' ∧ m = m' := by rw [Hgn.out] at hg; simpa using hg
            clear hg
            go_wp2_with fail
            refine (refGetNum_any a len cap l w1 HB.out HC.out).mono ?_
            rintro e W1 ⟨(⟨hg, rfl⟩ | ⟨x', m', hg, rfl⟩), hb⟩
            · rw [Hgn.out] at hg; cases hg
            · obtain ⟨rfl, rfl⟩ : x = x' ∧ m = m' := by rw [Hgn.out] at hg; simpa using hg
              have HB1 := hide (HB.out.below hb)
              have HZ1 := hide hb
              clear hg hb HB
              go_wp2_with fail
              refine (getText_any a len cap l W1 HB1.out HC.out).mono ?_
              rintro e W2 ⟨(⟨hg, rfl⟩ | ⟨t', k', v, hg, rfl, hown⟩), hb⟩
              rotate_left
              · rw [Hgt.out] at hg; cases hg
              · have H2 := hide hg
                have HB2 := hide (HB1.out.below hb)
                have HZ2 := hide (HZ1.out.trans (hb.mono HZ1.out.size))
                clear hg hb HB1 HZ1
                go_wp2_with fail
                refine (refGetText_any a len cap l W2 HB2.out HC.out).mono ?_
                rintro e W3 ⟨(⟨hg, rfl⟩ | ⟨t', k', v, hg, rfl, hown⟩), hb⟩
                rotate_left
                · rw [Hgt.out] at hg; cases hg
                · have H3 := hide hg
                  have HB3 := hide (HB2.out.below hb)
                  have HZ3 := hide (HZ2.out.trans (hb.mono HZ2.out.size))
                  clear hg hb HB2 HZ2
                  go_wp2_with fail
                  refine (bytes_as _ _ _ _ _ _ [] [] _ true rfl (BS.nil _ _) (BS.nil _ _)).mono ?_
                  rintro e W4 ⟨rfl, hb⟩
                  have HB4 := hide (HB3.out.below hb)
                  have HZ4 := hide (HZ3.out.trans (hb.mono HZ3.out.size))
                  clear hb HB3 HZ3
                  go_wp2_with fail
                  refine (unpack_arg a len cap a1 W4 Hmost.out).mono ?_
                  rintro e W5 ⟨rfl, rfl⟩
                  rcases Hmost.out with hlt | hgt
                  · clear hmost
                    go_wp2_with fail
                    refine (awake_any _).mono ?_
                    rintro e W9 ⟨rfl, hb⟩
                    have Hb := hide hb
                    clear hb
                    go_wp2
                    go_ret
                    exact ⟨rfl, HZ4.out.trans (Hb.out.mono HZ4.out.size)⟩
                  · have hd0 : decide (a1 < 0) = false := by simp; omega
                    clear hmost
                    go_wp2_with fail
                    refine (awake_any _).mono ?_
                    rintro e W9 ⟨rfl, hb⟩
                    have Hb := hide hb
                    clear hb
                    go_wp2
                    go_ret
                    exact ⟨rfl, HZ4.out.trans (Hb.out.mono HZ4.out.size)⟩
        · have hn0 : 0 ≤ a1 := by omega
          have hn1 : a1 ≤ 1000 := by omega
          have hd0 : decide (a1 < 0) = false := by simp; omega
          have hd1 : ¬ 1000 < a1 := by omega
          clear hmost
          rcases hup : unpack l a1 with _ | ⟨ps, j⟩
          · have Hup := hide hup
            clear hup
            go_enter Try.func4, Try.ntmps4
            go_wp2_with fail
            refine (getNum_any a len cap l w HB.out HC.out).mono ?_
            rintro e w1 ⟨(⟨hg, rfl⟩ | ⟨x', m', hg, rfl⟩), rfl⟩
            · rw [Hgn.out] at hg; cases hg
            · obtain ⟨rfl, rfl⟩ : x = x' ∧ m = m' := by rw [Hgn.out] at hg; simpa using hg
              clear hg
              go_wp2_with fail
              refine (refGetNum_any a len cap l w1 HB.out HC.out).mono ?_
              rintro e W1 ⟨(⟨hg, rfl⟩ | ⟨x', m', hg, rfl⟩), hb⟩
              · rw [Hgn.out] at hg; cases hg
              · obtain ⟨rfl, rfl⟩ : x = x' ∧ m = m' := by rw [Hgn.out] at hg; simpa using hg
                have HB1 := hide (HB.out.below hb)
                have HZ1 := hide hb
                clear hg hb HB
                go_wp2_with fail
                refine (getText_any a len cap l W1 HB1.out HC.out).mono ?_
                rintro e W2 ⟨(⟨hg, rfl⟩ | ⟨t', k', v, hg, rfl, hown⟩), hb⟩
                rotate_left
                · rw [Hgt.out] at hg; cases hg
                · have H2 := hide hg
                  have HB2 := hide (HB1.out.below hb)
                  have HZ2 := hide (HZ1.out.trans (hb.mono HZ1.out.size))
                  clear hg hb HB1 HZ1
                  go_wp2_with fail
                  refine (refGetText_any a len cap l W2 HB2.out HC.out).mono ?_
                  rintro e W3 ⟨(⟨hg, rfl⟩ | ⟨t', k', v, hg, rfl, hown⟩), hb⟩
                  rotate_left
                  · rw [Hgt.out] at hg; cases hg
                  · have H3 := hide hg
                    have HB3 := hide (HB2.out.below hb)
                    have HZ3 := hide (HZ2.out.trans (hb.mono HZ2.out.size))
                    clear hg hb HB2 HZ2
                    go_wp2_with fail
                    refine (bytes_as _ _ _ _ _ _ [] [] _ true rfl (BS.nil _ _) (BS.nil _ _)).mono ?_
                    rintro e W4 ⟨rfl, hb⟩
                    have HB4 := hide (HB3.out.below hb)
                    have HZ4 := hide (HZ3.out.trans (hb.mono HZ3.out.size))
                    clear hb HB3 HZ3
                    go_wp2_with fail
                    refine (unpack_any a len cap l a1 W4 HB4.out HC.out hn0 hn1).mono ?_
                    rintro e W5 ⟨(⟨hg, rfl⟩ | ⟨qs, j', v, hg, rfl, hown⟩), hb⟩
                    rotate_left
                    · rw [Hup.out] at hg; cases hg
                    · have H5 := hide hg
                      have HB5 := hide (HB4.out.below hb)
                      have HZ5 := hide (HZ4.out.trans (hb.mono HZ4.out.size))
                      clear hg hb HB4 HZ4
                      go_wp2_with fail
                      refine (refUnpack_any a len cap l a1 W5 HB5.out HC.out hn0 hn1).mono ?_
                      rintro e W6 ⟨(⟨hg, rfl⟩ | ⟨qs', j', v, hg, rfl, hown⟩), hb⟩
                      rotate_left
                      · rw [Hup.out] at hg; cases hg
                      · have H6 := hide hg
                        have HZ6 := hide (HZ5.out.trans (hb.mono HZ5.out.size))
                        clear hg hb HB5 HZ5
                        go_wp2_with fail
                        refine (packs_as _ _ _ _ _ _ [] [] _ rfl (PC.nil _ _) (PC.nil _ _)).mono ?_
                        rintro e W7 ⟨rfl, hb⟩
                        have HZ7 := hide (HZ6.out.trans (hb.mono HZ6.out.size))
                        clear hb HZ6
                        go_wp2_with fail
                        refine (awake_any _).mono ?_
                        rintro e W9 ⟨rfl, hb⟩
                        have Hb := hide hb
                        clear hb
                        go_wp2
                        go_ret
                        exact ⟨rfl, HZ7.out.trans (Hb.out.mono HZ7.out.size)⟩
          · have Hup := hide hup
            obtain ⟨u1, u2, u3, u4⟩ := unpack_some hby.out hup
            have hj0 : (0 : Int) < (j : Int) := by omega
            have hj1 : ((j : Int) == 0) = false := by simp; omega
            have hj2 : ¬ j = 0 := by omega
            clear u1 u2 u3 u4
            clear hup
            go_enter Try.func4, Try.ntmps4
            go_wp2_with fail
            refine (getNum_any a len cap l w HB.out HC.out).mono ?_
            rintro e w1 ⟨(⟨hg, rfl⟩ | ⟨x', m', hg, rfl⟩), rfl⟩
            · rw [Hgn.out] at hg; cases hg
            · obtain ⟨rfl, rfl⟩ : x = x' ∧ m = m' := by rw [Hgn.out] at hg; simpa using hg
              clear hg
              go_wp2_with fail
              refine (refGetNum_any a len cap l w1 HB.out HC.out).mono ?_
              rintro e W1 ⟨(⟨hg, rfl⟩ | ⟨x', m', hg, rfl⟩), hb⟩
              · rw [Hgn.out] at hg; cases hg
              · obtain ⟨rfl, rfl⟩ : x = x' ∧ m = m' := by rw [Hgn.out] at hg; simpa using hg
                have HB1 := hide (HB.out.below hb)
                have HZ1 := hide hb
                clear hg hb HB
                go_wp2_with fail
                refine (getText_any a len cap l W1 HB1.out HC.out).mono ?_
                rintro e W2 ⟨(⟨hg, rfl⟩ | ⟨t', k', v, hg, rfl, hown⟩), hb⟩
                rotate_left
                · rw [Hgt.out] at hg; cases hg
                · have H2 := hide hg
                  have HB2 := hide (HB1.out.below hb)
                  have HZ2 := hide (HZ1.out.trans (hb.mono HZ1.out.size))
                  clear hg hb HB1 HZ1
                  go_wp2_with fail
                  refine (refGetText_any a len cap l W2 HB2.out HC.out).mono ?_
                  rintro e W3 ⟨(⟨hg, rfl⟩ | ⟨t', k', v, hg, rfl, hown⟩), hb⟩
                  rotate_left
                  · rw [Hgt.out] at hg; cases hg
                  · have H3 := hide hg
                    have HB3 := hide (HB2.out.below hb)
                    have HZ3 := hide (HZ2.out.trans (hb.mono HZ2.out.size))
                    clear hg hb HB2 HZ2
                    go_wp2_with fail
                    refine (bytes_as _ _ _ _ _ _ [] [] _ true rfl (BS.nil _ _) (BS.nil _ _)).mono ?_
                    rintro e W4 ⟨rfl, hb⟩
                    have HB4 := hide (HB3.out.below hb)
                    have HZ4 := hide (HZ3.out.trans (hb.mono HZ3.out.size))
                    clear hb HB3 HZ3
                    go_wp2_with fail
                    refine (unpack_any a len cap l a1 W4 HB4.out HC.out hn0 hn1).mono ?_
                    rintro e W5 ⟨(⟨hg, rfl⟩ | ⟨qs, j', v, hg, rfl, hown⟩), hb⟩
                    · rw [Hup.out] at hg; cases hg
                    · obtain ⟨hqs, rfl⟩ : ps = qs.map (·.2) ∧ j = j' := by rw [Hup.out] at hg; simpa using hg
                      obtain ⟨p5, c5, rfl, hpc, hcc⟩ := hown.open
                      have HP5 := hide hpc
                      have Hqs := hide hqs
                      clear hown hpc hcc hqs
                      have HB5 := hide (HB4.out.below hb)
                      have HZ5 := hide (HZ4.out.trans (hb.mono HZ4.out.size))
                      clear hg hb HB4 HZ4
                      go_wp2_with fail
                      refine (refUnpack_any a len cap l a1 W5 HB5.out HC.out hn0 hn1).mono ?_
                      rintro e W6 ⟨(⟨hg, rfl⟩ | ⟨qs', j', v, hg, rfl, hown⟩), hb⟩
                      · rw [Hup.out] at hg; cases hg
                      · obtain ⟨hqs, rfl⟩ : ps = qs'.map (·.2) ∧ j = j' := by rw [Hup.out] at hg; simpa using hg
                        obtain ⟨p6, c6, rfl, hpc, hcc⟩ := hown.open
                        have HQ6 := hide hpc
                        have HP6 := hide (HP5.out.below hb)
                        have Hqe : Hid (qs.map (·.2) = qs'.map (·.2)) := Hqs.out.symm.trans hqs
                        clear hown hpc hcc hqs HP5
                        have HZ6 := hide (HZ5.out.trans (hb.mono HZ5.out.size))
                        clear hg hb HB5 HZ5
                        go_wp2_with fail
                        refine (packs_as _ _ _ _ _ _ _ _ _ Hqe.out HP6.out HQ6.out).mono ?_
                        rintro e W7 ⟨rfl, hb⟩
                        have HZ7 := hide (HZ6.out.trans (hb.mono HZ6.out.size))
                        clear hb HZ6
                        go_wp2_with fail
                        refine (awake_any _).mono ?_
                        rintro e W9 ⟨rfl, hb⟩
                        have Hb := hide hb
                        clear hb
                        go_wp2
                        go_ret
                        exact ⟨rfl, HZ7.out.trans (Hb.out.mono HZ7.out.size)⟩
      · have Hq1 := hide h3
        obtain ⟨t1, t2, t3, t4, t5⟩ := getText_some hby.out hgt
        have hk0 : (0 : Int) < (k : Int) := by omega
        have hk1 : ((k : Int) == 0) = false := by simp; omega
        have hk2 : ¬ k = 0 := by omega
        have ht5 := hide t5
        clear t1 t2 t3 t4 t5
        have Hgt := hide hgt
        clear hgt
        by_cases hmost : a1 < 0 ∨ 1000 < a1
        · have Hmost := hide hmost
          go_enter Try.func4, Try.ntmps4
          go_wp2_with fail
          refine (getNum_any a len cap l w HB.out HC.out).mono ?_
          rintro e w1 ⟨(⟨hg, rfl⟩ | ⟨x', m', hg, rfl⟩), rfl⟩
          · rw [Hgn.out] at hg; cases hg
          · obtain ⟨rfl, rfl⟩ : x = x' ∧ m = m' := by rw [Hgn.out] at hg; simpa using hg
            clear hg
            go_wp2_with fail
            refine (refGetNum_any a len cap l w1 HB.out HC.out).mono ?_
            rintro e W1 ⟨(⟨hg, rfl⟩ | ⟨x', m', hg, rfl⟩), hb⟩
            · rw [Hgn.out] at hg; cases hg
            · obtain ⟨rfl, rfl⟩ : x = x' ∧ m = m' := by rw [Hgn.out] at hg; simpa using hg
              have HB1 := hide (HB.out.below hb)
              have HZ1 := hide hb
              clear hg hb HB
              go_wp2_with fail
              refine (getText_any a len cap l W1 HB1.out HC.out).mono ?_
              rintro e W2 ⟨(⟨hg, rfl⟩ | ⟨t', k', v, hg, rfl, hown⟩), hb⟩
              · rw [Hgt.out] at hg; cases hg
              · obtain ⟨rfl, rfl⟩ : t = t' ∧ k = k' := by rw [Hgt.out] at hg; simpa using hg
                obtain ⟨p1, c1, rfl, hbs1, hcp1⟩ := hown.open ht5.out
                have HT2 := hide hbs1
                clear hown hbs1 hcp1
                have HB2 := hide (HB1.out.below hb)
                have HZ2 := hide (HZ1.out.trans (hb.mono HZ1.out.size))
                clear hg hb HB1 HZ1
                go_wp2_with fail
                refine (refGetText_any a len cap l W2 HB2.out HC.out).mono ?_
                rintro e W3 ⟨(⟨hg, rfl⟩ | ⟨t', k', v, hg, rfl, hown⟩), hb⟩
                · rw [Hgt.out] at hg; cases hg
                · obtain ⟨rfl, rfl⟩ : t = t' ∧ k = k' := by rw [Hgt.out] at hg; simpa using hg
                  obtain ⟨p2, c2, rfl, hbs2, hcp2⟩ := hown.open ht5.out
                  have HS3 := hide hbs2
                  have HT3 := hide (HT2.out.below hb)
                  clear hown hbs2 hcp2 HT2
                  have HB3 := hide (HB2.out.below hb)
                  have HZ3 := hide (HZ2.out.trans (hb.mono HZ2.out.size))
                  clear hg hb HB2 HZ2
                  go_wp2_with fail
                  refine (bytes_as _ _ _ _ _ _ t t _ true (by simp) HT3.out HS3.out).mono ?_
                  rintro e W4 ⟨rfl, hb⟩
                  have HB4 := hide (HB3.out.below hb)
                  have HZ4 := hide (HZ3.out.trans (hb.mono HZ3.out.size))
                  clear hb HB3 HZ3
                  go_wp2_with fail
                  refine (unpack_arg a len cap a1 W4 Hmost.out).mono ?_
                  rintro e W5 ⟨rfl, rfl⟩
                  rcases Hmost.out with hlt | hgt
                  · clear hmost
                    go_wp2_with fail
                    refine (awake_any _).mono ?_
                    rintro e W9 ⟨rfl, hb⟩
                    have Hb := hide hb
                    clear hb
                    go_wp2
                    go_ret
                    exact ⟨rfl, HZ4.out.trans (Hb.out.mono HZ4.out.size)⟩
                  · have hd0 : decide (a1 < 0) = false := by simp; omega
                    clear hmost
                    go_wp2_with fail
                    refine (awake_any _).mono ?_
                    rintro e W9 ⟨rfl, hb⟩
                    have Hb := hide hb
                    clear hb
                    go_wp2
                    go_ret
                    exact ⟨rfl, HZ4.out.trans (Hb.out.mono HZ4.out.size)⟩
        · have hn0 : 0 ≤ a1 := by omega
          have hn1 : a1 ≤ 1000 := by omega
          have hd0 : decide (a1 < 0) = false := by simp; omega
          have hd1 : ¬ 1000 < a1 := by omega
          clear hmost
          rcases hup : unpack l a1 with _ | ⟨ps, j⟩
          · have Hup := hide hup
            clear hup
            go_enter Try.func4, Try.ntmps4
            go_wp2_with fail
            refine (getNum_any a len cap l w HB.out HC.out).mono ?_
            rintro e w1 ⟨(⟨hg, rfl⟩ | ⟨x', m', hg, rfl⟩), rfl⟩
            · rw [Hgn.out] at hg; cases hg
            · obtain ⟨rfl, rfl⟩ : x = x' ∧ m = m' := by rw [Hgn.out] at hg; simpa using hg
              clear hg
              go_wp2_with fail
              refine (refGetNum_any a len cap l w1 HB.out HC.out).mono ?_
              rintro e W1 ⟨(⟨hg, rfl⟩ | ⟨x', m', hg, rfl⟩), hb⟩
              · rw [Hgn.out] at hg; cases hg
              · obtain ⟨rfl, rfl⟩ : x = x' ∧ m = m' := by rw [Hgn.out] at hg; simpa using hg
                have HB1 := hide (HB.out.below hb)
                have HZ1 := hide hb
                clear hg hb HB
                go_wp2_with fail
                refine (getText_any a len cap l W1 HB1.out HC.out).mono ?_
                rintro e W2 ⟨(⟨hg, rfl⟩ | ⟨t', k', v, hg, rfl, hown⟩), hb⟩
                · rw [Hgt.out] at hg; cases hg
                · obtain ⟨rfl, rfl⟩ : t = t' ∧ k = k' := by rw [Hgt.out] at hg; simpa using hg
                  obtain ⟨p1, c1, rfl, hbs1, hcp1⟩ := hown.open ht5.out
                  have HT2 := hide hbs1
                  clear hown hbs1 hcp1
                  have HB2 := hide (HB1.out.below hb)
                  have HZ2 := hide (HZ1.out.trans (hb.mono HZ1.out.size))
                  clear hg hb HB1 HZ1
                  go_wp2_with fail
                  refine (refGetText_any a len cap l W2 HB2.out HC.out).mono ?_
                  rintro e W3 ⟨(⟨hg, rfl⟩ | ⟨t', k', v, hg, rfl, hown⟩), hb⟩
                  · rw [Hgt.out] at hg; cases hg
                  · obtain ⟨rfl, rfl⟩ : t = t' ∧ k = k' := by rw [Hgt.out] at hg; simpa using hg
                    obtain ⟨p2, c2, rfl, hbs2, hcp2⟩ := hown.open ht5.out
                    have HS3 := hide hbs2
                    have HT3 := hide (HT2.out.below hb)
                    clear hown hbs2 hcp2 HT2
                    have HB3 := hide (HB2.out.below hb)
                    have HZ3 := hide (HZ2.out.trans (hb.mono HZ2.out.size))
                    clear hg hb HB2 HZ2
                    go_wp2_with fail
                    refine (bytes_as _ _ _ _ _ _ t t _ true (by simp) HT3.out HS3.out).mono ?_
                    rintro e W4 ⟨rfl, hb⟩
                    have HB4 := hide (HB3.out.below hb)
                    have HZ4 := hide (HZ3.out.trans (hb.mono HZ3.out.size))
                    clear hb HB3 HZ3
                    go_wp2_with fail
                    refine (unpack_any a len cap l a1 W4 HB4.out HC.out hn0 hn1).mono ?_
                    rintro e W5 ⟨(⟨hg, rfl⟩ | ⟨qs, j', v, hg, rfl, hown⟩), hb⟩
                    rotate_left
                    · rw [Hup.out] at hg; cases hg
                    · have H5 := hide hg
                      have HB5 := hide (HB4.out.below hb)
                      have HZ5 := hide (HZ4.out.trans (hb.mono HZ4.out.size))
                      clear hg hb HB4 HZ4
                      go_wp2_with fail
                      refine (refUnpack_any a len cap l a1 W5 HB5.out HC.out hn0 hn1).mono ?_
                      rintro e W6 ⟨(⟨hg, rfl⟩ | ⟨qs', j', v, hg, rfl, hown⟩), hb⟩
                      rotate_left
                      · rw [Hup.out] at hg; cases hg
                      · have H6 := hide hg
                        have HZ6 := hide (HZ5.out.trans (hb.mono HZ5.out.size))
                        clear hg hb HB5 HZ5
                        go_wp2_with fail
                        refine (packs_as _ _ _ _ _ _ [] [] _ rfl (PC.nil _ _) (PC.nil _ _)).mono ?_
                        rintro e W7 ⟨rfl, hb⟩
                        have HZ7 := hide (HZ6.out.trans (hb.mono HZ6.out.size))
                        clear hb HZ6
                        go_wp2_with fail
                        refine (awake_any _).mono ?_
                        rintro e W9 ⟨rfl, hb⟩
                        have Hb := hide hb
                        clear hb
                        go_wp2
                        go_ret
                        exact ⟨rfl, HZ7.out.trans (Hb.out.mono HZ7.out.size)⟩
          · have Hup := hide hup
            obtain ⟨u1, u2, u3, u4⟩ := unpack_some hby.out hup
            have hj0 : (0 : Int) < (j : Int) := by omega
            have hj1 : ((j : Int) == 0) = false := by simp; omega
            have hj2 : ¬ j = 0 := by omega
            clear u1 u2 u3 u4
            clear hup
            go_enter Try.func4, Try.ntmps4
            go_wp2_with fail
            refine (getNum_any a len cap l w HB.out HC.out).mono ?_
            rintro e w1 ⟨(⟨hg, rfl⟩ | ⟨x', m', hg, rfl⟩), rfl⟩
            · rw [Hgn.out] at hg; cases hg
            · obtain ⟨rfl, rfl⟩ : x = x' ∧ m = m' := by rw [Hgn.out] at hg; simpa using hg
              clear hg
              go_wp2_with fail
              refine (refGetNum_any a len cap l w1 HB.out HC.out).mono ?_
              rintro e W1 ⟨(⟨hg, rfl⟩ | ⟨x', m', hg, rfl⟩), hb⟩
              · rw [Hgn.out] at hg; cases hg
              · obtain ⟨rfl, rfl⟩ : x = x' ∧ m = m' := by rw [Hgn.out] at hg; simpa using hg
                have HB1 := hide (HB.out.below hb)
                have HZ1 := hide hb
                clear hg hb HB
                go_wp2_with fail
                refine (getText_any a len cap l W1 HB1.out HC.out).mono ?_
                rintro e W2 ⟨(⟨hg, rfl⟩ | ⟨t', k', v, hg, rfl, hown⟩), hb⟩
                · rw [Hgt.out] at hg; cases hg
                · obtain ⟨rfl, rfl⟩ : t = t' ∧ k = k' := by rw [Hgt.out] at hg; simpa using hg
                  obtain ⟨p1, c1, rfl, hbs1, hcp1⟩ := hown.open ht5.out
                  have HT2 := hide hbs1
                  clear hown hbs1 hcp1
                  have HB2 := hide (HB1.out.below hb)
                  have HZ2 := hide (HZ1.out.trans (hb.mono HZ1.out.size))
                  clear hg hb HB1 HZ1
                  go_wp2_with fail
                  refine (refGetText_any a len cap l W2 HB2.out HC.out).mono ?_
                  rintro e W3 ⟨(⟨hg, rfl⟩ | ⟨t', k', v, hg, rfl, hown⟩), hb⟩
                  · rw [Hgt.out] at hg; cases hg
                  · obtain ⟨rfl, rfl⟩ : t = t' ∧ k = k' := by rw [Hgt.out] at hg; simpa using hg
                    obtain ⟨p2, c2, rfl, hbs2, hcp2⟩ := hown.open ht5.out
                    have HS3 := hide hbs2
                    have HT3 := hide (HT2.out.below hb)
                    clear hown hbs2 hcp2 HT2
                    have HB3 := hide (HB2.out.below hb)
                    have HZ3 := hide (HZ2.out.trans (hb.mono HZ2.out.size))
                    clear hg hb HB2 HZ2
                    go_wp2_with fail
                    refine (bytes_as _ _ _ _ _ _ t t _ true (by simp) HT3.out HS3.out).mono ?_
                    rintro e W4 ⟨rfl, hb⟩
                    have HB4 := hide (HB3.out.below hb)
                    have HZ4 := hide (HZ3.out.trans (hb.mono HZ3.out.size))
                    clear hb HB3 HZ3
                    go_wp2_with fail
                    refine (unpack_any a len cap l a1 W4 HB4.out HC.out hn0 hn1).mono ?_
                    rintro e W5 ⟨(⟨hg, rfl⟩ | ⟨qs, j', v, hg, rfl, hown⟩), hb⟩
                    · rw [Hup.out] at hg; cases hg
                    · obtain ⟨hqs, rfl⟩ : ps = qs.map (·.2) ∧ j = j' := by rw [Hup.out] at hg; simpa using hg
                      obtain ⟨p5, c5, rfl, hpc, hcc⟩ := hown.open
                      have HP5 := hide hpc
                      have Hqs := hide hqs
                      clear hown hpc hcc hqs
                      have HB5 := hide (HB4.out.below hb)
                      have HZ5 := hide (HZ4.out.trans (hb.mono HZ4.out.size))
                      clear hg hb HB4 HZ4
                      go_wp2_with fail
                      refine (refUnpack_any a len cap l a1 W5 HB5.out HC.out hn0 hn1).mono ?_
                      rintro e W6 ⟨(⟨hg, rfl⟩ | ⟨qs', j', v, hg, rfl, hown⟩), hb⟩
                      · rw [Hup.out] at hg; cases hg
                      · obtain ⟨hqs, rfl⟩ : ps = qs'.map (·.2) ∧ j = j' := by rw [Hup.out] at hg; simpa using hg
                        obtain ⟨p6, c6, rfl, hpc, hcc⟩ := hown.open
                        have HQ6 := hide hpc
                        have HP6 := hide (HP5.out.below hb)
                        have Hqe : Hid (qs.map (·.2) = qs'.map (·.2)) := Hqs.out.symm.trans hqs
                        clear hown hpc hcc hqs HP5
                        have HZ6 := hide (HZ5.out.trans (hb.mono HZ5.out.size))
                        clear hg hb HB5 HZ5
                        go_wp2_with fail
                        refine (packs_as _ _ _ _ _ _ _ _ _ Hqe.out HP6.out HQ6.out).mono ?_
                        rintro e W7 ⟨rfl, hb⟩
                        have HZ7 := hide (HZ6.out.trans (hb.mono HZ6.out.size))
                        clear hb HZ6
                        go_wp2_with fail
                        refine (awake_any _).mono ?_
                        rintro e W9 ⟨rfl, hb⟩
                        have Hb := hide hb
                        clear hb
                        go_wp2
                        go_ret
                        exact ⟨rfl, HZ7.out.trans (Hb.out.mono HZ7.out.size)⟩

/-! ### The row's step -/
set_option maxRecDepth 100000 in
theorem lifted (os : Os) (started : os.Started) (H : Type) (enc : TypeId × Value → H) :
    ReturnsInHanded {} Try.checked os 4 .any (Rows.wireGetsSpec.pre6 enc Try.prog Try.f4 Rows.wireGetsRow.domain false) (Rows.wireGetsSpec.post enc Try.prog Try.f4 false true false false) := by
  refine returnsInHanded_of_change_sized (C := Try.checked) own started (by kernel_rfl) Try.func4
    (ChangeSpec.witness6 (enc := enc) (C := Try.checked) false ⟨#[], #[.slice none 0 0, .int .i64 0], []⟩ 8 (by kernel_rfl) (by kernel_rfl) (by kernel_rfl) (by kernel_rfl)) ?_
  intro W base args ds gs before hval0 hW hcnd hz0 _
  have hval : ∀ (j : Nat) t v, Try.f4.params[j]? = some t → args[j]? = some v → Value.okWide Try.prog W .any base t v := hval0
  have hz : (DataW.weightsEach Try.prog (Try.f4.params.toList ++ Rows.wireGetsSpec.plain.varTypes Try.prog) (ds ++ gs)).all (· ≤ reachBytes) = true := hz0
  have hW' := hW
  obtain ⟨p, q, hA0, hV, rfl, hfz, hnd⟩ := hW
  have hA : DataW.TrodAll enc Try.prog W 0 (fun _ => true) true Try.f4.params.toList args.toList ds p := hA0
  rw [Try.params4] at hA hval hz
  obtain ⟨v0, vs0, d0, ds0, p0, q0, hargs, rfl, rfl, h0, r0⟩ := trodAll_cons hA
  obtain ⟨v1, vs1, d1, ds1, p1, q1, rfl, rfl, rfl, h1, r1⟩ := trodAll_cons r0
  obtain ⟨rfl, rfl, rfl⟩ := trodAll_nil r1
  obtain rfl : args = #[v0, v1] := by cases args; simp_all
  obtain ⟨rfl, rfl⟩ := trodVars_none hV
  have k0 := h0
  have lt0 : ∀ x ∈ p0, x.block < W.heap.size := by obtain ⟨m, hm⟩ := k0; exact DataW.trod_lt m _ _ _ hm
  have w0 : InB W v0 := in_bytes (hval 0 27 v0 rfl rfl) h0 (fun n hn => by have := List.all_eq_true.1 hz n (DataW.weights_mem_each (j := 0) (t := 27) rfl rfl n hn); simpa using this)
  obtain ⟨a1, rfl, rfl, rfl, w1⟩ := open_int Try.underlying3 (hval 1 3 v1 rfl rfl) h1
  clear hA0 hval0 hz0
  refine (walk v0 a1 W w0 w1).mono fun e W' ⟨he, bel⟩ => ?_
  subst he
  exact ⟨_, rfl, _, _, _, [], _, [], hW', trodAll_mk1 (shut_bool Try.underlying4 _), (trodAll_cons_mk (Below.trod laidOut (by kernel_rfl) (of_decide_eq_true (by kernel_rfl)) k0 bel lt0) (trodAll_cons_mk (shut_int Try.underlying3 w1) trodAll_mk0)), rfl, bel.frame _, fun h => by cases h⟩

theorem over : Rows.wireGetsRow.holds Try.pinned (OpenSpec.ofChange Rows.wireGetsSpec) :=
  OpenClaim.holds_of_wide 4 Try.f4 rfl rfl rfl rfl rfl rfl rfl ⟨rfl, rfl, rfl, rfl, rfl⟩ rfl rfl rfl rfl rfl (by kernel_rfl) Try.func4 (by kernel_rfl)
    (of_decide_eq_true (by kernel_rfl)) (by unfold Func.isWrapper; first | (rw [if_pos (by decide +kernel)]; kernel_rfl) | (rw [if_neg (by decide +kernel)]; exact ⟨rfl, rfl⟩))
    (fun os started H enc _ => lifted os started H enc)
end Go.Proofs.Ytgmimneendnfgaa.wireGets
namespace Go.Proofs.Ytgmimneendnfgaa
theorem wireGets_holds : Rows.WireGetsSaid := wireGets.over
end Go.Proofs.Ytgmimneendnfgaa
