/- For every bytes: the statement 'WireOne' returns true, and its argument reads behind the call as it read before. No condition. -/
import Derived.Test.YtgmimneendnfgaaRows
import Derived.WalkKit
import Derived.ProofKit
import Derived.OpenShut
import Derived.ShutString
import Derived.ChangeOld
import Derived.Below
import Derived.SizedLaws
import Derived.Test.YtgmimneendnfgaaWGrown
namespace Go.Proofs.Ytgmimneendnfgaa.wireOne
open Go.ChangeShapes Go.WideShapes Go.ChangeAt Go.RowKit
set_option linter.unusedVariables false

theorem own : ownKnob Try.prog.godebug = none := by kernel_rfl
theorem laidOut : laidOutB Try.prog = true := by kernel_rfl

/-! ### The walk -/
theorem getText_no {l : List Int} (h : getNum l = none) : getText l = none := by unfold getText; rw [h]

theorem gets_len (k : Nat) : ∀ {b : List Int} {r : List (List Int)} {m : Nat}, gets k b = some (r, m) → r.length = k := by
  induction k with
  | zero => intro b r m h; simp only [gets, Option.some.injEq, Prod.mk.injEq] at h; obtain ⟨rfl, _⟩ := h; rfl
  | succ k ih =>
    intro b r m h
    unfold gets at h
    split at h
    · cases h
    · split at h
      · cases h
      · rename_i l' m' hm'
        simp only [Option.some.injEq, Prod.mk.injEq] at h
        obtain ⟨rfl, _⟩ := h
        simp [ih hm']
theorem unpack_count {l : List Int} {qs : List (Value × List Int)} {j : Nat} (h : unpack l 1000 = some (qs.map (·.2), j)) : qs.length ≤ 1000 := by
  unfold unpack at h
  split at h
  · cases h
  · rename_i u k hk
    split at h
    · cases h
    · rename_i hu
      split at h
      · cases h
      · rename_i r m hm
        simp only [Option.some.injEq, Prod.mk.injEq] at h
        obtain ⟨h, _⟩ := h
        have hl := gets_len _ hm
        have := congrArg List.length h
        rw [List.length_map] at this
        omega
theorem pack_by {ps : List (List Int)} (h : ∀ p ∈ ps, By p) : By (pack ps) := (num_by _).append (By.flat fun p hp => text_by (h p hp))

set_option maxHeartbeats 16000000 in
set_option maxRecDepth 100000 in
theorem walk (v0 : Value) (w : World) (w0 : InB w v0) :
    Calls Try.prog 8 #[v0] w fun e w' => e = .returned (.bool true) ∧ Below w.heap.size w w' := by
  obtain ⟨a, len, cap, l, rfl, hB, hC, hbig⟩ := w0
  have HB := hide hB
  have HC := hide hC
  have Hl := hide hB.1
  have hcapI : (len : Int) ≤ (cap : Int) := by have := hC.1; omega
  have Hbig := hide hbig
  clear hB hC hbig
  by_cases h3 : (3000 : Int) < (len : Int)
  · go_enter Try.func8, Try.ntmps8
    go_wp2_with fail
    refine (awake_any w).mono ?_
    rintro e w' ⟨rfl, hb⟩
    have Hb := hide hb
    clear hb
    go_wp2
    go_ret
    exact ⟨rfl, Hb.out⟩
  · go_enter Try.func8, Try.ntmps8
    go_wp2_with fail
    refine (getNum_any a len cap l w HB.out HC.out).mono ?_
    rintro e w1 ⟨(⟨hg, rfl⟩ | ⟨x, m, hg, rfl⟩), rfl⟩
    · have H0 : Hid (getNum l = none) := hg
      go_wp2_with fail
      refine (getText_any a len cap l w1 HB.out HC.out).mono ?_
      rintro e W1 ⟨(⟨ht, rfl⟩ | ⟨t, k, v, ht, rfl, hown⟩), hb⟩
      · have Hb1 := hide hb
        have HB1 := hide (HB.out.below hb)
        clear hb ht
        go_wp2_with fail
        refine (unpack_any a len cap l 1000 W1 HB1.out HC.out (by omega) (by omega)).mono ?_
        rintro e W2 ⟨(⟨hu, rfl⟩ | ⟨qs, j, v, hu, rfl, hown⟩), hb⟩
        · have HX1 := hide hb
          have HB2 := hide (HB1.out.below hb)
          have HZ2 := hide (Hb1.out.trans (hb.mono Hb1.out.size))
          clear hb hu HX1 Hb1 HB1 HB
          go_wp2_with fail
          go_quiet (fail)
          have HX2 : Hid (Below W2.heap.size W2 (W2.drewN nq)) := ⟨rfl, rfl, rfl, Nat.le_refl _, fun _ _ => rfl⟩
          generalize W2.drewN nq = W3 at HX2 ⊢
          clear nq
          have HB3 := hide (HB2.out.below HX2.out)
          have HZ3 := hide (HZ2.out.trans (HX2.out.mono HZ2.out.size))
          clear HB2 HZ2 HX2
          go_wp2_with fail
          go_quiet (fail)
          have HX3 : Hid (Below W3.heap.size W3 (W3.drewN nq)) := ⟨rfl, rfl, rfl, Nat.le_refl _, fun _ _ => rfl⟩
          generalize W3.drewN nq = W4 at HX3 ⊢
          clear nq
          have HB4 := hide (HB3.out.below HX3.out)
          have HZ4 := hide (HZ3.out.trans (HX3.out.mono HZ3.out.size))
          clear HB3 HZ3 HX3
          go_wp2_with fail
          haveI : ∀ W : World, Nonempty (Gr W) := fun W => ⟨⟨W, Below.refl _ _⟩⟩
          refine region_grown (by kernel_rfl) (by kernel_rfl) ?_
          repeat (go_big_quiet_step (exact calls_grown (awake_any _)))
          refine wpQuiet_nil ?_
          rintro W6 ⟨gq, hgq⟩
          have HX4 : Hid (Below W4.heap.size W4 W6) := by rw [hgq]; exact gq.bel
          clear hgq gq
          go_wp2
          go_ret
          exact ⟨rfl, HZ4.out.trans (HX4.out.mono HZ4.out.size)⟩
        · rw [unpack_no hg] at hu; cases hu
      · rw [getText_no hg] at ht; cases ht
    · obtain ⟨hx0, hx1, g2, g3, g4, g5, g6⟩ := getNum_some HB.out.2.2.1 hg
      have hby2 := hide (num_by x)
      have hd2 := hide (decide_eq_true g5)
      rw [Hl.out] at g4
      have hle2 := hide g4
      have hm1 : (1 : Int) ≤ (m : Int) := by omega
      have hm2 : (m : Int) ≤ (len : Int) := by omega
      have hm3 : (m : Int) ≤ (cap : Int) := by omega
      have hm4 : decide ((m : Int) < 1) = false := by simp; omega
      have hm5 : decide (len < m) = false := by simp; omega
      have hm6 : ¬ len < m := by omega
      clear g2 g3 g4 g5 g6 hg
      go_wp2_with fail
      refine (getText_any a len cap l w1 HB.out HC.out).mono ?_
      rintro e W1 ⟨(⟨ht, rfl⟩ | ⟨t, k, v, ht, rfl, hown⟩), hb⟩
      · have Hb1 := hide hb
        have HB1 := hide (HB.out.below hb)
        clear hb ht
        go_wp2_with fail
        refine (unpack_any a len cap l 1000 W1 HB1.out HC.out (by omega) (by omega)).mono ?_
        rintro e W2 ⟨(⟨hu, rfl⟩ | ⟨qs, j, v, hu, rfl, hown⟩), hb⟩
        · have HX1 := hide hb
          have HB2 := hide (HB1.out.below hb)
          have HZ2 := hide (Hb1.out.trans (hb.mono Hb1.out.size))
          clear hb hu HX1 Hb1 HB1 HB
          go_wp2_with fail
          go_region_held3 (fun _ => True) (trivial) (first
            | (go_at_call 14; refine (num_any x _ hx0 hx1).mono ?_; rintro e x2 ⟨v2, rfl, hown2, hb2⟩; obtain ⟨p2, cap2, rfl, hbs2, hcp2⟩ := hown2.open hby2.out; have Hbs2 := hide hbs2; have Hb2 := hide hb2; clear hown2 hbs2 hb2 hcp2)
            | (go_at_call 11; refine (bytes_as _ _ _ _ _ _ (num x) (l.take m) _ true hd2.out (by exact Hbs2.out) (by exact (HB2.out.head m hle2.out).drew.below Hb2.out)).mono ?_; rintro e W3 ⟨rfl, hb⟩))
          have HX2 : Hid (Below W2.heap.size W2 W3) := ((Below.refl _ W2).drew.trans Hb2.out).trans (hb.mono Hb2.out.size)
          clear hb Hb2 Hbs2
          have HB3 := hide (HB2.out.below HX2.out)
          have HZ3 := hide (HZ2.out.trans (HX2.out.mono HZ2.out.size))
          clear HB2 HZ2 HX2
          go_wp2_with fail
          go_quiet (fail)
          have HX3 : Hid (Below W3.heap.size W3 (W3.drewN nq)) := ⟨rfl, rfl, rfl, Nat.le_refl _, fun _ _ => rfl⟩
          generalize W3.drewN nq = W4 at HX3 ⊢
          clear nq
          have HB4 := hide (HB3.out.below HX3.out)
          have HZ4 := hide (HZ3.out.trans (HX3.out.mono HZ3.out.size))
          clear HB3 HZ3 HX3
          go_wp2_with fail
          haveI : ∀ W : World, Nonempty (Gr W) := fun W => ⟨⟨W, Below.refl _ _⟩⟩
          refine region_grown (by kernel_rfl) (by kernel_rfl) ?_
          repeat (go_big_quiet_step (exact calls_grown (awake_any _)))
          refine wpQuiet_nil ?_
          rintro W6 ⟨gq, hgq⟩
          have HX4 : Hid (Below W4.heap.size W4 W6) := by rw [hgq]; exact gq.bel
          clear hgq gq
          go_wp2
          go_ret
          exact ⟨rfl, HZ4.out.trans (HX4.out.mono HZ4.out.size)⟩
        · have HX1 := hide hb
          obtain ⟨t1, t2, t3, t4⟩ := unpack_some HB1.out.2.2.1 hu
          obtain ⟨pp, cp, rfl, hbp, hcp⟩ := hown.open
          have HP2 := hide hbp
          have hqn : Hid (qs.length ≤ 1000) := unpack_count hu
          have hql : Hid (∀ p ∈ qs.map (·.2), p.length ≤ 100000) := fun p hp => Nat.le_trans (t4 p hp).1 (by decide)
          have hby4 := hide (pack_by fun p hp => (t4 p hp).2)
          have hd4 := hide (decide_eq_true t3)
          rw [Hl.out] at t2
          have hle4 := hide t2
          have hj1 : (1 : Int) ≤ (j : Int) := by omega
          have hj2 : (j : Int) ≤ (len : Int) := by omega
          have hj3 : (j : Int) ≤ (cap : Int) := by omega
          have hj4 : decide ((1 : Int) ≤ (j : Int)) = true := by simp; omega
          have hj5 : decide (j ≤ len) = true := by simp; omega
          have hj6 : j ≤ len := by omega
          clear t1 t2 t3 t4 hown hbp hcp
          have HB2 := hide (HB1.out.below hb)
          have HZ2 := hide (Hb1.out.trans (hb.mono Hb1.out.size))
          clear hb hu HX1 Hb1 HB1 HB
          go_wp2_with fail
          go_region_held3 (fun _ => True) (trivial) (first
            | (go_at_call 14; refine (num_any x _ hx0 hx1).mono ?_; rintro e x2 ⟨v2, rfl, hown2, hb2⟩; obtain ⟨p2, cap2, rfl, hbs2, hcp2⟩ := hown2.open hby2.out; have Hbs2 := hide hbs2; have Hb2 := hide hb2; clear hown2 hbs2 hb2 hcp2)
            | (go_at_call 11; refine (bytes_as _ _ _ _ _ _ (num x) (l.take m) _ true hd2.out (by exact Hbs2.out) (by exact (HB2.out.head m hle2.out).drew.below Hb2.out)).mono ?_; rintro e W3 ⟨rfl, hb⟩))
          have HX2 : Hid (Below W2.heap.size W2 W3) := ((Below.refl _ W2).drew.trans Hb2.out).trans (hb.mono Hb2.out.size)
          clear hb Hb2 Hbs2
          have HB3 := hide (HB2.out.below HX2.out)
          have HP3 := hide (HP2.out.below HX2.out)
          have HZ3 := hide (HZ2.out.trans (HX2.out.mono HZ2.out.size))
          clear HB2 HP2 HZ2 HX2
          go_wp2_with fail
          go_quiet (fail)
          have HX3 : Hid (Below W3.heap.size W3 (W3.drewN nq)) := ⟨rfl, rfl, rfl, Nat.le_refl _, fun _ _ => rfl⟩
          generalize W3.drewN nq = W4 at HX3 ⊢
          clear nq
          have HB4 := hide (HB3.out.below HX3.out)
          have HP4 := hide (HP3.out.below HX3.out)
          have HZ4 := hide (HZ3.out.trans (HX3.out.mono HZ3.out.size))
          clear HB3 HP3 HZ3 HX3
          go_wp2_with fail
          go_region_held3 (fun _ => True) (trivial) (first
            | (go_at_call 16; refine (pack_any _ _ _ (qs.map (·.2)) _ (by exact HP4.out.drew) hqn.out hql.out).mono ?_; rintro e x4 ⟨v4, rfl, hown4, hb4⟩; obtain ⟨p4, cap4, rfl, hbs4, hcp4⟩ := hown4.open hby4.out; have Hbs4 := hide hbs4; have Hb4 := hide hb4; clear hown4 hbs4 hb4 hcp4)
            | (go_at_call 11; refine (bytes_as _ _ _ _ _ _ (pack (qs.map (·.2))) (l.take j) _ true hd4.out (by exact Hbs4.out) (by exact (HB4.out.head j hle4.out).drew.below Hb4.out)).mono ?_; rintro e W5 ⟨rfl, hb5⟩)
            | (go_at_call 10; refine (awake_any _).mono ?_; rintro e W6 ⟨rfl, hb6⟩))
          have HX4 : Hid (Below W4.heap.size W4 W6) := (((Below.refl _ W4).drew.trans Hb4.out).trans (hb5.mono Hb4.out.size)).trans (hb6.mono (Nat.le_trans Hb4.out.size hb5.size))
          clear hb6 hb5 Hb4 Hbs4
          go_wp2
          go_ret
          exact ⟨rfl, HZ4.out.trans (HX4.out.mono HZ4.out.size)⟩
      · have Hb1 := hide hb
        have HB1 := hide (HB.out.below hb)
        obtain ⟨t1, t2, t3, t4, t5⟩ := getText_some HB.out.2.2.1 ht
        obtain ⟨pt, ct, rfl, hbt, hct⟩ := hown.open t5
        have HT1 := hide hbt
        have htc := hide hct.2.2
        have htl : Hid (t.length ≤ 1000000) := Nat.le_trans t4 (by decide)
        have hby3 := hide (text_by t5)
        have hd3 := hide (decide_eq_true t3)
        rw [Hl.out] at t2
        have hle3 := hide t2
        have hk1 : (1 : Int) ≤ (k : Int) := by omega
        have hk2 : (k : Int) ≤ (len : Int) := by omega
        have hk3 : (k : Int) ≤ (cap : Int) := by omega
        have hk4 : decide ((k : Int) < 1) = false := by simp; omega
        have hk5 : decide (len < k) = false := by simp; omega
        have hk6 : ¬ len < k := by omega
        clear t1 t2 t3 t4 t5 hown hbt hct
        clear hb ht
        go_wp2_with fail
        refine (unpack_any a len cap l 1000 W1 HB1.out HC.out (by omega) (by omega)).mono ?_
        rintro e W2 ⟨(⟨hu, rfl⟩ | ⟨qs, j, v, hu, rfl, hown⟩), hb⟩
        · have HX1 := hide hb
          have HB2 := hide (HB1.out.below hb)
          have HT2 := hide (HT1.out.below hb)
          have HZ2 := hide (Hb1.out.trans (hb.mono Hb1.out.size))
          clear hb hu HX1 Hb1 HB1 HT1 HB
          go_wp2_with fail
          go_region_held3 (fun _ => True) (trivial) (first
            | (go_at_call 14; refine (num_any x _ hx0 hx1).mono ?_; rintro e x2 ⟨v2, rfl, hown2, hb2⟩; obtain ⟨p2, cap2, rfl, hbs2, hcp2⟩ := hown2.open hby2.out; have Hbs2 := hide hbs2; have Hb2 := hide hb2; clear hown2 hbs2 hb2 hcp2)
            | (go_at_call 11; refine (bytes_as _ _ _ _ _ _ (num x) (l.take m) _ true hd2.out (by exact Hbs2.out) (by exact (HB2.out.head m hle2.out).drew.below Hb2.out)).mono ?_; rintro e W3 ⟨rfl, hb⟩))
          have HX2 : Hid (Below W2.heap.size W2 W3) := ((Below.refl _ W2).drew.trans Hb2.out).trans (hb.mono Hb2.out.size)
          clear hb Hb2 Hbs2
          have HB3 := hide (HB2.out.below HX2.out)
          have HT3 := hide (HT2.out.below HX2.out)
          have HZ3 := hide (HZ2.out.trans (HX2.out.mono HZ2.out.size))
          clear HB2 HT2 HZ2 HX2
          go_wp2_with fail
          go_region_held3 (fun _ => True) (trivial) (first
            | (go_at_call 12; refine (text_any _ _ _ t _ (by exact HT3.out.drew) htc.out htl.out).mono ?_; rintro e x3 ⟨v3, rfl, hown3, hb3⟩; obtain ⟨p3, cap3, rfl, hbs3, hcp3⟩ := hown3.open hby3.out; have Hbs3 := hide hbs3; have Hb3 := hide hb3; clear hown3 hbs3 hb3 hcp3)
            | (go_at_call 11; refine (bytes_as _ _ _ _ _ _ (text t) (l.take k) _ true hd3.out (by exact Hbs3.out) (by exact (HB3.out.head k hle3.out).drew.below Hb3.out)).mono ?_; rintro e W4 ⟨rfl, hb⟩))
          have HX3 : Hid (Below W3.heap.size W3 W4) := ((Below.refl _ W3).drew.trans Hb3.out).trans (hb.mono Hb3.out.size)
          clear hb Hb3 Hbs3
          have HB4 := hide (HB3.out.below HX3.out)
          have HT4 := hide (HT3.out.below HX3.out)
          have HZ4 := hide (HZ3.out.trans (HX3.out.mono HZ3.out.size))
          clear HB3 HT3 HZ3 HX3
          go_wp2_with fail
          haveI : ∀ W : World, Nonempty (Gr W) := fun W => ⟨⟨W, Below.refl _ _⟩⟩
          refine region_grown (by kernel_rfl) (by kernel_rfl) ?_
          repeat (go_big_quiet_step (exact calls_grown (awake_any _)))
          refine wpQuiet_nil ?_
          rintro W6 ⟨gq, hgq⟩
          have HX4 : Hid (Below W4.heap.size W4 W6) := by rw [hgq]; exact gq.bel
          clear hgq gq
          go_wp2
          go_ret
          exact ⟨rfl, HZ4.out.trans (HX4.out.mono HZ4.out.size)⟩
        · have HX1 := hide hb
          obtain ⟨t1, t2, t3, t4⟩ := unpack_some HB1.out.2.2.1 hu
          obtain ⟨pp, cp, rfl, hbp, hcp⟩ := hown.open
          have HP2 := hide hbp
          have hqn : Hid (qs.length ≤ 1000) := unpack_count hu
          have hql : Hid (∀ p ∈ qs.map (·.2), p.length ≤ 100000) := fun p hp => Nat.le_trans (t4 p hp).1 (by decide)
          have hby4 := hide (pack_by fun p hp => (t4 p hp).2)
          have hd4 := hide (decide_eq_true t3)
          rw [Hl.out] at t2
          have hle4 := hide t2
          have hj1 : (1 : Int) ≤ (j : Int) := by omega
          have hj2 : (j : Int) ≤ (len : Int) := by omega
          have hj3 : (j : Int) ≤ (cap : Int) := by omega
          have hj4 : decide ((1 : Int) ≤ (j : Int)) = true := by simp; omega
          have hj5 : decide (j ≤ len) = true := by simp; omega
          have hj6 : j ≤ len := by omega
          clear t1 t2 t3 t4 hown hbp hcp
          have HB2 := hide (HB1.out.below hb)
          have HT2 := hide (HT1.out.below hb)
          have HZ2 := hide (Hb1.out.trans (hb.mono Hb1.out.size))
          clear hb hu HX1 Hb1 HB1 HT1 HB
          go_wp2_with fail
          go_region_held3 (fun _ => True) (trivial) (first
            | (go_at_call 14; refine (num_any x _ hx0 hx1).mono ?_; rintro e x2 ⟨v2, rfl, hown2, hb2⟩; obtain ⟨p2, cap2, rfl, hbs2, hcp2⟩ := hown2.open hby2.out; have Hbs2 := hide hbs2; have Hb2 := hide hb2; clear hown2 hbs2 hb2 hcp2)
            | (go_at_call 11; refine (bytes_as _ _ _ _ _ _ (num x) (l.take m) _ true hd2.out (by exact Hbs2.out) (by exact (HB2.out.head m hle2.out).drew.below Hb2.out)).mono ?_; rintro e W3 ⟨rfl, hb⟩))
          have HX2 : Hid (Below W2.heap.size W2 W3) := ((Below.refl _ W2).drew.trans Hb2.out).trans (hb.mono Hb2.out.size)
          clear hb Hb2 Hbs2
          have HB3 := hide (HB2.out.below HX2.out)
          have HT3 := hide (HT2.out.below HX2.out)
          have HP3 := hide (HP2.out.below HX2.out)
          have HZ3 := hide (HZ2.out.trans (HX2.out.mono HZ2.out.size))
          clear HB2 HT2 HP2 HZ2 HX2
          go_wp2_with fail
          go_region_held3 (fun _ => True) (trivial) (first
            | (go_at_call 12; refine (text_any _ _ _ t _ (by exact HT3.out.drew) htc.out htl.out).mono ?_; rintro e x3 ⟨v3, rfl, hown3, hb3⟩; obtain ⟨p3, cap3, rfl, hbs3, hcp3⟩ := hown3.open hby3.out; have Hbs3 := hide hbs3; have Hb3 := hide hb3; clear hown3 hbs3 hb3 hcp3)
            | (go_at_call 11; refine (bytes_as _ _ _ _ _ _ (text t) (l.take k) _ true hd3.out (by exact Hbs3.out) (by exact (HB3.out.head k hle3.out).drew.below Hb3.out)).mono ?_; rintro e W4 ⟨rfl, hb⟩))
          have HX3 : Hid (Below W3.heap.size W3 W4) := ((Below.refl _ W3).drew.trans Hb3.out).trans (hb.mono Hb3.out.size)
          clear hb Hb3 Hbs3
          have HB4 := hide (HB3.out.below HX3.out)
          have HT4 := hide (HT3.out.below HX3.out)
          have HP4 := hide (HP3.out.below HX3.out)
          have HZ4 := hide (HZ3.out.trans (HX3.out.mono HZ3.out.size))
          clear HB3 HT3 HP3 HZ3 HX3
          go_wp2_with fail
          go_region_held3 (fun _ => True) (trivial) (first
            | (go_at_call 16; refine (pack_any _ _ _ (qs.map (·.2)) _ (by exact HP4.out.drew) hqn.out hql.out).mono ?_; rintro e x4 ⟨v4, rfl, hown4, hb4⟩; obtain ⟨p4, cap4, rfl, hbs4, hcp4⟩ := hown4.open hby4.out; have Hbs4 := hide hbs4; have Hb4 := hide hb4; clear hown4 hbs4 hb4 hcp4)
            | (go_at_call 11; refine (bytes_as _ _ _ _ _ _ (pack (qs.map (·.2))) (l.take j) _ true hd4.out (by exact Hbs4.out) (by exact (HB4.out.head j hle4.out).drew.below Hb4.out)).mono ?_; rintro e W5 ⟨rfl, hb5⟩)
            | (go_at_call 10; refine (awake_any _).mono ?_; rintro e W6 ⟨rfl, hb6⟩))
          have HX4 : Hid (Below W4.heap.size W4 W6) := (((Below.refl _ W4).drew.trans Hb4.out).trans (hb5.mono Hb4.out.size)).trans (hb6.mono (Nat.le_trans Hb4.out.size hb5.size))
          clear hb6 hb5 Hb4 Hbs4
          go_wp2
          go_ret
          exact ⟨rfl, HZ4.out.trans (HX4.out.mono HZ4.out.size)⟩

/-! ### The row's step -/
set_option maxRecDepth 100000 in
theorem lifted (os : Os) (started : os.Started) (H : Type) (enc : TypeId × Value → H) :
    ReturnsInHanded {} Try.checked os 8 .any (Rows.wireOneSpec.pre6 enc Try.prog Try.f8 Rows.wireOneRow.domain false) (Rows.wireOneSpec.post enc Try.prog Try.f8 false true false false) := by
  refine returnsInHanded_of_change_sized (C := Try.checked) own started (by kernel_rfl) Try.func8
    (ChangeSpec.witness6 (enc := enc) (C := Try.checked) false ⟨#[], #[.slice none 0 0], []⟩ 8 (by kernel_rfl) (by kernel_rfl) (by kernel_rfl) (by kernel_rfl)) ?_
  intro W base args ds gs before hval0 hW hcnd hz0 _
  have hval : ∀ (j : Nat) t v, Try.f8.params[j]? = some t → args[j]? = some v → Value.okWide Try.prog W .any base t v := hval0
  have hz : (DataW.weightsEach Try.prog (Try.f8.params.toList ++ Rows.wireOneSpec.plain.varTypes Try.prog) (ds ++ gs)).all (· ≤ reachBytes) = true := hz0
  have hW' := hW
  obtain ⟨p, q, hA0, hV, rfl, hfz, hnd⟩ := hW
  have hA : DataW.TrodAll enc Try.prog W 0 (fun _ => true) true Try.f8.params.toList args.toList ds p := hA0
  rw [Try.params8] at hA hval hz
  obtain ⟨v0, vs0, d0, ds0, p0, q0, hargs, rfl, rfl, h0, r0⟩ := trodAll_cons hA
  obtain ⟨rfl, rfl, rfl⟩ := trodAll_nil r0
  obtain rfl : args = #[v0] := by cases args; simp_all
  obtain ⟨rfl, rfl⟩ := trodVars_none hV
  have k0 := h0
  have lt0 : ∀ x ∈ p0, x.block < W.heap.size := by obtain ⟨m, hm⟩ := k0; exact DataW.trod_lt m _ _ _ hm
  have w0 : InB W v0 := in_bytes (hval 0 27 v0 rfl rfl) h0 (fun n hn => by have := List.all_eq_true.1 hz n (DataW.weights_mem_each (j := 0) (t := 27) rfl rfl n hn); simpa using this)
  clear hA0 hval0 hz0
  refine (walk v0 W w0).mono fun e W' ⟨he, bel⟩ => ?_
  subst he
  exact ⟨_, rfl, _, _, _, [], _, [], hW', trodAll_mk1 (shut_bool Try.underlying4 _), (trodAll_cons_mk (Below.trod laidOut (by kernel_rfl) (of_decide_eq_true (by kernel_rfl)) k0 bel lt0) trodAll_mk0), rfl, bel.frame _, fun h => by cases h⟩

theorem over : Rows.wireOneRow.holds Try.pinned (OpenSpec.ofChange Rows.wireOneSpec) :=
  OpenClaim.holds_of_wide 8 Try.f8 rfl rfl rfl rfl rfl rfl rfl ⟨rfl, rfl, rfl, rfl, rfl⟩ rfl rfl rfl rfl rfl (by kernel_rfl) Try.func8 (by kernel_rfl)
    (of_decide_eq_true (by kernel_rfl)) (by unfold Func.isWrapper; first | (rw [if_pos (by decide +kernel)]; kernel_rfl) | (rw [if_neg (by decide +kernel)]; exact ⟨rfl, rfl⟩))
    (fun os started H enc _ => lifted os started H enc)
end Go.Proofs.Ytgmimneendnfgaa.wireOne
namespace Go.Proofs.Ytgmimneendnfgaa
theorem wireOne_holds : Rows.WireOneSaid := wireOne.over
end Go.Proofs.Ytgmimneendnfgaa
