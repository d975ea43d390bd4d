/- Two raws of the same kinds have the same bytes just if they are the same, plain. -/
import Derived.Test.YtkbbegbpkndebaaGreatRows
import Derived.WalkKit
import Derived.ProofKit
import Derived.OpenShut
import Derived.ShutString
import Derived.ChangeOld
import Derived.Below
import Derived.SizedLaws
import Derived.Test.YtkbbegbpkndebaaGreatJ19
import Derived.Test.YtkbbegbpkndebaaGreatJ45
import Derived.Test.YtkbbegbpkndebaaGreatJ48
namespace Go.Proofs.YtkbbegbpkndebaaGreat.rawOne
open Go.ChangeShapes Go.WideShapes Go.ChangeAt Go.RowKit
set_option linter.unusedVariables false

theorem own : ownKnob Tryz.prog.godebug = none := by kernel_rfl
theorem laidOut : laidOutB Tryz.prog = true := by kernel_rfl

set_option maxRecDepth 2000 in
set_option maxHeartbeats 16000000 in
theorem walk (v0 : Value) (v1 : Value) (v2 : Value) (w : World) (w0 : InKd w v0) (w1 : InRw w v1) (w2 : InRw w v2) :
    Calls Tryz.prog 6 #[v0, v1, v2] w fun e w' => e = .returned (.bool true) ∧ Below w.heap.size w w' := by
  obtain ⟨ps, ns, cs, pc, nc, cc, k, rfl, hK⟩ := w0
  obtain ⟨p1, n1, c1, p2, n2, c2, p3, n3, c3, p4, n4, c4, r, rfl, hR⟩ := w1
  obtain ⟨o1, m1, b1, o2, m2, b2, o3, m3, b3, o4, m4, b4, t, rfl, hT⟩ := w2
  obtain ⟨g, hg⟩ : ∃ g, k.2.2 = g := ⟨_, rfl⟩
  rw [hg]
  have HK := hide hK
  have HR := hide hR
  have HT := hide hT
  have HB : Hid (Below w.heap.size w (((w.alloc (.cells #[.slice ps ns cs, .slice pc nc cc, .int .i64 g] 25)).alloc (.cells #[.slice p1 n1 c1, .slice p2 n2 c2, .slice p3 n3 c3, .slice p4 n4 c4] 31)).alloc (.cells #[.slice o1 m1 b1, .slice o2 m2 b2, .slice o3 m3 b3, .slice o4 m4 b4] 31))) := (bel2 w _ _).alloc (by simp; omega) _
  have HBK : Hid (BX (((w.alloc (.cells #[.slice ps ns cs, .slice pc nc cc, .int .i64 g] 25)).alloc (.cells #[.slice p1 n1 c1, .slice p2 n2 c2, .slice p3 n3 c3, .slice p4 n4 c4] 31)).alloc (.cells #[.slice o1 m1 b1, .slice o2 m2 b2, .slice o3 m3 b3, .slice o4 m4 b4] 31)) w.heap.size #[.slice ps ns cs, .slice pc nc cc, .int .i64 g] 25) := ((BX.new w _ rfl _ _).alloc _).alloc _
  have HBR : Hid (BX (((w.alloc (.cells #[.slice ps ns cs, .slice pc nc cc, .int .i64 g] 25)).alloc (.cells #[.slice p1 n1 c1, .slice p2 n2 c2, .slice p3 n3 c3, .slice p4 n4 c4] 31)).alloc (.cells #[.slice o1 m1 b1, .slice o2 m2 b2, .slice o3 m3 b3, .slice o4 m4 b4] 31)) (w.heap.size + 1) #[.slice p1 n1 c1, .slice p2 n2 c2, .slice p3 n3 c3, .slice p4 n4 c4] 31) := (BX.new (w.alloc (.cells #[.slice ps ns cs, .slice pc nc cc, .int .i64 g] 25)) _ (by simp) _ _).alloc _
  have HBT : Hid (BX (((w.alloc (.cells #[.slice ps ns cs, .slice pc nc cc, .int .i64 g] 25)).alloc (.cells #[.slice p1 n1 c1, .slice p2 n2 c2, .slice p3 n3 c3, .slice p4 n4 c4] 31)).alloc (.cells #[.slice o1 m1 b1, .slice o2 m2 b2, .slice o3 m3 b3, .slice o4 m4 b4] 31)) (w.heap.size + 1 + 1) #[.slice o1 m1 b1, .slice o2 m2 b2, .slice o3 m3 b3, .slice o4 m4 b4] 31) := BX.new ((w.alloc (.cells #[.slice ps ns cs, .slice pc nc cc, .int .i64 g] 25)).alloc (.cells #[.slice p1 n1 c1, .slice p2 n2 c2, .slice p3 n3 c3, .slice p4 n4 c4] 31)) _ (by simp) _ _
  clear hK hR hT
  go_enter Tryz.func6, Tryz.ntmps6
  go_upto_region 1 with fail
  generalize (((w.alloc (.cells #[.slice ps ns cs, .slice pc nc cc, .int .i64 g] 25)).alloc (.cells #[.slice p1 n1 c1, .slice p2 n2 c2, .slice p3 n3 c3, .slice p4 n4 c4] 31)).alloc (.cells #[.slice o1 m1 b1, .slice o2 m2 b2, .slice o3 m3 b3, .slice o4 m4 b4] 31)) = u at *
  have a0 := HBK.out.cell 0 _ rfl
  have a1 := HBK.out.cell 1 _ rfl
  have a2 := HBK.out.cell 2 _ rfl
  have x0 := HBR.out.cell 0 _ rfl
  have y0 := HBT.out.cell 0 _ rfl
  have x1 := HBR.out.cell 1 _ rfl
  have y1 := HBT.out.cell 1 _ rfl
  have x2 := HBR.out.cell 2 _ rfl
  have y2 := HBT.out.cell 2 _ rfl
  have x3 := HBR.out.cell 3 _ rfl
  have y3 := HBT.out.cell 3 _ rfl
  go_wp2_with (go_at_call 7; refine (light13 _ _ _ _ _ _ k _ _ _ _ _ _ _ _ _ _ _ _ _ r _ (HK.out.below HB.out) (HR.out.below HB.out)).mono ?_; rintro e wl ⟨bl, rfl, hl, hb⟩; replace HB := hide (bel_next HB.out hb); (try replace HBK := hide (HBK.out.below hb)); (try replace HBR := hide (HBR.out.below hb)); (try replace HBT := hide (HBT.out.below hb)); (try replace a0 := bcell hb a0); (try replace a1 := bcell hb a1); (try replace a2 := bcell hb a2); (try replace x0 := bcell hb x0); (try replace x1 := bcell hb x1); (try replace x2 := bcell hb x2); (try replace x3 := bcell hb x3); (try replace y0 := bcell hb y0); (try replace y1 := bcell hb y1); (try replace y2 := bcell hb y2); (try replace y3 := bcell hb y3); clear hb; refine Stop.at ?_)
  unfold Stop
  cases bl
  · clear hl
    go_wp2_with (go_at_call 9; refine (awake13s _).mono ?_; rintro e wz ⟨rfl, hb⟩; replace HB := hide (bel_next HB.out hb); clear hb)
    go_ret
    exact ⟨rfl, HB.out⟩
  have hl1 := hl rfl
  clear hl
  go_wp2_with (go_at_call 7; refine (light13 _ _ _ _ _ _ k _ _ _ _ _ _ _ _ _ _ _ _ _ t _ (HK.out.below HB.out) (HT.out.below HB.out)).mono ?_; rintro e wl ⟨bl, rfl, hl, hb⟩; replace HB := hide (bel_next HB.out hb); (try replace HBK := hide (HBK.out.below hb)); (try replace HBR := hide (HBR.out.below hb)); (try replace HBT := hide (HBT.out.below hb)); (try replace a0 := bcell hb a0); (try replace a1 := bcell hb a1); (try replace a2 := bcell hb a2); (try replace x0 := bcell hb x0); (try replace x1 := bcell hb x1); (try replace x2 := bcell hb x2); (try replace x3 := bcell hb x3); (try replace y0 := bcell hb y0); (try replace y1 := bcell hb y1); (try replace y2 := bcell hb y2); (try replace y3 := bcell hb y3); clear hb; refine Stop.at ?_)
  unfold Stop
  cases bl
  · clear hl
    go_wp2_with (go_at_call 9; refine (awake13s _).mono ?_; rintro e wz ⟨rfl, hb⟩; replace HB := hide (bel_next HB.out hb); clear hb)
    go_ret
    exact ⟨rfl, HB.out⟩
  have hl2 := hl rfl
  have HL1 := hide hl1
  have HL2 := hide hl2
  clear hl hl1 hl2
  rcases hm1 : mayW k r with _ | _
  · have HM1 := hide hm1
    clear hm1
    go_upto_region 4 with (go_at_call 24; refine (Bytes13_bad _ _ _ _ _ _ k _ _ _ _ _ _ _ _ _ _ _ _ _ r _ hg (HK.out.below HB.out) (HR.out.below HB.out) HM1.out).mono ?_; rintro e wy ⟨rfl, hb⟩; replace HB := hide (bel_next HB.out hb); (try replace HBK := hide (HBK.out.below hb)); (try replace HBR := hide (HBR.out.below hb)); (try replace HBT := hide (HBT.out.below hb)); (try replace a0 := bcell hb a0); (try replace a1 := bcell hb a1); (try replace a2 := bcell hb a2); (try replace x0 := bcell hb x0); (try replace x1 := bcell hb x1); (try replace x2 := bcell hb x2); (try replace x3 := bcell hb x3); (try replace y0 := bcell hb y0); (try replace y1 := bcell hb y1); (try replace y2 := bcell hb y2); (try replace y3 := bcell hb y3); clear hb)
    rcases hm2 : mayW k t with _ | _
    · have HM2 := hide hm2
      clear hm2
      go_wp2_with (first | (go_at_call 24; refine (Bytes13_bad _ _ _ _ _ _ k _ _ _ _ _ _ _ _ _ _ _ _ _ t _ hg (HK.out.below HB.out) (HT.out.below HB.out) HM2.out).mono ?_; rintro e wy ⟨rfl, hb⟩; replace HB := hide (bel_next HB.out hb); (try replace HBK := hide (HBK.out.below hb)); (try replace HBR := hide (HBR.out.below hb)); (try replace HBT := hide (HBT.out.below hb)); (try replace a0 := bcell hb a0); (try replace a1 := bcell hb a1); (try replace a2 := bcell hb a2); (try replace x0 := bcell hb x0); (try replace x1 := bcell hb x1); (try replace x2 := bcell hb x2); (try replace x3 := bcell hb x3); (try replace y0 := bcell hb y0); (try replace y1 := bcell hb y1); (try replace y2 := bcell hb y2); (try replace y3 := bcell hb y3); clear hb) | (go_at_call 9; refine (awake13s _).mono ?_; rintro e wz ⟨rfl, hb⟩; replace HB := hide (bel_next HB.out hb); clear hb))
      go_ret
      exact ⟨rfl, HB.out⟩
    · have HM2 := hide hm2
      clear hm2
      obtain rfl : ns = m1 := by
        have q1 := LS.len HT.out.s
        have q2 := (lensB_iff.1 (mayW_iff.1 HM2.out).2.1).1
        have q3 := HK.out.s.1
        omega
      have HN2 : Hid (ns ≤ 100 ∧ m2 ≤ 100 ∧ m3 ≤ 100 ∧ m4 ≤ 100) := by
        have q1 := LS.len HT.out.s
        have q2 := LS.len HT.out.t
        have q3 := LS.len HT.out.a
        have q4 := LS.len HT.out.g
        have := HL2.out.l1
        have := HL2.out.l2
        have := HL2.out.l3
        have := HL2.out.l4
        exact ⟨by omega, by omega, by omega, by omega⟩
      have HG2 : Hid (∀ W, KM W ps ns cs pc nc cc k → RM W o1 ns b1 o2 m2 b2 o3 m3 b3 o4 m4 b4 t → Calls Tryz.prog 24 #[.agg #[.slice ps ns cs, .slice pc nc cc, .int .i64 g], .agg #[.slice o1 ns b1, .slice o2 m2 b2, .slice o3 m3 b3, .slice o4 m4 b4]] W fun e w' => ∃ p cp, e = .returned (.tuple #[.slice p (bytRw (plainW k t)).length cp, .int .i64 0]) ∧ BS w' p (bytRw (plainW k t)).length (bytRw (plainW k t)) ∧ Below W.heap.size W w') := fun W h1 h2 => by
        refine (Bytes13_good _ _ _ _ _ k _ _ _ _ _ _ _ _ _ _ _ _ _ t W hg h1 h2 HM2.out (sz13 HL2.out) (okp13 HL2.out) HN2.out (sm13 HL2.out HM2.out) (by decide) (by decide) (by decide)).mono ?_
        rintro e w' ⟨v, rfl, ho, hb⟩
        obtain ⟨p, cp, rfl, hbs, _⟩ := ho.open (byt_by _)
        exact ⟨p, cp, rfl, hbs, hb⟩
      clear HN2 HL1 HL2 HM1 HM2
      generalize (bytRw (plainW k t)) = B2 at HG2
      generalize B2.length = z2 at HG2
      go_upto_region 5 with (go_at_call 24; refine (HG2.out _ (HK.out.below HB.out) (HT.out.below HB.out)).mono ?_; rintro e wy ⟨bp, bc, rfl, hbs, hb⟩; (try replace HX1 := hide (HX1.out.below hb)); have HX2 := hide hbs; clear hbs; replace HB := hide (bel_next HB.out hb); (try replace HBK := hide (HBK.out.below hb)); (try replace HBR := hide (HBR.out.below hb)); (try replace HBT := hide (HBT.out.below hb)); (try replace a0 := bcell hb a0); (try replace a1 := bcell hb a1); (try replace a2 := bcell hb a2); (try replace x0 := bcell hb x0); (try replace x1 := bcell hb x1); (try replace x2 := bcell hb x2); (try replace x3 := bcell hb x3); (try replace y0 := bcell hb y0); (try replace y1 := bcell hb y1); (try replace y2 := bcell hb y2); (try replace y3 := bcell hb y3); clear hb)
      go_wp2_with (go_at_call 9; refine (awake13s _).mono ?_; rintro e wz ⟨rfl, hb⟩; replace HB := hide (bel_next HB.out hb); clear hb)
      go_ret
      exact ⟨rfl, HB.out⟩
  · have HM1 := hide hm1
    clear hm1
    obtain rfl : ns = n1 := by
      have q1 := LS.len HR.out.s
      have q2 := (lensB_iff.1 (mayW_iff.1 HM1.out).2.1).1
      have q3 := HK.out.s.1
      omega
    have HN1 : Hid (ns ≤ 100 ∧ n2 ≤ 100 ∧ n3 ≤ 100 ∧ n4 ≤ 100) := by
      have q1 := LS.len HR.out.s
      have q2 := LS.len HR.out.t
      have q3 := LS.len HR.out.a
      have q4 := LS.len HR.out.g
      have := HL1.out.l1
      have := HL1.out.l2
      have := HL1.out.l3
      have := HL1.out.l4
      exact ⟨by omega, by omega, by omega, by omega⟩
    have HG1 : Hid (∀ W, KM W ps ns cs pc nc cc k → RM W p1 ns c1 p2 n2 c2 p3 n3 c3 p4 n4 c4 r → Calls Tryz.prog 24 #[.agg #[.slice ps ns cs, .slice pc nc cc, .int .i64 g], .agg #[.slice p1 ns c1, .slice p2 n2 c2, .slice p3 n3 c3, .slice p4 n4 c4]] W fun e w' => ∃ p cp, e = .returned (.tuple #[.slice p (bytRw (plainW k r)).length cp, .int .i64 0]) ∧ BS w' p (bytRw (plainW k r)).length (bytRw (plainW k r)) ∧ Below W.heap.size W w') := fun W h1 h2 => by
      refine (Bytes13_good _ _ _ _ _ k _ _ _ _ _ _ _ _ _ _ _ _ _ r W hg h1 h2 HM1.out (sz13 HL1.out) (okp13 HL1.out) HN1.out (sm13 HL1.out HM1.out) (by decide) (by decide) (by decide)).mono ?_
      rintro e w' ⟨v, rfl, ho, hb⟩
      obtain ⟨p, cp, rfl, hbs, _⟩ := ho.open (byt_by _)
      exact ⟨p, cp, rfl, hbs, hb⟩
    rcases hm2 : mayW k t with _ | _
    · have HM2 := hide hm2
      clear hm2
      clear HN1 HL1 HL2 HM1
      generalize (bytRw (plainW k r)) = B1 at HG1
      generalize B1.length = z1 at HG1
      go_upto_region 4 with (go_at_call 24; refine (HG1.out _ (HK.out.below HB.out) (HR.out.below HB.out)).mono ?_; rintro e wy ⟨ap, ac, rfl, hbs, hb⟩; (try replace HX1 := hide (HX1.out.below hb)); have HX1 := hide hbs; clear hbs; replace HB := hide (bel_next HB.out hb); (try replace HBK := hide (HBK.out.below hb)); (try replace HBR := hide (HBR.out.below hb)); (try replace HBT := hide (HBT.out.below hb)); (try replace a0 := bcell hb a0); (try replace a1 := bcell hb a1); (try replace a2 := bcell hb a2); (try replace x0 := bcell hb x0); (try replace x1 := bcell hb x1); (try replace x2 := bcell hb x2); (try replace x3 := bcell hb x3); (try replace y0 := bcell hb y0); (try replace y1 := bcell hb y1); (try replace y2 := bcell hb y2); (try replace y3 := bcell hb y3); clear hb)
      go_upto_region 5 with (go_at_call 24; refine (Bytes13_bad _ _ _ _ _ _ k _ _ _ _ _ _ _ _ _ _ _ _ _ t _ hg (HK.out.below HB.out) (HT.out.below HB.out) HM2.out).mono ?_; rintro e wy ⟨rfl, hb⟩; replace HB := hide (bel_next HB.out hb); (try replace HBK := hide (HBK.out.below hb)); (try replace HBR := hide (HBR.out.below hb)); (try replace HBT := hide (HBT.out.below hb)); (try replace a0 := bcell hb a0); (try replace a1 := bcell hb a1); (try replace a2 := bcell hb a2); (try replace x0 := bcell hb x0); (try replace x1 := bcell hb x1); (try replace x2 := bcell hb x2); (try replace x3 := bcell hb x3); (try replace y0 := bcell hb y0); (try replace y1 := bcell hb y1); (try replace y2 := bcell hb y2); (try replace y3 := bcell hb y3); clear hb)
      go_wp2_with (go_at_call 9; refine (awake13s _).mono ?_; rintro e wz ⟨rfl, hb⟩; replace HB := hide (bel_next HB.out hb); clear hb)
      go_ret
      exact ⟨rfl, HB.out⟩
    · have HM2 := hide hm2
      clear hm2
      obtain rfl : ns = m1 := by
        have q1 := LS.len HT.out.s
        have q2 := (lensB_iff.1 (mayW_iff.1 HM2.out).2.1).1
        have q3 := HK.out.s.1
        omega
      have HN2 : Hid (ns ≤ 100 ∧ m2 ≤ 100 ∧ m3 ≤ 100 ∧ m4 ≤ 100) := by
        have q1 := LS.len HT.out.s
        have q2 := LS.len HT.out.t
        have q3 := LS.len HT.out.a
        have q4 := LS.len HT.out.g
        have := HL2.out.l1
        have := HL2.out.l2
        have := HL2.out.l3
        have := HL2.out.l4
        exact ⟨by omega, by omega, by omega, by omega⟩
      have HG2 : Hid (∀ W, KM W ps ns cs pc nc cc k → RM W o1 ns b1 o2 m2 b2 o3 m3 b3 o4 m4 b4 t → Calls Tryz.prog 24 #[.agg #[.slice ps ns cs, .slice pc nc cc, .int .i64 g], .agg #[.slice o1 ns b1, .slice o2 m2 b2, .slice o3 m3 b3, .slice o4 m4 b4]] W fun e w' => ∃ p cp, e = .returned (.tuple #[.slice p (bytRw (plainW k t)).length cp, .int .i64 0]) ∧ BS w' p (bytRw (plainW k t)).length (bytRw (plainW k t)) ∧ Below W.heap.size W w') := fun W h1 h2 => by
        refine (Bytes13_good _ _ _ _ _ k _ _ _ _ _ _ _ _ _ _ _ _ _ t W hg h1 h2 HM2.out (sz13 HL2.out) (okp13 HL2.out) HN2.out (sm13 HL2.out HM2.out) (by decide) (by decide) (by decide)).mono ?_
        rintro e w' ⟨v, rfl, ho, hb⟩
        obtain ⟨p, cp, rfl, hbs, _⟩ := ho.open (byt_by _)
        exact ⟨p, cp, rfl, hbs, hb⟩
      have HP1 : Hid (∀ W, KM W ps ns cs pc nc cc k → RM W p1 ns c1 p2 n2 c2 p3 n3 c3 p4 n4 c4 r → Calls Tryz.prog 22 #[.agg #[.slice ps ns cs, .slice pc nc cc, .int .i64 g], .agg #[.slice p1 ns c1, .slice p2 n2 c2, .slice p3 n3 c3, .slice p4 n4 c4]] W fun e w' => ∃ q1 d1 q2 d2 q3 d3 q4 d4, e = .returned (.tuple #[.agg #[.slice q1 ns d1, .slice q2 n2 d2, .slice q3 n3 d3, .slice q4 n4 d4], .int .i64 0]) ∧ RM w' q1 ns d1 q2 n2 d2 q3 n3 d3 q4 n4 d4 (plainW k r) ∧ Below W.heap.size W w') := fun W h1 h2 => by
        refine (Plain13_good _ _ _ _ _ k _ _ _ _ _ _ _ _ _ _ _ _ _ r W hg h1 h2 HM1.out (sz13 HL1.out) (okp13 HL1.out) (by have := HN1.out; omega)).mono ?_
        rintro e w' ⟨q1, d1, q2, d2, q3, d3, q4, d4, rfl, ho, hb⟩
        exact ⟨q1, d1, q2, d2, q3, d3, q4, d4, rfl, ho.rm, hb⟩
      have HP2 : Hid (∀ W, KM W ps ns cs pc nc cc k → RM W o1 ns b1 o2 m2 b2 o3 m3 b3 o4 m4 b4 t → Calls Tryz.prog 22 #[.agg #[.slice ps ns cs, .slice pc nc cc, .int .i64 g], .agg #[.slice o1 ns b1, .slice o2 m2 b2, .slice o3 m3 b3, .slice o4 m4 b4]] W fun e w' => ∃ q1 d1 q2 d2 q3 d3 q4 d4, e = .returned (.tuple #[.agg #[.slice q1 ns d1, .slice q2 m2 d2, .slice q3 m3 d3, .slice q4 m4 d4], .int .i64 0]) ∧ RM w' q1 ns d1 q2 m2 d2 q3 m3 d3 q4 m4 d4 (plainW k t) ∧ Below W.heap.size W w') := fun W h1 h2 => by
        refine (Plain13_good _ _ _ _ _ k _ _ _ _ _ _ _ _ _ _ _ _ _ t W hg h1 h2 HM2.out (sz13 HL2.out) (okp13 HL2.out) (by have := HN2.out; omega)).mono ?_
        rintro e w' ⟨q1, d1, q2, d2, q3, d3, q4, d4, rfl, ho, hb⟩
        exact ⟨q1, d1, q2, d2, q3, d3, q4, d4, rfl, ho.rm, hb⟩
      obtain ⟨bb, hb1, hb2⟩ : ∃ bb, decide (bytRw (plainW k r) = bytRw (plainW k t)) = bb ∧ sameW (plainW k r) (plainW k t) = bb := by
        refine ⟨_, rfl, ?_⟩
        rw [Bool.eq_iff_iff, sameW_iff, decide_eq_true_iff]
        exact (one13 HL1.out HL2.out HM1.out HM2.out).symm
      have HD1 := hide hb1
      have HD2 := hide hb2
      clear hb1 hb2 HN1 HN2 HL1 HL2 HM1 HM2
      generalize (bytRw (plainW k r)) = B1 at HG1 HD1
      generalize B1.length = z1 at HG1
      generalize (bytRw (plainW k t)) = B2 at HG2 HD1
      generalize B2.length = z2 at HG2
      generalize plainW k r = v1 at HP1 HD2
      generalize plainW k t = v2 at HP2 HD2
      go_upto_region 4 with (go_at_call 24; refine (HG1.out _ (HK.out.below HB.out) (HR.out.below HB.out)).mono ?_; rintro e wy ⟨ap, ac, rfl, hbs, hb⟩; (try replace HX1 := hide (HX1.out.below hb)); have HX1 := hide hbs; clear hbs; replace HB := hide (bel_next HB.out hb); (try replace HBK := hide (HBK.out.below hb)); (try replace HBR := hide (HBR.out.below hb)); (try replace HBT := hide (HBT.out.below hb)); (try replace a0 := bcell hb a0); (try replace a1 := bcell hb a1); (try replace a2 := bcell hb a2); (try replace x0 := bcell hb x0); (try replace x1 := bcell hb x1); (try replace x2 := bcell hb x2); (try replace x3 := bcell hb x3); (try replace y0 := bcell hb y0); (try replace y1 := bcell hb y1); (try replace y2 := bcell hb y2); (try replace y3 := bcell hb y3); clear hb)
      go_upto_region 7 with (go_at_call 24; refine (HG2.out _ (HK.out.below HB.out) (HT.out.below HB.out)).mono ?_; rintro e wy ⟨bp, bc, rfl, hbs, hb⟩; (try replace HX1 := hide (HX1.out.below hb)); have HX2 := hide hbs; clear hbs; replace HB := hide (bel_next HB.out hb); (try replace HBK := hide (HBK.out.below hb)); (try replace HBR := hide (HBR.out.below hb)); (try replace HBT := hide (HBT.out.below hb)); (try replace a0 := bcell hb a0); (try replace a1 := bcell hb a1); (try replace a2 := bcell hb a2); (try replace x0 := bcell hb x0); (try replace x1 := bcell hb x1); (try replace x2 := bcell hb x2); (try replace x3 := bcell hb x3); (try replace y0 := bcell hb y0); (try replace y1 := bcell hb y1); (try replace y2 := bcell hb y2); (try replace y3 := bcell hb y3); clear hb)
      clear HG1 HG2
      go_upto_region 8 with (go_at_call 22; refine (HP1.out _ (HK.out.below HB.out) (HR.out.below HB.out)).mono ?_; rintro e wp ⟨q1, d1, q2, d2, q3, d3, q4, d4, rfl, hrm, hb⟩; (try replace HV1 := hide (HV1.out.below hb)); (try replace HBP := hide (HBP.out.below hb)); have HV1 := hide hrm; clear hrm; replace HX1 := hide (HX1.out.below hb); replace HX2 := hide (HX2.out.below hb); replace HB := hide (bel_next HB.out hb); (try replace HBK := hide (HBK.out.below hb)); (try replace HBR := hide (HBR.out.below hb)); (try replace HBT := hide (HBT.out.below hb)); (try replace a0 := bcell hb a0); (try replace a1 := bcell hb a1); (try replace a2 := bcell hb a2); (try replace x0 := bcell hb x0); (try replace x1 := bcell hb x1); (try replace x2 := bcell hb x2); (try replace x3 := bcell hb x3); (try replace y0 := bcell hb y0); (try replace y1 := bcell hb y1); (try replace y2 := bcell hb y2); (try replace y3 := bcell hb y3); clear hb)
      have hb := bel1 wp (.cells #[.slice q1 ns d1, .slice q2 n2 d2, .slice q3 n3 d3, .slice q4 n4 d4] 31)
      replace HB := hide (bel_next HB.out hb)
      replace HBK := hide (HBK.out.below hb)
      replace HBR := hide (HBR.out.below hb)
      replace HBT := hide (HBT.out.below hb)
      replace HX1 := hide (HX1.out.below hb)
      replace HX2 := hide (HX2.out.below hb)
      (try replace HBP := hide (HBP.out.below hb))
      skip
      replace HV1 := hide (HV1.out.below hb)
      have HBP : Hid (BX (wp.alloc (.cells #[.slice q1 ns d1, .slice q2 n2 d2, .slice q3 n3 d3, .slice q4 n4 d4] 31)) wp.heap.size #[.slice q1 ns d1, .slice q2 n2 d2, .slice q3 n3 d3, .slice q4 n4 d4] 31) := BX.new wp _ rfl _ _
      clear a0 a1 a2 x0 x1 x2 x3 y0 y1 y2 y3
      clear hb
      generalize wp.heap.size = gwp at *
      generalize wp.alloc (.cells #[.slice q1 ns d1, .slice q2 n2 d2, .slice q3 n3 d3, .slice q4 n4 d4] 31) = u1 at *
      have a0 := HBK.out.cell 0 _ rfl
      have a1 := HBK.out.cell 1 _ rfl
      have a2 := HBK.out.cell 2 _ rfl
      have x0 := HBR.out.cell 0 _ rfl
      have x1 := HBR.out.cell 1 _ rfl
      have x2 := HBR.out.cell 2 _ rfl
      have x3 := HBR.out.cell 3 _ rfl
      have y0 := HBT.out.cell 0 _ rfl
      have y1 := HBT.out.cell 1 _ rfl
      have y2 := HBT.out.cell 2 _ rfl
      have y3 := HBT.out.cell 3 _ rfl
      go_upto_region 9 with (go_at_call 22; refine (HP2.out _ (HK.out.below HB.out) (HT.out.below HB.out)).mono ?_; rintro e wq ⟨f1, h1, f2, h2, f3, h3, f4, h4, rfl, hrm, hb⟩; (try replace HV1 := hide (HV1.out.below hb)); (try replace HBP := hide (HBP.out.below hb)); have HV2 := hide hrm; clear hrm; replace HX1 := hide (HX1.out.below hb); replace HX2 := hide (HX2.out.below hb); replace HB := hide (bel_next HB.out hb); (try replace HBK := hide (HBK.out.below hb)); (try replace HBR := hide (HBR.out.below hb)); (try replace HBT := hide (HBT.out.below hb)); (try replace a0 := bcell hb a0); (try replace a1 := bcell hb a1); (try replace a2 := bcell hb a2); (try replace x0 := bcell hb x0); (try replace x1 := bcell hb x1); (try replace x2 := bcell hb x2); (try replace x3 := bcell hb x3); (try replace y0 := bcell hb y0); (try replace y1 := bcell hb y1); (try replace y2 := bcell hb y2); (try replace y3 := bcell hb y3); clear hb)
      have hb := bel1 wq (.cells #[.slice f1 ns h1, .slice f2 m2 h2, .slice f3 m3 h3, .slice f4 m4 h4] 31)
      replace HB := hide (bel_next HB.out hb)
      replace HBK := hide (HBK.out.below hb)
      replace HBR := hide (HBR.out.below hb)
      replace HBT := hide (HBT.out.below hb)
      replace HX1 := hide (HX1.out.below hb)
      replace HX2 := hide (HX2.out.below hb)
      (try replace HBP := hide (HBP.out.below hb))
      (try replace HV1 := hide (HV1.out.below hb))
      replace HV2 := hide (HV2.out.below hb)
      have HBQ : Hid (BX (wq.alloc (.cells #[.slice f1 ns h1, .slice f2 m2 h2, .slice f3 m3 h3, .slice f4 m4 h4] 31)) wq.heap.size #[.slice f1 ns h1, .slice f2 m2 h2, .slice f3 m3 h3, .slice f4 m4 h4] 31) := BX.new wq _ rfl _ _
      clear a0 a1 a2 x0 x1 x2 x3 y0 y1 y2 y3
      clear hb
      generalize wq.heap.size = gwq at *
      generalize wq.alloc (.cells #[.slice f1 ns h1, .slice f2 m2 h2, .slice f3 m3 h3, .slice f4 m4 h4] 31) = u2 at *
      have a0 := HBK.out.cell 0 _ rfl
      have a1 := HBK.out.cell 1 _ rfl
      have a2 := HBK.out.cell 2 _ rfl
      have x0 := HBR.out.cell 0 _ rfl
      have x1 := HBR.out.cell 1 _ rfl
      have x2 := HBR.out.cell 2 _ rfl
      have x3 := HBR.out.cell 3 _ rfl
      have y0 := HBT.out.cell 0 _ rfl
      have y1 := HBT.out.cell 1 _ rfl
      have y2 := HBT.out.cell 2 _ rfl
      have y3 := HBT.out.cell 3 _ rfl
      cases bb
      · have ep0 := HBP.out.cell 0 _ rfl
        have eq0 := HBQ.out.cell 0 _ rfl
        have ep1 := HBP.out.cell 1 _ rfl
        have eq1 := HBQ.out.cell 1 _ rfl
        have ep2 := HBP.out.cell 2 _ rfl
        have eq2 := HBQ.out.cell 2 _ rfl
        have ep3 := HBP.out.cell 3 _ rfl
        have eq3 := HBQ.out.cell 3 _ rfl
        clear a0 a1 a2 x0 x1 x2 x3 y0 y1 y2 y3
        clear HBK HBR HBT HBP HBQ HP1 HP2 HK HR HT
        refine wp_region_held_drew (S := fun W => Below u2.heap.size u2 W) (by kernel_rfl) ((Below.refl _ u2).drew) (fun hS0 => ?_)
        refine tkI 0 57 ?v1 rfl rfl hS0 ?hy1 ?_
        case hy1 => (intro W hW; clear hW; go_simp; try rfl)
        simp only [ly]
        refine tkI 1 58 ?v2 rfl rfl hS0 ?hy2 ?_
        case hy2 => (intro W hW; clear hW; go_simp; try rfl)
        simp only [ly]
        refine tkI 2 59 ?v3 rfl rfl hS0 ?hy3 ?_
        case hy3 => (intro W hW; clear hW; go_simp; try rfl)
        simp only [ly]
        refine tkI 3 60 ?v4 rfl rfl hS0 ?hy4 ?_
        case hy4 => (intro W hW; clear hW; go_simp; try rfl)
        simp only [ly]
        refine tkI 4 61 ?v5 rfl rfl hS0 ?hy5 ?_
        case hy5 => (intro W hW; clear hW; go_simp; try rfl)
        simp only [ly]
        refine tkI 5 62 ?v6 rfl rfl hS0 ?hy6 ?_
        case hy6 => (intro W hW; clear hW; go_simp; try rfl)
        simp only [ly]
        refine tkI 6 63 ?v7 rfl rfl hS0 ?hy7 ?_
        case hy7 => (intro W hW; clear hW; go_simp; try rfl)
        simp only [ly]
        refine tkI 7 64 ?v8 rfl rfl hS0 ?hy8 ?_
        case hy8 => (intro W hW; clear hW; go_simp; try rfl)
        simp only [ly]
        refine tkI 8 65 ?v9 rfl rfl hS0 ?hy9 ?_
        case hy9 => (intro W hW; clear hW; go_simp; try rfl)
        simp only [ly]
        refine tkI 10 67 ?v10 rfl rfl hS0 ?hy10 ?_
        case hy10 => (intro W hW; have e0 := bcell hW ep0; have e1 := bcell hW ep1; have e2 := bcell hW ep2; have e3 := bcell hW ep3; have e4 := bcell hW eq0; have e5 := bcell hW eq1; have e6 := bcell hW eq2; have e7 := bcell hW eq3; clear hW; go_simp; try rfl)
        simp only [ly]
        refine tkI 11 68 ?v11 rfl rfl hS0 ?hy11 ?_
        case hy11 => (intro W hW; have e0 := bcell hW ep0; have e1 := bcell hW ep1; have e2 := bcell hW ep2; have e3 := bcell hW ep3; have e4 := bcell hW eq0; have e5 := bcell hW eq1; have e6 := bcell hW eq2; have e7 := bcell hW eq3; clear hW; go_simp; try rfl)
        simp only [ly]
        refine wpAnyH_ready (rs := [9]) (by kernel_rfl) (by simp) ?_
        refine AllReadyH.cons rfl (fun K hK => ?_) AllReadyH.nil
        go_simp
        refine (bytes_as _ _ _ _ _ _ B1 B2 _ _ HD1.out (HX1.out.below hS0) (HX2.out.below hS0)).mono ?_
        rintro e wy ⟨rfl, hb⟩
        refine hK.out _ _ ?hs12 (fun hS1 => ?_)
        case hs12 => exact bel_next hS0 hb
        clear hK K hb
        try simp only [ly]
        refine wpAnyH_ready (rs := [12]) (by kernel_rfl) (by simp) ?_
        refine AllReadyH.cons rfl (fun K hK => ?_) AllReadyH.nil
        go_simp
        refine (Same13_ref _ _ _ _ _ _ _ _ _ _ _ _ _ _ _ _ _ _ _ _ _ _ _ _ v1 v2 _ (HV1.out.below hS1) (HV2.out.below hS1)).mono ?_
        rintro e wy ⟨rfl, hb⟩
        rw [HD2.out]
        refine hK.out _ _ ?hs13 (fun hS2 => ?_)
        case hs13 => exact bel_next hS1 hb
        clear hK K hb
        try simp only [ly]
        refine tkI 13 70 ?v14 rfl rfl hS2 ?hy14 ?_
        case hy14 => (intro W hW; clear hW; go_simp; try rfl)
        simp only [ly]
        refine tkI 14 71 ?v15 rfl rfl hS2 ?hy15 ?_
        case hy15 => (intro W hW; clear hW; go_simp; try rfl)
        simp only [ly]
        refine tkI 15 72 ?v16 rfl rfl hS2 ?hy16 ?_
        case hy16 => (intro W hW; clear hW; go_simp; try rfl)
        simp only [ly]
        refine wpAnyH_ready (rs := [16]) (by kernel_rfl) (by simp) ?_
        refine AllReadyH.cons rfl (fun K hK => ?_) AllReadyH.nil
        go_simp
        refine (awake13s _).mono ?_
        rintro e wy ⟨rfl, hb⟩
        refine hK.out _ _ ?hs17 (fun hS3 => ?_)
        case hs17 => exact bel_next hS2 hb
        clear hK K hb
        try simp only [ly]
        refine tkI 17 74 ?v18 rfl rfl hS3 ?hy18 ?_
        case hy18 => (intro W hW; clear hW; go_simp; try rfl)
        simp only [ly]
        refine tkI 18 6 ?v19 rfl rfl hS3 ?hy19 ?_
        case hy19 => (intro W hW; clear hW; go_simp; try rfl)
        simp only [ly]
        refine wpAnyH_done (by kernel_rfl) ?_ _
        go_wp2
        go_ret
        exact ⟨rfl, bel_next HB.out hS3⟩
      · have ep0 := HBP.out.cell 0 _ rfl
        have eq0 := HBQ.out.cell 0 _ rfl
        have ep1 := HBP.out.cell 1 _ rfl
        have eq1 := HBQ.out.cell 1 _ rfl
        have ep2 := HBP.out.cell 2 _ rfl
        have eq2 := HBQ.out.cell 2 _ rfl
        have ep3 := HBP.out.cell 3 _ rfl
        have eq3 := HBQ.out.cell 3 _ rfl
        clear a0 a1 a2 x0 x1 x2 x3 y0 y1 y2 y3
        clear HBK HBR HBT HBP HBQ HP1 HP2 HK HR HT
        refine wp_region_held_drew (S := fun W => Below u2.heap.size u2 W) (by kernel_rfl) ((Below.refl _ u2).drew) (fun hS0 => ?_)
        refine tkI 0 57 ?v20 rfl rfl hS0 ?hy20 ?_
        case hy20 => (intro W hW; clear hW; go_simp; try rfl)
        simp only [ly]
        refine tkI 1 58 ?v21 rfl rfl hS0 ?hy21 ?_
        case hy21 => (intro W hW; clear hW; go_simp; try rfl)
        simp only [ly]
        refine tkI 2 59 ?v22 rfl rfl hS0 ?hy22 ?_
        case hy22 => (intro W hW; clear hW; go_simp; try rfl)
        simp only [ly]
        refine tkI 3 60 ?v23 rfl rfl hS0 ?hy23 ?_
        case hy23 => (intro W hW; clear hW; go_simp; try rfl)
        simp only [ly]
        refine tkI 4 61 ?v24 rfl rfl hS0 ?hy24 ?_
        case hy24 => (intro W hW; clear hW; go_simp; try rfl)
        simp only [ly]
        refine tkI 5 62 ?v25 rfl rfl hS0 ?hy25 ?_
        case hy25 => (intro W hW; clear hW; go_simp; try rfl)
        simp only [ly]
        refine tkI 6 63 ?v26 rfl rfl hS0 ?hy26 ?_
        case hy26 => (intro W hW; clear hW; go_simp; try rfl)
        simp only [ly]
        refine tkI 7 64 ?v27 rfl rfl hS0 ?hy27 ?_
        case hy27 => (intro W hW; clear hW; go_simp; try rfl)
        simp only [ly]
        refine tkI 8 65 ?v28 rfl rfl hS0 ?hy28 ?_
        case hy28 => (intro W hW; clear hW; go_simp; try rfl)
        simp only [ly]
        refine tkI 10 67 ?v29 rfl rfl hS0 ?hy29 ?_
        case hy29 => (intro W hW; have e0 := bcell hW ep0; have e1 := bcell hW ep1; have e2 := bcell hW ep2; have e3 := bcell hW ep3; have e4 := bcell hW eq0; have e5 := bcell hW eq1; have e6 := bcell hW eq2; have e7 := bcell hW eq3; clear hW; go_simp; try rfl)
        simp only [ly]
        refine tkI 11 68 ?v30 rfl rfl hS0 ?hy30 ?_
        case hy30 => (intro W hW; have e0 := bcell hW ep0; have e1 := bcell hW ep1; have e2 := bcell hW ep2; have e3 := bcell hW ep3; have e4 := bcell hW eq0; have e5 := bcell hW eq1; have e6 := bcell hW eq2; have e7 := bcell hW eq3; clear hW; go_simp; try rfl)
        simp only [ly]
        refine wpAnyH_ready (rs := [9]) (by kernel_rfl) (by simp) ?_
        refine AllReadyH.cons rfl (fun K hK => ?_) AllReadyH.nil
        go_simp
        refine (bytes_as _ _ _ _ _ _ B1 B2 _ _ HD1.out (HX1.out.below hS0) (HX2.out.below hS0)).mono ?_
        rintro e wy ⟨rfl, hb⟩
        refine hK.out _ _ ?hs31 (fun hS1 => ?_)
        case hs31 => exact bel_next hS0 hb
        clear hK K hb
        try simp only [ly]
        refine wpAnyH_ready (rs := [12]) (by kernel_rfl) (by simp) ?_
        refine AllReadyH.cons rfl (fun K hK => ?_) AllReadyH.nil
        go_simp
        refine (Same13_ref _ _ _ _ _ _ _ _ _ _ _ _ _ _ _ _ _ _ _ _ _ _ _ _ v1 v2 _ (HV1.out.below hS1) (HV2.out.below hS1)).mono ?_
        rintro e wy ⟨rfl, hb⟩
        rw [HD2.out]
        refine hK.out _ _ ?hs32 (fun hS2 => ?_)
        case hs32 => exact bel_next hS1 hb
        clear hK K hb
        try simp only [ly]
        refine tkI 13 70 ?v33 rfl rfl hS2 ?hy33 ?_
        case hy33 => (intro W hW; clear hW; go_simp; try rfl)
        simp only [ly]
        refine tkI 14 71 ?v34 rfl rfl hS2 ?hy34 ?_
        case hy34 => (intro W hW; clear hW; go_simp; try rfl)
        simp only [ly]
        refine tkI 15 72 ?v35 rfl rfl hS2 ?hy35 ?_
        case hy35 => (intro W hW; clear hW; go_simp; try rfl)
        simp only [ly]
        refine wpAnyH_ready (rs := [16]) (by kernel_rfl) (by simp) ?_
        refine AllReadyH.cons rfl (fun K hK => ?_) AllReadyH.nil
        go_simp
        refine (awake13s _).mono ?_
        rintro e wy ⟨rfl, hb⟩
        refine hK.out _ _ ?hs36 (fun hS3 => ?_)
        case hs36 => exact bel_next hS2 hb
        clear hK K hb
        try simp only [ly]
        refine tkI 17 74 ?v37 rfl rfl hS3 ?hy37 ?_
        case hy37 => (intro W hW; clear hW; go_simp; try rfl)
        simp only [ly]
        refine tkI 18 6 ?v38 rfl rfl hS3 ?hy38 ?_
        case hy38 => (intro W hW; clear hW; go_simp; try rfl)
        simp only [ly]
        refine wpAnyH_done (by kernel_rfl) ?_ _
        go_wp2
        go_ret
        exact ⟨rfl, bel_next HB.out hS3⟩

/-! ### The row's step -/
set_option maxRecDepth 100000 in
theorem lifted (os : Os) (started : os.Started) (H : Type) (enc : TypeId × Value → H) :
    ReturnsInHanded {} Tryz.checked os 6 .any (Rows.rawOneSpec.pre6 enc Tryz.prog Tryz.f6 Rows.rawOneRow.domain false) (Rows.rawOneSpec.post enc Tryz.prog Tryz.f6 false true false false) := by
  refine returnsInHanded_of_change_sized (C := Tryz.checked) own started (by kernel_rfl) Tryz.func6
    (ChangeSpec.witness6 (enc := enc) (C := Tryz.checked) false ⟨#[], #[.agg #[.slice none 0 0, .slice none 0 0, .int .i64 0], .agg #[.slice none 0 0, .slice none 0 0, .slice none 0 0, .slice none 0 0], .agg #[.slice none 0 0, .slice none 0 0, .slice none 0 0, .slice none 0 0]], []⟩ 8 (by kernel_rfl) (by kernel_rfl) (by kernel_rfl) (by kernel_rfl)) ?_
  intro W base args ds gs before hval0 hW hcnd hz0 _
  have hval : ∀ (j : Nat) t v, Tryz.f6.params[j]? = some t → args[j]? = some v → Value.okWide Tryz.prog W .any base t v := hval0
  have hz : (DataW.weightsEach Tryz.prog (Tryz.f6.params.toList ++ Rows.rawOneSpec.plain.varTypes Tryz.prog) (ds ++ gs)).all (· ≤ reachBytes) = true := hz0
  have hW' := hW
  obtain ⟨p, q, hA0, hV, rfl, hfz, hnd⟩ := hW
  have hA : DataW.TrodAll enc Tryz.prog W 0 (fun _ => true) true Tryz.f6.params.toList args.toList ds p := hA0
  rw [Tryz.params6] at hA hval hz
  obtain ⟨v0, vs0, d0, ds0, p0, q0, hargs, rfl, rfl, h0, r0⟩ := trodAll_cons hA
  obtain ⟨v1, vs1, d1, ds1, p1, q1, rfl, rfl, rfl, h1, r1⟩ := trodAll_cons r0
  obtain ⟨v2, vs2, d2, ds2, p2, q2, rfl, rfl, rfl, h2, r2⟩ := trodAll_cons r1
  obtain ⟨rfl, rfl, rfl⟩ := trodAll_nil r2
  obtain rfl : args = #[v0, v1, v2] := by cases args; simp_all
  obtain ⟨rfl, rfl⟩ := trodVars_none hV
  have k0 := h0
  have lt0 : ∀ x ∈ p0, x.block < W.heap.size := by obtain ⟨m, hm⟩ := k0; exact DataW.trod_lt m _ _ _ hm
  have w0 : InKd W v0 := in_kinds (hval 0 25 v0 rfl rfl) h0 (fun n hn => by have := List.all_eq_true.1 hz n (DataW.weights_mem_each (j := 0) (t := 25) rfl rfl n hn); simpa using this)
  have k1 := h1
  have lt1 : ∀ x ∈ p1, x.block < W.heap.size := by obtain ⟨m, hm⟩ := k1; exact DataW.trod_lt m _ _ _ hm
  have w1 : InRw W v1 := in_raw (hval 1 31 v1 rfl rfl) h1 (fun n hn => by have := List.all_eq_true.1 hz n (DataW.weights_mem_each (j := 1) (t := 31) rfl rfl n hn); simpa using this)
  have k2 := h2
  have lt2 : ∀ x ∈ p2, x.block < W.heap.size := by obtain ⟨m, hm⟩ := k2; exact DataW.trod_lt m _ _ _ hm
  have w2 : InRw W v2 := in_raw (hval 2 31 v2 rfl rfl) h2 (fun n hn => by have := List.all_eq_true.1 hz n (DataW.weights_mem_each (j := 2) (t := 31) rfl rfl n hn); simpa using this)
  clear hA0 hval0 hz0
  refine (walk v0 v1 v2 W w0 w1 w2).mono fun e W' ⟨he, bel⟩ => ?_
  subst he
  exact ⟨_, rfl, _, _, _, [], _, [], hW', trodAll_mk1 (shut_bool Tryz.underlying4 _), (trodAll_cons_mk (Below.trod laidOut (by kernel_rfl) (of_decide_eq_true (by kernel_rfl)) k0 bel lt0) (trodAll_cons_mk (Below.trod laidOut (by kernel_rfl) (of_decide_eq_true (by kernel_rfl)) k1 bel lt1) (trodAll_cons_mk (Below.trod laidOut (by kernel_rfl) (of_decide_eq_true (by kernel_rfl)) k2 bel lt2) trodAll_mk0))), rfl, bel.frame _, fun h => by cases h⟩

theorem over : Rows.rawOneRow.holds Tryz.pinned (OpenSpec.ofChange Rows.rawOneSpec) :=
  OpenClaim.holds_of_wide 6 Tryz.f6 rfl rfl rfl rfl rfl rfl rfl ⟨rfl, rfl, rfl, rfl, rfl⟩ rfl rfl rfl rfl rfl (by kernel_rfl) Tryz.func6 (by kernel_rfl)
    (of_decide_eq_true (by kernel_rfl)) (by unfold Func.isWrapper; first | (rw [if_pos (by decide +kernel)]; kernel_rfl) | (rw [if_neg (by decide +kernel)]; exact ⟨rfl, rfl⟩))
    (fun os started H enc _ => lifted os started H enc)
end Go.Proofs.YtkbbegbpkndebaaGreat.rawOne
namespace Go.Proofs.YtkbbegbpkndebaaGreat
theorem rawOne_holds : Rows.RawOneSaid := rawOne.over
end Go.Proofs.YtkbbegbpkndebaaGreat
