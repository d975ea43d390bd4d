/- DiskSafe is true for all acts and either slot: what a disk's slot had when it was synced is there behind whatever is done, crashes too, as long as it is not cleared. No condition. -/
import Derived.Test.YteamedilcpfkgaaRows
import Derived.WalkKit
import Derived.ProofKit
import Derived.OpenShut
import Derived.ShutString
import Derived.ChangeOld
import Derived.Below
import Derived.SizedLaws
import Derived.Test.YteamedilcpfkgaaP8
namespace Go.Proofs.Yteamedilcpfkgaa.diskSafe
open Go.ChangeShapes Go.WideShapes Go.ChangeAt Go.RowKit
set_option linter.unusedVariables false

theorem own : ownKnob Try.prog.godebug = none := by kernel_rfl
theorem laidOut : laidOutB Try.prog = true := by kernel_rfl

/-- What stands between acts ahead of Sync. -/
def SA (w : World) (g B : Nat) (wr : World) : Prop := ∃ d f, LS w g B none 0 [] d f wr
/-- What stands between acts behind Sync: the slot's bytes are safe. -/
def SB (w : World) (g B : Nat) (pr : Option Addr) (lr : List Int) (i : Int) (wr : World) : Prop := ∃ d f, LS w g B pr lr.length lr d f wr ∧ Safe lr (d.get i)
theorem pact_stop {d : Dk} (h : d.stop = -1) (o i : Int) (m : List Int) : (d.pact o i m).1.stop = -1 := by
  unfold Dk.pact
  rw [if_neg (by omega)]
  split
  · exact h
  · split
    · exact h
    · simp only []
      rw [Dk.tick_neg (by rw [Dk.set_stop]; omega), Dk.set_stop]
      exact h
theorem sync_safe (d : Dk) (h : d.stop = -1) (i : Int) (hi : i = 0 ∨ i = 1) : (d.pact 2 i []).2 = 0 ∧ Safe (d.get i).l ((d.pact 2 i []).1.get i) := by
  unfold Dk.pact
  rw [if_neg (show ¬ d.stop = 0 by omega), if_neg (show ¬ (i ≠ 0 ∧ i ≠ 1) by omega), if_neg (fun q => absurd q.1 (by decide))]
  refine ⟨rfl, ?_⟩
  simp only []
  rw [Dk.tick_get, Dk.get_set d i i hi hi, if_pos rfl]
  unfold Safe Sl.act
  rw [if_neg (by decide), if_neg (by decide), if_pos rfl]
  simp only []
  rw [List.take_length]
  exact List.prefix_refl _
set_option maxHeartbeats 8000000 in
theorem walk (v0 : Value) (v1 : Value) (a2 : Bool) (w : World) (w0 : InA w v0) (w1 : InA w v1) :
    Calls Try.prog 3 #[v0, v1, .bool a2] w fun e w' => e = .returned (.bool true) ∧ Below w.heap.size w w' := by
  obtain ⟨a, n, cap, l, rfl, hA, hcp⟩ := w0
  obtain ⟨q2, n2, cap2, l2, rfl, hA2, hcp2⟩ := w1
  have HA := hide hA
  have hmx := hA.max
  have HA2 := hide hA2
  have hmx2 := hA2.max
  unfold maxLen at hmx hmx2
  have HL := hide (lightA_any a n cap l w hA)
  have HL2 := hide (lightA_any q2 n2 cap2 l2 w hA2)
  have HAW := hide (fun w => awake_any w)
  clear hA hcp hA2 hcp2
  go_enter Try.func3, Try.ntmps3
  go_wp2_with fail
  refine HL.out.mono ?_
  rintro e w' ⟨lb, rfl, hlb, hw⟩
  replace hw := hw.symm
  subst hw
  rcases lb with _ | _
  · clear hlb
    go_wp2_with fail
    refine (HAW.out _).mono ?_
    rintro e w1 ⟨rfl, hb⟩
    go_wp2
    go_ret
    exact ⟨rfl, hb⟩
  · obtain ⟨hn40, hfw⟩ := hlb rfl
    have HFW := hide hfw
    clear hlb hfw HL
    go_wp2_with fail
    refine HL2.out.mono ?_
    rintro e w' ⟨lb, rfl, hlb, hw⟩
    replace hw := hw.symm
    subst hw
    rcases lb with _ | _
    · clear hlb
      go_wp2_with fail
      refine (HAW.out _).mono ?_
      rintro e w1 ⟨rfl, hb⟩
      go_wp2
      go_ret
      exact ⟨rfl, hb⟩
    · obtain ⟨hn402, hfw2⟩ := hlb rfl
      have HFW2 := hide hfw2
      clear hlb hfw2 HL2
      go_wp2_with fail
      refine (New_any 3000 _ (by decide) (by decide)).mono ?_
      rintro e w1 ⟨rfl, hp, hb⟩
      rcases a2 with _ | _
      · have P := hide hp
        have HB := hide hb
        clear hp hb
        go_wp2_with fail
        refine (newR_any (X := Xs w.heap.size (.slice none 0 0) (.slice none 0 0)) 3000 w1).mono ?_
        rintro e w3 ⟨v3, rfl, hy, hb⟩
        have hN := P.out.hN
        replace P := hide (P.out.below hb)
        replace HB := hide (HB.out.trans (hb.mono hN))
        obtain ⟨f, hf0⟩ : ∃ f : Dk, f = newD 3000 := ⟨_, rfl⟩
        have hfo : f.ok := by rw [hf0]; exact newD_ok (by decide) (by decide)
        rw [← hf0] at hy
        have R := hide hy
        obtain ⟨pa, ca, pb, cb, rfl, _⟩ := hy
        have HQ : Hid (SA w w.heap.size w3.heap.size (w3.alloc (.cells #[.slice pa f.a.l.length ca, .int .i64 f.a.s, .slice pb f.b.l.length cb, .int .i64 f.b.s, .int .i64 f.room, .int .i64 f.stop, .bool f.dead] 33))) := ⟨_, f, _, _, _, P.out.below (bel1 _ _), R.out.below (bel1 _ _), BX.new _ _ rfl _ _, P.out.notX (Nat.le_refl _), P.out.hN, HB.out.trans ((bel1 _ _).mono P.out.hN), hfo, BSX.nil _ _⟩
        clear hb hN hf0 hfo P HB R
        go_wp2
        generalize w3.alloc (.cells #[.slice pa f.a.l.length ca, .int .i64 f.a.s, .slice pb f.b.l.length cb, .int .i64 f.b.s, .int .i64 f.room, .int .i64 f.stop, .bool f.dead] 33) = wS at *
        generalize w3.heap.size = BB at *
        go_loopw [11] (fun i wr => ∃ k : Nat, k ≤ n ∧ i = .int .i64 k ∧ Hid (SA w w.heap.size BB wr)) (fun i _ => n - (intOf i).toNat)
        case atStart => exact ⟨0, by omega, rfl, HQ.out⟩
        case round =>
          clear HQ
          obtain ⟨k, hk, rfl, HC0⟩ := hrel
          by_cases hlt : k < n
          · obtain ⟨d, f, hls⟩ := HC0.out
            obtain ⟨va, vb, C, hp, hr, hgb, hnb, hnb2, hbl, hfo, hE⟩ := hls
            have P := hide hp
            have R := hide hr
            obtain ⟨pa, ca, pb, cb, hv, _⟩ := hr
            cases hv
            have GB := hide hgb
            have nB := hide hnb
            have hNB := hide hnb2
            have HB := hide hbl
            have HFo := hide hfo
            have E := hide hE
            clear hp hgb hnb hnb2 hbl hfo hE
            obtain ⟨b0, off, rfl⟩ := HA.out.addr (by omega)
            obtain ⟨⟨xo, xi, xb, xn, xks⟩, pB, nB0, cB, pK, nK, cK, hx, hBx, hCx, hNx, _, hnx, x0, x1, x2, x3, x4⟩ := HA.out.one k hlt
            simp only [] at x0 x1 x2 x3 x4
            have hfx : xb.length ≤ 200 := (HFW.out _ (List.mem_of_getElem? hx)).1
            have BSx := hide hBx
            have NSx := hide hNx
            have hk0 : (0 : Int) ≤ (k : Int) := by omega
            have hk1 : (k : Int) < (n : Int) := by omega
            clear hBx hNx hx
            go_upto_region 13 with fail
            refine wp_region_held_drew (S := fun W => Below w.heap.size w W) (by kernel_rfl) (HB.out.drew) (fun hS0 => ?_)
            refine takeInH 0 45 ?v1 rfl rfl (by kernel_rfl) (by kernel_rfl) (by kernel_rfl) (fun _ _ _ h => h) (by kernel_rfl) hS0 ?hy1 ?_
            case hy1 => (intro W hW; clear hW; go_simp; try rfl)
            simp only [Act.put, List.setIfInBounds_toArray, List.set_cons_zero, List.set_cons_succ]
            refine takeInH 2 47 ?v2 rfl rfl (by kernel_rfl) (by kernel_rfl) (by kernel_rfl) (fun _ _ _ h => h) (by kernel_rfl) hS0 ?hy2 ?_
            case hy2 => (intro W hW; clear hW; go_simp; try rfl)
            simp only [Act.put, List.setIfInBounds_toArray, List.set_cons_zero, List.set_cons_succ]
            refine takeInH 3 48 ?v3 rfl rfl (by kernel_rfl) (by kernel_rfl) (by kernel_rfl) (fun _ _ _ h => h) (by kernel_rfl) hS0 ?hy3 ?_
            case hy3 => (intro W hW; clear hW; go_simp; try rfl)
            simp only [Act.put, List.setIfInBounds_toArray, List.set_cons_zero, List.set_cons_succ]
            refine takeInH 4 49 ?v4 rfl rfl (by kernel_rfl) (by kernel_rfl) (by kernel_rfl) (fun _ _ _ h => h) (by kernel_rfl) hS0 ?hy4 ?_
            case hy4 => (intro W hW; clear hW; go_simp; try rfl)
            simp only [Act.put, List.setIfInBounds_toArray, List.set_cons_zero, List.set_cons_succ]
            refine takeInH 5 50 ?v5 rfl rfl (by kernel_rfl) (by kernel_rfl) (by kernel_rfl) (fun _ _ _ h => h) (by kernel_rfl) hS0 ?hy5 ?_
            case hy5 => (intro W hW; have e0 := bcell hW x0; have e1 := bcell hW x1; have e2 := bcell hW x2; have e3 := bcell hW x3; have e4 := bcell hW x4; clear hW; go_simp; try rfl)
            simp only [Act.put, List.setIfInBounds_toArray, List.set_cons_zero, List.set_cons_succ]
            refine wpAnyH_ready (rs := [1]) (by kernel_rfl) (by simp) ?_
            refine AllReadyH.cons rfl (fun K hK => ?_) AllReadyH.nil
            have c0 := GB.out.cell 0 _ rfl
            have c1 := GB.out.cell 1 _ rfl
            have c2 := GB.out.cell 2 _ rfl
            have c3 := GB.out.cell 3 _ rfl
            have c4 := GB.out.cell 4 _ rfl
            have c5 := GB.out.cell 5 _ rfl
            have c6 := GB.out.cell 6 _ rfl
            go_simp
            clear c0 c1 c2 c3 c4 c5 c6
            go_simp
            refine hK.out _ _ ?hs6 (fun hS1 => ?_)
            case hs6 => exact hS0
            clear hK K
            try simp only [Act.put, List.setIfInBounds_toArray, List.set_cons_zero, List.set_cons_succ]
            refine wpAnyH_ready (rs := [6]) (by kernel_rfl) (by simp) ?_
            refine AllReadyH.cons rfl (fun K hK => ?_) AllReadyH.nil
            go_simp
            have DR : Below wr.heap.size wr wr.drew := (Below.refl _ wr).drew
            refine (Do_any _ (⟨xo, xi, xb, xn, xks⟩ : Ac) pB nB0 cB pK nK cK _ (P.out.below DR) (R.out.below DR) HFo.out (BSx.out.inX HB.out.drew P.out.ge) hCx (NSx.out.inN HB.out.drew) hfx hnx).mono ?_
            rintro e w1 ⟨va', vb', y, bb, rfl, hp, hy, hs, hb⟩
            have nB1 := hide (hs.notX (show BB < wr.drew.heap.size from GB.out.size) nB.out)
            have GB1 := hide ((GB.out.below DR).stp hs nB.out)
            have E1 := hide ((E.out.below DR).stp hs)
            have P1 := hide hp
            have BW : Below w.heap.size w w1 := (HB.out.drew).trans hb
            have HBW := hide BW
            have HY := hide hy
            have HFo2 := hide (lawR_ok HFo.out (⟨xo, xi, xb, xn, xks⟩ : Ac) BSx.out.2.2.1 hnx)
            generalize hlr : lawR f (⟨xo, xi, xb, xn, xks⟩ : Ac) = ff at *
            have HLR := hide hlr
            obtain ⟨pa2, ca2, pb2, cb2, rfl, _⟩ := hy
            clear hp hs hb hlr DR P R GB nB HFo E BSx NSx hCx
            try go_wp2_with fail
            refine hK.out _ _ ?hs7 (fun hS2 => ?_)
            case hs7 => exact BW
            clear hK K
            try simp only [Act.put, List.setIfInBounds_toArray, List.set_cons_zero, List.set_cons_succ]
            refine takeInH 7 44 ?v8 rfl rfl (by kernel_rfl) (by kernel_rfl) (by kernel_rfl) (fun _ _ _ h => h) (by kernel_rfl) hS2 ?hy8 ?_
            case hy8 => (intro W hW; clear hW; go_simp; try rfl)
            simp only [Act.put, List.setIfInBounds_toArray, List.set_cons_zero, List.set_cons_succ]
            refine takeInH 8 52 ?v9 rfl rfl (by kernel_rfl) (by kernel_rfl) (by kernel_rfl) (fun _ _ _ h => h) (by kernel_rfl) hS2 ?hy9 ?_
            case hy9 => (intro W hW; clear hW; go_simp; try rfl)
            simp only [Act.put, List.setIfInBounds_toArray, List.set_cons_zero, List.set_cons_succ]
            refine takeInH 9 53 ?v10 rfl rfl (by kernel_rfl) (by kernel_rfl) (by kernel_rfl) (fun _ _ _ h => h) (by kernel_rfl) hS2 ?hy10 ?_
            case hy10 => (intro W hW; clear hW; go_simp; try rfl)
            simp only [Act.put, List.setIfInBounds_toArray, List.set_cons_zero, List.set_cons_succ]
            refine wpAnyH_ready (rs := [10]) (by kernel_rfl) (by simp) ?_
            refine AllReadyH.cons rfl (fun K hK => ?_) AllReadyH.nil
            have c0 := GB1.out.cell 0 _ rfl
            have c1 := GB1.out.cell 1 _ rfl
            have c2 := GB1.out.cell 2 _ rfl
            have c3 := GB1.out.cell 3 _ rfl
            have c4 := GB1.out.cell 4 _ rfl
            have c5 := GB1.out.cell 5 _ rfl
            have c6 := GB1.out.cell 6 _ rfl
            have hfr := fun j => GB1.out.free j
            go_simp
            clear c0 c1 c2 c3 c4 c5 c6 hfr
            obtain ⟨r1, r2, r3, r4⟩ := GB1.out.put7 (.slice pa2 ff.a.l.length ca2) (.int .i64 ff.a.s) (.slice pb2 ff.b.l.length cb2) (.int .i64 ff.b.s) (.int .i64 ff.room) (.int .i64 ff.stop) (.bool ff.dead)
            have BW2 := r3 _ _ HBW.out hNB.out
            have HQ2 : Hid (LS w w.heap.size BB none 0 [] (lawP d (⟨xo, xi, xb, xn, xks⟩ : Ac)) ff _) := ⟨va', vb', _, P1.out.moved r4 nB1.out, HY.out.kp r2 GB1.out (NoB.disk _ _ _ _ _ _ _ _ _ _ _), r1, nB1.out, hNB.out, BW2, HFo2.out, E1.out.kp r2 GB1.out (NoB.disk _ _ _ _ _ _ _ _ _ _ _)⟩
            clear r1 r2 r3 r4
            go_simp
            refine hK.out _ _ ?hs11 (fun hS3 => ?_)
            case hs11 => exact BW2
            clear hK K
            try simp only [Act.put, List.setIfInBounds_toArray, List.set_cons_zero, List.set_cons_succ]
            refine wpAnyH_done (by kernel_rfl) ?_ _
            go_wp2
            go_roundw
            case rel => exact ⟨k + 1, by omega, by go_num, ⟨_, _, HQ2⟩⟩
            case measure => simp [intOf]; omega
          · have hkn : k = n := by omega
            subst hkn
            obtain ⟨d, f, hls⟩ := HC0.out
            obtain ⟨va, vb, C, hp, hr, hgb, hnb, hnb2, hbl, hfo, hE⟩ := hls
            have P := hide hp
            have R := hide hr
            obtain ⟨pa, ca, pb, cb, hv, _⟩ := hr
            cases hv
            have GB := hide hgb
            have nB := hide hnb
            have hNB := hide hnb2
            have HB := hide hbl
            have HFo := hide hfo
            have E := hide hE
            clear hp hgb hnb hnb2 hbl hfo hE
            clear HC0 E
            go_wp2_with fail
            refine (Crash_any none 0 0 [] _ P.out (NSN.nil _ _)).mono ?_
            rintro e w5 ⟨va1, vb1, rfl, hp, hs, hb⟩
            have n1 := hide (hs.notX GB.out.size nB.out)
            replace GB := hide ((GB.out.stp hs nB.out).alloc (.cells #[.int .u8 7, .int .u8 8, .int .u8 9] 5))
            replace R := hide ((R.out.stp hs).below (bel1 w5 (.cells #[.int .u8 7, .int .u8 8, .int .u8 9] 5)))
            replace nB := n1
            have hN := hp.hN
            replace P := hide (hp.below (bel1 w5 (.cells #[.int .u8 7, .int .u8 8, .int .u8 9] 5)))
            replace HB := hide ((HB.out.trans hb).trans ((bel1 w5 (.cells #[.int .u8 7, .int .u8 8, .int .u8 9] 5)).mono hN))
            have L := hide (BS.lit w5 [7, 8, 9] 3 rfl #[.int .u8 7, .int .u8 8, .int .u8 9] rfl (by decide) (by unfold By; decide))
            have hst : Hid ((d.crash []).stop = -1) := rfl
            generalize d.crash [] = d1 at *
            clear hp hs hb hN n1
            go_wp2_with fail
            refine (Append_any 0 _ _ _ [7, 8, 9] _ P.out L.out.1 L.out.2).mono ?_
            rintro e w6 ⟨va2, vb2, rfl, hp, hs, hb⟩
            have n1 := hide (hs.notX GB.out.size nB.out)
            replace GB := hide (GB.out.stp hs nB.out)
            replace R := hide (R.out.stp hs)
            replace nB := n1
            replace P := hide hp
            replace HB := hide (HB.out.trans hb)
            have hst2 : Hid ((d1.pact 0 0 [7, 8, 9]).1.stop = -1) := pact_stop hst.out 0 0 _
            generalize (d1.pact 0 0 [7, 8, 9]).1 = d2 at *
            generalize (d1.pact 0 0 [7, 8, 9]).2 = cd at *
            clear hp hs hb n1 hst L
            have hs0 : Hid (d2.stop ≠ 0) := by have := hst2.out; unfold Hid; omega
            go_wp2_with fail
            refine (Read_any 0 _ P.out hs0.out (by decide)).mono ?_
            rintro e w7 ⟨v7, rfl, ho, hb⟩
            have hX7 := hide (P.out.xs)
            obtain ⟨pr, cr, rfl, hbs, hcr⟩ := ho.open (Dk.get_ok P.out.ok 0).1
            have E : Hid (BSX (Xs w.heap.size va2 vb2) w7 pr (d2.get 0).l.length (d2.get 0).l) := ⟨hbs, ho.off hX7.out⟩
            have hN := P.out.hN
            replace P := hide (P.out.below hb)
            replace R := hide (R.out.below hb)
            replace GB := hide (GB.out.below hb)
            replace HB := hide (HB.out.trans (hb.mono hN))
            have hlr : (d2.get 0).l.length ≤ 1048576 := by
              have q := P.out.ok.lens
              unfold Dk.get
              split <;> omega
            clear hb hN ho hbs hX7
            go_wp2_with fail
            refine (Sync_any 0 _ P.out).mono ?_
            rintro e w8 ⟨va3, vb3, rfl, hp, hs, hb⟩
            have n1 := hide (hs.notX GB.out.size nB.out)
            have GB8 := hide (GB.out.stp hs nB.out)
            have R8 := hide (R.out.stp hs)
            have E8 := hide (E.out.stp hs)
            obtain ⟨sc, sf⟩ := sync_safe d2 hst2.out 0 (by decide)
            rw [sc]
            have HB8 := hide (HB.out.trans hb)
            have HQ : Hid (SB w w.heap.size BB pr (d2.get 0).l 0 w8) := ⟨_, f, ⟨_, _, _, hp, R8.out, GB8.out, n1.out, hNB.out, HB8.out, HFo.out, E8.out⟩, sf⟩
            clear hp hs hb n1 GB GB8 R R8 E E8 HB HB8 P nB sc sf
            go_wp2
            go_loopw [14] (fun i wr => ∃ k : Nat, k ≤ n2 ∧ i = .int .i64 k ∧ Hid (SB w w.heap.size BB pr (d2.get 0).l 0 wr)) (fun i _ => n2 - (intOf i).toNat)
            case atStart => exact ⟨0, by omega, rfl, HQ.out⟩
            case round =>
              clear HQ HFo hNB
              obtain ⟨k2, hk, rfl, HC0⟩ := hrel
              by_cases hlt : k2 < n2
              · obtain ⟨d, f, hls, hsf⟩ := HC0.out
                obtain ⟨va, vb, C, hp, hr, hgb, hnb, hnb2, hbl, hfo, hE⟩ := hls
                have P := hide hp
                have R := hide hr
                obtain ⟨pa, ca, pb, cb, hv, _⟩ := hr
                cases hv
                have GB := hide hgb
                have nB := hide hnb
                have hNB := hide hnb2
                have HB := hide hbl
                have HFo := hide hfo
                have E := hide hE
                clear hp hgb hnb hnb2 hbl hfo hE
                obtain ⟨b0, off, rfl⟩ := HA2.out.addr (by omega)
                obtain ⟨⟨xo, xi, xb, xn, xks⟩, pB, nB0, cB, pK, nK, cK, hx, hBx, hCx, hNx, _, hnx, x0, x1, x2, x3, x4⟩ := HA2.out.one k2 hlt
                simp only [] at x0 x1 x2 x3 x4
                have hfx : xb.length ≤ 200 := (HFW2.out _ (List.mem_of_getElem? hx)).1
                have BSx := hide hBx
                have NSx := hide hNx
                have hk0 : (0 : Int) ≤ (k2 : Int) := by omega
                have hk1 : (k2 : Int) < (n2 : Int) := by omega
                clear hBx hNx hx
                have y0 := bcell HB.out x0
                have y1 := bcell HB.out x1
                by_cases hq : xo = 1 ∧ xi = 0
                · obtain ⟨rfl, rfl⟩ := hq
                  have hN := P.out.hN
                  go_wp2_with fail
                  refine (HAW.out _).mono ?_
                  rintro e w9 ⟨rfl, hb⟩
                  go_wp2
                  go_ret
                  exact ⟨rfl, HB.out.trans (hb.mono hN)⟩
                · have HSF := hide (hsf.law 0 (by decide) P.out.ok (⟨xo, xi, xb, xn, xks⟩ : Ac) hq)
                  clear hsf
                  by_cases h1 : xo = 1
                  · have h2 : (xi == 0) = false := by simp; intro e; exact hq ⟨h1, e⟩
                    subst h1
                    clear hq
                    go_upto_region 24 with fail
                    refine wp_region_held_drew (S := fun W => Below w.heap.size w W) (by kernel_rfl) (HB.out.drew) (fun hS0 => ?_)
                    refine takeInH 0 97 ?v12 rfl rfl (by kernel_rfl) (by kernel_rfl) (by kernel_rfl) (fun _ _ _ h => h) (by kernel_rfl) hS0 ?hy12 ?_
                    case hy12 => (intro W hW; clear hW; go_simp; try rfl)
                    simp only [Act.put, List.setIfInBounds_toArray, List.set_cons_zero, List.set_cons_succ]
                    refine takeInH 2 99 ?v13 rfl rfl (by kernel_rfl) (by kernel_rfl) (by kernel_rfl) (fun _ _ _ h => h) (by kernel_rfl) hS0 ?hy13 ?_
                    case hy13 => (intro W hW; clear hW; go_simp; try rfl)
                    simp only [Act.put, List.setIfInBounds_toArray, List.set_cons_zero, List.set_cons_succ]
                    refine takeInH 3 100 ?v14 rfl rfl (by kernel_rfl) (by kernel_rfl) (by kernel_rfl) (fun _ _ _ h => h) (by kernel_rfl) hS0 ?hy14 ?_
                    case hy14 => (intro W hW; clear hW; go_simp; try rfl)
                    simp only [Act.put, List.setIfInBounds_toArray, List.set_cons_zero, List.set_cons_succ]
                    refine takeInH 4 101 ?v15 rfl rfl (by kernel_rfl) (by kernel_rfl) (by kernel_rfl) (fun _ _ _ h => h) (by kernel_rfl) hS0 ?hy15 ?_
                    case hy15 => (intro W hW; clear hW; go_simp; try rfl)
                    simp only [Act.put, List.setIfInBounds_toArray, List.set_cons_zero, List.set_cons_succ]
                    refine takeInH 5 102 ?v16 rfl rfl (by kernel_rfl) (by kernel_rfl) (by kernel_rfl) (fun _ _ _ h => h) (by kernel_rfl) hS0 ?hy16 ?_
                    case hy16 => (intro W hW; have e0 := bcell hW x0; have e1 := bcell hW x1; have e2 := bcell hW x2; have e3 := bcell hW x3; have e4 := bcell hW x4; clear hW; go_simp; try rfl)
                    simp only [Act.put, List.setIfInBounds_toArray, List.set_cons_zero, List.set_cons_succ]
                    refine wpAnyH_ready (rs := [1]) (by kernel_rfl) (by simp) ?_
                    refine AllReadyH.cons rfl (fun K hK => ?_) AllReadyH.nil
                    have c0 := GB.out.cell 0 _ rfl
                    have c1 := GB.out.cell 1 _ rfl
                    have c2 := GB.out.cell 2 _ rfl
                    have c3 := GB.out.cell 3 _ rfl
                    have c4 := GB.out.cell 4 _ rfl
                    have c5 := GB.out.cell 5 _ rfl
                    have c6 := GB.out.cell 6 _ rfl
                    go_simp
                    clear c0 c1 c2 c3 c4 c5 c6
                    go_simp
                    refine hK.out _ _ ?hs17 (fun hS1 => ?_)
                    case hs17 => exact hS0
                    clear hK K
                    try simp only [Act.put, List.setIfInBounds_toArray, List.set_cons_zero, List.set_cons_succ]
                    refine wpAnyH_ready (rs := [6]) (by kernel_rfl) (by simp) ?_
                    refine AllReadyH.cons rfl (fun K hK => ?_) AllReadyH.nil
                    go_simp
                    have DR : Below wr.heap.size wr wr.drew := (Below.refl _ wr).drew
                    refine (Do_any _ (⟨1, xi, xb, xn, xks⟩ : Ac) pB nB0 cB pK nK cK _ (P.out.below DR) (R.out.below DR) HFo.out (BSx.out.inX HB.out.drew P.out.ge) hCx (NSx.out.inN HB.out.drew) hfx hnx).mono ?_
                    rintro e w1 ⟨va', vb', y, bb, rfl, hp, hy, hs, hb⟩
                    have nB1 := hide (hs.notX (show BB < wr.drew.heap.size from GB.out.size) nB.out)
                    have GB1 := hide ((GB.out.below DR).stp hs nB.out)
                    have E1 := hide ((E.out.below DR).stp hs)
                    have P1 := hide hp
                    have BW : Below w.heap.size w w1 := (HB.out.drew).trans hb
                    have HBW := hide BW
                    have HY := hide hy
                    have HFo2 := hide (lawR_ok HFo.out (⟨1, xi, xb, xn, xks⟩ : Ac) BSx.out.2.2.1 hnx)
                    generalize hlr : lawR f (⟨1, xi, xb, xn, xks⟩ : Ac) = ff at *
                    have HLR := hide hlr
                    obtain ⟨pa2, ca2, pb2, cb2, rfl, _⟩ := hy
                    clear hp hs hb hlr DR P R GB nB HFo E BSx NSx hCx
                    try go_wp2_with fail
                    refine hK.out _ _ ?hs18 (fun hS2 => ?_)
                    case hs18 => exact BW
                    clear hK K
                    try simp only [Act.put, List.setIfInBounds_toArray, List.set_cons_zero, List.set_cons_succ]
                    refine takeInH 7 96 ?v19 rfl rfl (by kernel_rfl) (by kernel_rfl) (by kernel_rfl) (fun _ _ _ h => h) (by kernel_rfl) hS2 ?hy19 ?_
                    case hy19 => (intro W hW; clear hW; go_simp; try rfl)
                    simp only [Act.put, List.setIfInBounds_toArray, List.set_cons_zero, List.set_cons_succ]
                    refine takeInH 8 104 ?v20 rfl rfl (by kernel_rfl) (by kernel_rfl) (by kernel_rfl) (fun _ _ _ h => h) (by kernel_rfl) hS2 ?hy20 ?_
                    case hy20 => (intro W hW; clear hW; go_simp; try rfl)
                    simp only [Act.put, List.setIfInBounds_toArray, List.set_cons_zero, List.set_cons_succ]
                    refine takeInH 9 105 ?v21 rfl rfl (by kernel_rfl) (by kernel_rfl) (by kernel_rfl) (fun _ _ _ h => h) (by kernel_rfl) hS2 ?hy21 ?_
                    case hy21 => (intro W hW; clear hW; go_simp; try rfl)
                    simp only [Act.put, List.setIfInBounds_toArray, List.set_cons_zero, List.set_cons_succ]
                    refine wpAnyH_ready (rs := [10]) (by kernel_rfl) (by simp) ?_
                    refine AllReadyH.cons rfl (fun K hK => ?_) AllReadyH.nil
                    have c0 := GB1.out.cell 0 _ rfl
                    have c1 := GB1.out.cell 1 _ rfl
                    have c2 := GB1.out.cell 2 _ rfl
                    have c3 := GB1.out.cell 3 _ rfl
                    have c4 := GB1.out.cell 4 _ rfl
                    have c5 := GB1.out.cell 5 _ rfl
                    have c6 := GB1.out.cell 6 _ rfl
                    have hfr := fun j => GB1.out.free j
                    go_simp
                    clear c0 c1 c2 c3 c4 c5 c6 hfr
                    obtain ⟨r1, r2, r3, r4⟩ := GB1.out.put7 (.slice pa2 ff.a.l.length ca2) (.int .i64 ff.a.s) (.slice pb2 ff.b.l.length cb2) (.int .i64 ff.b.s) (.int .i64 ff.room) (.int .i64 ff.stop) (.bool ff.dead)
                    have BW2 := r3 _ _ HBW.out hNB.out
                    have HQ2 : Hid (LS w w.heap.size BB pr (d2.get 0).l.length (d2.get 0).l (lawP d (⟨1, xi, xb, xn, xks⟩ : Ac)) ff _) := ⟨va', vb', _, P1.out.moved r4 nB1.out, HY.out.kp r2 GB1.out (NoB.disk _ _ _ _ _ _ _ _ _ _ _), r1, nB1.out, hNB.out, BW2, HFo2.out, E1.out.kp r2 GB1.out (NoB.disk _ _ _ _ _ _ _ _ _ _ _)⟩
                    clear r1 r2 r3 r4
                    go_simp
                    refine hK.out _ _ ?hs22 (fun hS3 => ?_)
                    case hs22 => exact BW2
                    clear hK K
                    try simp only [Act.put, List.setIfInBounds_toArray, List.set_cons_zero, List.set_cons_succ]
                    refine wpAnyH_done (by kernel_rfl) ?_ _
                    go_wp2
                    go_roundw
                    case rel => exact ⟨k2 + 1, by omega, by go_num, ⟨_, _, HQ2, HSF.out⟩⟩
                    case measure => simp [intOf]; omega
                  · have h2 : (xo == 1) = false := by simpa using h1
                    clear hq h1
                    go_upto_region 24 with fail
                    refine wp_region_held_drew (S := fun W => Below w.heap.size w W) (by kernel_rfl) (HB.out.drew) (fun hS0 => ?_)
                    refine takeInH 0 97 ?v23 rfl rfl (by kernel_rfl) (by kernel_rfl) (by kernel_rfl) (fun _ _ _ h => h) (by kernel_rfl) hS0 ?hy23 ?_
                    case hy23 => (intro W hW; clear hW; go_simp; try rfl)
                    simp only [Act.put, List.setIfInBounds_toArray, List.set_cons_zero, List.set_cons_succ]
                    refine takeInH 2 99 ?v24 rfl rfl (by kernel_rfl) (by kernel_rfl) (by kernel_rfl) (fun _ _ _ h => h) (by kernel_rfl) hS0 ?hy24 ?_
                    case hy24 => (intro W hW; clear hW; go_simp; try rfl)
                    simp only [Act.put, List.setIfInBounds_toArray, List.set_cons_zero, List.set_cons_succ]
                    refine takeInH 3 100 ?v25 rfl rfl (by kernel_rfl) (by kernel_rfl) (by kernel_rfl) (fun _ _ _ h => h) (by kernel_rfl) hS0 ?hy25 ?_
                    case hy25 => (intro W hW; clear hW; go_simp; try rfl)
                    simp only [Act.put, List.setIfInBounds_toArray, List.set_cons_zero, List.set_cons_succ]
                    refine takeInH 4 101 ?v26 rfl rfl (by kernel_rfl) (by kernel_rfl) (by kernel_rfl) (fun _ _ _ h => h) (by kernel_rfl) hS0 ?hy26 ?_
                    case hy26 => (intro W hW; clear hW; go_simp; try rfl)
                    simp only [Act.put, List.setIfInBounds_toArray, List.set_cons_zero, List.set_cons_succ]
                    refine takeInH 5 102 ?v27 rfl rfl (by kernel_rfl) (by kernel_rfl) (by kernel_rfl) (fun _ _ _ h => h) (by kernel_rfl) hS0 ?hy27 ?_
                    case hy27 => (intro W hW; have e0 := bcell hW x0; have e1 := bcell hW x1; have e2 := bcell hW x2; have e3 := bcell hW x3; have e4 := bcell hW x4; clear hW; go_simp; try rfl)
                    simp only [Act.put, List.setIfInBounds_toArray, List.set_cons_zero, List.set_cons_succ]
                    refine wpAnyH_ready (rs := [1]) (by kernel_rfl) (by simp) ?_
                    refine AllReadyH.cons rfl (fun K hK => ?_) AllReadyH.nil
                    have c0 := GB.out.cell 0 _ rfl
                    have c1 := GB.out.cell 1 _ rfl
                    have c2 := GB.out.cell 2 _ rfl
                    have c3 := GB.out.cell 3 _ rfl
                    have c4 := GB.out.cell 4 _ rfl
                    have c5 := GB.out.cell 5 _ rfl
                    have c6 := GB.out.cell 6 _ rfl
                    go_simp
                    clear c0 c1 c2 c3 c4 c5 c6
                    go_simp
                    refine hK.out _ _ ?hs28 (fun hS1 => ?_)
                    case hs28 => exact hS0
                    clear hK K
                    try simp only [Act.put, List.setIfInBounds_toArray, List.set_cons_zero, List.set_cons_succ]
                    refine wpAnyH_ready (rs := [6]) (by kernel_rfl) (by simp) ?_
                    refine AllReadyH.cons rfl (fun K hK => ?_) AllReadyH.nil
                    go_simp
                    have DR : Below wr.heap.size wr wr.drew := (Below.refl _ wr).drew
                    refine (Do_any _ (⟨xo, xi, xb, xn, xks⟩ : Ac) pB nB0 cB pK nK cK _ (P.out.below DR) (R.out.below DR) HFo.out (BSx.out.inX HB.out.drew P.out.ge) hCx (NSx.out.inN HB.out.drew) hfx hnx).mono ?_
                    rintro e w1 ⟨va', vb', y, bb, rfl, hp, hy, hs, hb⟩
                    have nB1 := hide (hs.notX (show BB < wr.drew.heap.size from GB.out.size) nB.out)
                    have GB1 := hide ((GB.out.below DR).stp hs nB.out)
                    have E1 := hide ((E.out.below DR).stp hs)
                    have P1 := hide hp
                    have BW : Below w.heap.size w w1 := (HB.out.drew).trans hb
                    have HBW := hide BW
                    have HY := hide hy
                    have HFo2 := hide (lawR_ok HFo.out (⟨xo, xi, xb, xn, xks⟩ : Ac) BSx.out.2.2.1 hnx)
                    generalize hlr : lawR f (⟨xo, xi, xb, xn, xks⟩ : Ac) = ff at *
                    have HLR := hide hlr
                    obtain ⟨pa2, ca2, pb2, cb2, rfl, _⟩ := hy
                    clear hp hs hb hlr DR P R GB nB HFo E BSx NSx hCx
                    try go_wp2_with fail
                    refine hK.out _ _ ?hs29 (fun hS2 => ?_)
                    case hs29 => exact BW
                    clear hK K
                    try simp only [Act.put, List.setIfInBounds_toArray, List.set_cons_zero, List.set_cons_succ]
                    refine takeInH 7 96 ?v30 rfl rfl (by kernel_rfl) (by kernel_rfl) (by kernel_rfl) (fun _ _ _ h => h) (by kernel_rfl) hS2 ?hy30 ?_
                    case hy30 => (intro W hW; clear hW; go_simp; try rfl)
                    simp only [Act.put, List.setIfInBounds_toArray, List.set_cons_zero, List.set_cons_succ]
                    refine takeInH 8 104 ?v31 rfl rfl (by kernel_rfl) (by kernel_rfl) (by kernel_rfl) (fun _ _ _ h => h) (by kernel_rfl) hS2 ?hy31 ?_
                    case hy31 => (intro W hW; clear hW; go_simp; try rfl)
                    simp only [Act.put, List.setIfInBounds_toArray, List.set_cons_zero, List.set_cons_succ]
                    refine takeInH 9 105 ?v32 rfl rfl (by kernel_rfl) (by kernel_rfl) (by kernel_rfl) (fun _ _ _ h => h) (by kernel_rfl) hS2 ?hy32 ?_
                    case hy32 => (intro W hW; clear hW; go_simp; try rfl)
                    simp only [Act.put, List.setIfInBounds_toArray, List.set_cons_zero, List.set_cons_succ]
                    refine wpAnyH_ready (rs := [10]) (by kernel_rfl) (by simp) ?_
                    refine AllReadyH.cons rfl (fun K hK => ?_) AllReadyH.nil
                    have c0 := GB1.out.cell 0 _ rfl
                    have c1 := GB1.out.cell 1 _ rfl
                    have c2 := GB1.out.cell 2 _ rfl
                    have c3 := GB1.out.cell 3 _ rfl
                    have c4 := GB1.out.cell 4 _ rfl
                    have c5 := GB1.out.cell 5 _ rfl
                    have c6 := GB1.out.cell 6 _ rfl
                    have hfr := fun j => GB1.out.free j
                    go_simp
                    clear c0 c1 c2 c3 c4 c5 c6 hfr
                    obtain ⟨r1, r2, r3, r4⟩ := GB1.out.put7 (.slice pa2 ff.a.l.length ca2) (.int .i64 ff.a.s) (.slice pb2 ff.b.l.length cb2) (.int .i64 ff.b.s) (.int .i64 ff.room) (.int .i64 ff.stop) (.bool ff.dead)
                    have BW2 := r3 _ _ HBW.out hNB.out
                    have HQ2 : Hid (LS w w.heap.size BB pr (d2.get 0).l.length (d2.get 0).l (lawP d (⟨xo, xi, xb, xn, xks⟩ : Ac)) ff _) := ⟨va', vb', _, P1.out.moved r4 nB1.out, HY.out.kp r2 GB1.out (NoB.disk _ _ _ _ _ _ _ _ _ _ _), r1, nB1.out, hNB.out, BW2, HFo2.out, E1.out.kp r2 GB1.out (NoB.disk _ _ _ _ _ _ _ _ _ _ _)⟩
                    clear r1 r2 r3 r4
                    go_simp
                    refine hK.out _ _ ?hs33 (fun hS3 => ?_)
                    case hs33 => exact BW2
                    clear hK K
                    try simp only [Act.put, List.setIfInBounds_toArray, List.set_cons_zero, List.set_cons_succ]
                    refine wpAnyH_done (by kernel_rfl) ?_ _
                    go_wp2
                    go_roundw
                    case rel => exact ⟨k2 + 1, by omega, by go_num, ⟨_, _, HQ2, HSF.out⟩⟩
                    case measure => simp [intOf]; omega
              · have hkn : k2 = n2 := by omega
                subst hkn
                obtain ⟨d, f, hls, hsf⟩ := HC0.out
                obtain ⟨va, vb, C, hp, hr, hgb, hnb, hnb2, hbl, hfo, hE⟩ := hls
                have P := hide hp
                have R := hide hr
                obtain ⟨pa, ca, pb, cb, hv, _⟩ := hr
                cases hv
                have GB := hide hgb
                have nB := hide hnb
                have hNB := hide hnb2
                have HB := hide hbl
                have HFo := hide hfo
                have E := hide hE
                clear hp hgb hnb hnb2 hbl hfo hE
                clear HC0 R GB HFo
                have HSF := hide (hsf.crash (Dk.get_ok P.out.ok 0) [][((0 : Int)).toNat]?)
                clear hsf
                go_wp2_with fail
                refine (Crash_any none 0 0 [] _ P.out (NSN.nil _ _)).mono ?_
                rintro e w5 ⟨va1, vb1, rfl, hp, hs, hb⟩
                have hst : Hid ((d.crash []).stop ≠ 0) := by show (-1 : Int) ≠ 0; decide
                rw [← Dk.crash_get d [] 0 (by decide)] at HSF
                generalize d.crash [] = d3 at *
                replace P := hide hp
                replace HB := hide (HB.out.trans hb)
                replace E := hide (E.out.stp hs)
                clear hp hs hb nB
                go_wp2_with fail
                refine (Read_any 0 _ P.out hst.out (by decide)).mono ?_
                rintro e w9 ⟨v9, rfl, ho, hb⟩
                obtain ⟨p9, c9, rfl, hbs, hcp⟩ := ho.open (Dk.get_ok P.out.ok 0).1
                have hN := P.out.hN
                replace HB := hide (HB.out.trans (hb.mono hN))
                replace E := hide (E.out.below hb)
                have hz9 := Nat.le_trans hN hb.size
                have hpre := HSF.out.pre
                have hle := hpre.length_le
                have hl9 : (d3.get 0).l.length ≤ 1048576 := by
                  have q := P.out.ok.lens
                  unfold Dk.get
                  split <;> omega
                have hc9 := hcp.1
                have hc92 := hcp.2.1
                unfold maxLen at hc92
                have V9 := hide (hbs.head (d2.get 0).l.length hle)
                have HTK : Hid ((d3.get 0).l.take (d2.get 0).l.length = (d2.get 0).l) := (List.prefix_iff_eq_take.1 hpre).symm
                rw [HTK.out] at V9
                have hz9' := hide hz9
                have hleI : ((d2.get 0).l.length : Int) ≤ ((d3.get 0).l.length : Int) := by omega
                have hleC : ((d2.get 0).l.length : Int) ≤ (c9 : Int) := by omega
                have hge : ((d3.get 0).l.length : Int) ≥ ((d2.get 0).l.length : Int) := by omega
                clear hb hN ho hbs hcp hpre hz9 HSF P HTK
                go_wp2_with fail
                refine (bytes_as _ _ _ _ _ _ _ _ _ true (by simp) V9.out E.out.1).mono ?_
                rintro e w10 ⟨rfl, hb⟩
                replace HB := hide (HB.out.trans (hb.mono hz9'.out))
                have hz10 := Nat.le_trans hz9'.out hb.size
                clear hb
                go_wp2_with fail
                refine (HAW.out _).mono ?_
                rintro e w11 ⟨rfl, hb⟩
                go_wp2
                go_ret
                exact ⟨rfl, HB.out.trans (hb.mono hz10)⟩
      · have P := hide hp
        have HB := hide hb
        clear hp hb
        go_wp2_with fail
        refine (newR_any (X := Xs w.heap.size (.slice none 0 0) (.slice none 0 0)) 3000 w1).mono ?_
        rintro e w3 ⟨v3, rfl, hy, hb⟩
        have hN := P.out.hN
        replace P := hide (P.out.below hb)
        replace HB := hide (HB.out.trans (hb.mono hN))
        obtain ⟨f, hf0⟩ : ∃ f : Dk, f = newD 3000 := ⟨_, rfl⟩
        have hfo : f.ok := by rw [hf0]; exact newD_ok (by decide) (by decide)
        rw [← hf0] at hy
        have R := hide hy
        obtain ⟨pa, ca, pb, cb, rfl, _⟩ := hy
        have HQ : Hid (SA w w.heap.size w3.heap.size (w3.alloc (.cells #[.slice pa f.a.l.length ca, .int .i64 f.a.s, .slice pb f.b.l.length cb, .int .i64 f.b.s, .int .i64 f.room, .int .i64 f.stop, .bool f.dead] 33))) := ⟨_, f, _, _, _, P.out.below (bel1 _ _), R.out.below (bel1 _ _), BX.new _ _ rfl _ _, P.out.notX (Nat.le_refl _), P.out.hN, HB.out.trans ((bel1 _ _).mono P.out.hN), hfo, BSX.nil _ _⟩
        clear hb hN hf0 hfo P HB R
        go_wp2
        generalize w3.alloc (.cells #[.slice pa f.a.l.length ca, .int .i64 f.a.s, .slice pb f.b.l.length cb, .int .i64 f.b.s, .int .i64 f.room, .int .i64 f.stop, .bool f.dead] 33) = wS at *
        generalize w3.heap.size = BB at *
        go_loopw [11] (fun i wr => ∃ k : Nat, k ≤ n ∧ i = .int .i64 k ∧ Hid (SA w w.heap.size BB wr)) (fun i _ => n - (intOf i).toNat)
        case atStart => exact ⟨0, by omega, rfl, HQ.out⟩
        case round =>
          clear HQ
          obtain ⟨k, hk, rfl, HC0⟩ := hrel
          by_cases hlt : k < n
          · obtain ⟨d, f, hls⟩ := HC0.out
            obtain ⟨va, vb, C, hp, hr, hgb, hnb, hnb2, hbl, hfo, hE⟩ := hls
            have P := hide hp
            have R := hide hr
            obtain ⟨pa, ca, pb, cb, hv, _⟩ := hr
            cases hv
            have GB := hide hgb
            have nB := hide hnb
            have hNB := hide hnb2
            have HB := hide hbl
            have HFo := hide hfo
            have E := hide hE
            clear hp hgb hnb hnb2 hbl hfo hE
            obtain ⟨b0, off, rfl⟩ := HA.out.addr (by omega)
            obtain ⟨⟨xo, xi, xb, xn, xks⟩, pB, nB0, cB, pK, nK, cK, hx, hBx, hCx, hNx, _, hnx, x0, x1, x2, x3, x4⟩ := HA.out.one k hlt
            simp only [] at x0 x1 x2 x3 x4
            have hfx : xb.length ≤ 200 := (HFW.out _ (List.mem_of_getElem? hx)).1
            have BSx := hide hBx
            have NSx := hide hNx
            have hk0 : (0 : Int) ≤ (k : Int) := by omega
            have hk1 : (k : Int) < (n : Int) := by omega
            clear hBx hNx hx
            go_upto_region 13 with fail
            refine wp_region_held_drew (S := fun W => Below w.heap.size w W) (by kernel_rfl) (HB.out.drew) (fun hS0 => ?_)
            refine takeInH 0 45 ?v34 rfl rfl (by kernel_rfl) (by kernel_rfl) (by kernel_rfl) (fun _ _ _ h => h) (by kernel_rfl) hS0 ?hy34 ?_
            case hy34 => (intro W hW; clear hW; go_simp; try rfl)
            simp only [Act.put, List.setIfInBounds_toArray, List.set_cons_zero, List.set_cons_succ]
            refine takeInH 2 47 ?v35 rfl rfl (by kernel_rfl) (by kernel_rfl) (by kernel_rfl) (fun _ _ _ h => h) (by kernel_rfl) hS0 ?hy35 ?_
            case hy35 => (intro W hW; clear hW; go_simp; try rfl)
            simp only [Act.put, List.setIfInBounds_toArray, List.set_cons_zero, List.set_cons_succ]
            refine takeInH 3 48 ?v36 rfl rfl (by kernel_rfl) (by kernel_rfl) (by kernel_rfl) (fun _ _ _ h => h) (by kernel_rfl) hS0 ?hy36 ?_
            case hy36 => (intro W hW; clear hW; go_simp; try rfl)
            simp only [Act.put, List.setIfInBounds_toArray, List.set_cons_zero, List.set_cons_succ]
            refine takeInH 4 49 ?v37 rfl rfl (by kernel_rfl) (by kernel_rfl) (by kernel_rfl) (fun _ _ _ h => h) (by kernel_rfl) hS0 ?hy37 ?_
            case hy37 => (intro W hW; clear hW; go_simp; try rfl)
            simp only [Act.put, List.setIfInBounds_toArray, List.set_cons_zero, List.set_cons_succ]
            refine takeInH 5 50 ?v38 rfl rfl (by kernel_rfl) (by kernel_rfl) (by kernel_rfl) (fun _ _ _ h => h) (by kernel_rfl) hS0 ?hy38 ?_
            case hy38 => (intro W hW; have e0 := bcell hW x0; have e1 := bcell hW x1; have e2 := bcell hW x2; have e3 := bcell hW x3; have e4 := bcell hW x4; clear hW; go_simp; try rfl)
            simp only [Act.put, List.setIfInBounds_toArray, List.set_cons_zero, List.set_cons_succ]
            refine wpAnyH_ready (rs := [1]) (by kernel_rfl) (by simp) ?_
            refine AllReadyH.cons rfl (fun K hK => ?_) AllReadyH.nil
            have c0 := GB.out.cell 0 _ rfl
            have c1 := GB.out.cell 1 _ rfl
            have c2 := GB.out.cell 2 _ rfl
            have c3 := GB.out.cell 3 _ rfl
            have c4 := GB.out.cell 4 _ rfl
            have c5 := GB.out.cell 5 _ rfl
            have c6 := GB.out.cell 6 _ rfl
            go_simp
            clear c0 c1 c2 c3 c4 c5 c6
            go_simp
            refine hK.out _ _ ?hs39 (fun hS1 => ?_)
            case hs39 => exact hS0
            clear hK K
            try simp only [Act.put, List.setIfInBounds_toArray, List.set_cons_zero, List.set_cons_succ]
            refine wpAnyH_ready (rs := [6]) (by kernel_rfl) (by simp) ?_
            refine AllReadyH.cons rfl (fun K hK => ?_) AllReadyH.nil
            go_simp
            have DR : Below wr.heap.size wr wr.drew := (Below.refl _ wr).drew
            refine (Do_any _ (⟨xo, xi, xb, xn, xks⟩ : Ac) pB nB0 cB pK nK cK _ (P.out.below DR) (R.out.below DR) HFo.out (BSx.out.inX HB.out.drew P.out.ge) hCx (NSx.out.inN HB.out.drew) hfx hnx).mono ?_
            rintro e w1 ⟨va', vb', y, bb, rfl, hp, hy, hs, hb⟩
            have nB1 := hide (hs.notX (show BB < wr.drew.heap.size from GB.out.size) nB.out)
            have GB1 := hide ((GB.out.below DR).stp hs nB.out)
            have E1 := hide ((E.out.below DR).stp hs)
            have P1 := hide hp
            have BW : Below w.heap.size w w1 := (HB.out.drew).trans hb
            have HBW := hide BW
            have HY := hide hy
            have HFo2 := hide (lawR_ok HFo.out (⟨xo, xi, xb, xn, xks⟩ : Ac) BSx.out.2.2.1 hnx)
            generalize hlr : lawR f (⟨xo, xi, xb, xn, xks⟩ : Ac) = ff at *
            have HLR := hide hlr
            obtain ⟨pa2, ca2, pb2, cb2, rfl, _⟩ := hy
            clear hp hs hb hlr DR P R GB nB HFo E BSx NSx hCx
            try go_wp2_with fail
            refine hK.out _ _ ?hs40 (fun hS2 => ?_)
            case hs40 => exact BW
            clear hK K
            try simp only [Act.put, List.setIfInBounds_toArray, List.set_cons_zero, List.set_cons_succ]
            refine takeInH 7 44 ?v41 rfl rfl (by kernel_rfl) (by kernel_rfl) (by kernel_rfl) (fun _ _ _ h => h) (by kernel_rfl) hS2 ?hy41 ?_
            case hy41 => (intro W hW; clear hW; go_simp; try rfl)
            simp only [Act.put, List.setIfInBounds_toArray, List.set_cons_zero, List.set_cons_succ]
            refine takeInH 8 52 ?v42 rfl rfl (by kernel_rfl) (by kernel_rfl) (by kernel_rfl) (fun _ _ _ h => h) (by kernel_rfl) hS2 ?hy42 ?_
            case hy42 => (intro W hW; clear hW; go_simp; try rfl)
            simp only [Act.put, List.setIfInBounds_toArray, List.set_cons_zero, List.set_cons_succ]
            refine takeInH 9 53 ?v43 rfl rfl (by kernel_rfl) (by kernel_rfl) (by kernel_rfl) (fun _ _ _ h => h) (by kernel_rfl) hS2 ?hy43 ?_
            case hy43 => (intro W hW; clear hW; go_simp; try rfl)
            simp only [Act.put, List.setIfInBounds_toArray, List.set_cons_zero, List.set_cons_succ]
            refine wpAnyH_ready (rs := [10]) (by kernel_rfl) (by simp) ?_
            refine AllReadyH.cons rfl (fun K hK => ?_) AllReadyH.nil
            have c0 := GB1.out.cell 0 _ rfl
            have c1 := GB1.out.cell 1 _ rfl
            have c2 := GB1.out.cell 2 _ rfl
            have c3 := GB1.out.cell 3 _ rfl
            have c4 := GB1.out.cell 4 _ rfl
            have c5 := GB1.out.cell 5 _ rfl
            have c6 := GB1.out.cell 6 _ rfl
            have hfr := fun j => GB1.out.free j
            go_simp
            clear c0 c1 c2 c3 c4 c5 c6 hfr
            obtain ⟨r1, r2, r3, r4⟩ := GB1.out.put7 (.slice pa2 ff.a.l.length ca2) (.int .i64 ff.a.s) (.slice pb2 ff.b.l.length cb2) (.int .i64 ff.b.s) (.int .i64 ff.room) (.int .i64 ff.stop) (.bool ff.dead)
            have BW2 := r3 _ _ HBW.out hNB.out
            have HQ2 : Hid (LS w w.heap.size BB none 0 [] (lawP d (⟨xo, xi, xb, xn, xks⟩ : Ac)) ff _) := ⟨va', vb', _, P1.out.moved r4 nB1.out, HY.out.kp r2 GB1.out (NoB.disk _ _ _ _ _ _ _ _ _ _ _), r1, nB1.out, hNB.out, BW2, HFo2.out, E1.out.kp r2 GB1.out (NoB.disk _ _ _ _ _ _ _ _ _ _ _)⟩
            clear r1 r2 r3 r4
            go_simp
            refine hK.out _ _ ?hs44 (fun hS3 => ?_)
            case hs44 => exact BW2
            clear hK K
            try simp only [Act.put, List.setIfInBounds_toArray, List.set_cons_zero, List.set_cons_succ]
            refine wpAnyH_done (by kernel_rfl) ?_ _
            go_wp2
            go_roundw
            case rel => exact ⟨k + 1, by omega, by go_num, ⟨_, _, HQ2⟩⟩
            case measure => simp [intOf]; omega
          · have hkn : k = n := by omega
            subst hkn
            obtain ⟨d, f, hls⟩ := HC0.out
            obtain ⟨va, vb, C, hp, hr, hgb, hnb, hnb2, hbl, hfo, hE⟩ := hls
            have P := hide hp
            have R := hide hr
            obtain ⟨pa, ca, pb, cb, hv, _⟩ := hr
            cases hv
            have GB := hide hgb
            have nB := hide hnb
            have hNB := hide hnb2
            have HB := hide hbl
            have HFo := hide hfo
            have E := hide hE
            clear hp hgb hnb hnb2 hbl hfo hE
            clear HC0 E
            go_wp2_with fail
            refine (Crash_any none 0 0 [] _ P.out (NSN.nil _ _)).mono ?_
            rintro e w5 ⟨va1, vb1, rfl, hp, hs, hb⟩
            have n1 := hide (hs.notX GB.out.size nB.out)
            replace GB := hide ((GB.out.stp hs nB.out).alloc (.cells #[.int .u8 7, .int .u8 8, .int .u8 9] 5))
            replace R := hide ((R.out.stp hs).below (bel1 w5 (.cells #[.int .u8 7, .int .u8 8, .int .u8 9] 5)))
            replace nB := n1
            have hN := hp.hN
            replace P := hide (hp.below (bel1 w5 (.cells #[.int .u8 7, .int .u8 8, .int .u8 9] 5)))
            replace HB := hide ((HB.out.trans hb).trans ((bel1 w5 (.cells #[.int .u8 7, .int .u8 8, .int .u8 9] 5)).mono hN))
            have L := hide (BS.lit w5 [7, 8, 9] 3 rfl #[.int .u8 7, .int .u8 8, .int .u8 9] rfl (by decide) (by unfold By; decide))
            have hst : Hid ((d.crash []).stop = -1) := rfl
            generalize d.crash [] = d1 at *
            clear hp hs hb hN n1
            go_wp2_with fail
            refine (Append_any 1 _ _ _ [7, 8, 9] _ P.out L.out.1 L.out.2).mono ?_
            rintro e w6 ⟨va2, vb2, rfl, hp, hs, hb⟩
            have n1 := hide (hs.notX GB.out.size nB.out)
            replace GB := hide (GB.out.stp hs nB.out)
            replace R := hide (R.out.stp hs)
            replace nB := n1
            replace P := hide hp
            replace HB := hide (HB.out.trans hb)
            have hst2 : Hid ((d1.pact 0 1 [7, 8, 9]).1.stop = -1) := pact_stop hst.out 0 1 _
            generalize (d1.pact 0 1 [7, 8, 9]).1 = d2 at *
            generalize (d1.pact 0 1 [7, 8, 9]).2 = cd at *
            clear hp hs hb n1 hst L
            have hs0 : Hid (d2.stop ≠ 0) := by have := hst2.out; unfold Hid; omega
            go_wp2_with fail
            refine (Read_any 1 _ P.out hs0.out (by decide)).mono ?_
            rintro e w7 ⟨v7, rfl, ho, hb⟩
            have hX7 := hide (P.out.xs)
            obtain ⟨pr, cr, rfl, hbs, hcr⟩ := ho.open (Dk.get_ok P.out.ok 1).1
            have E : Hid (BSX (Xs w.heap.size va2 vb2) w7 pr (d2.get 1).l.length (d2.get 1).l) := ⟨hbs, ho.off hX7.out⟩
            have hN := P.out.hN
            replace P := hide (P.out.below hb)
            replace R := hide (R.out.below hb)
            replace GB := hide (GB.out.below hb)
            replace HB := hide (HB.out.trans (hb.mono hN))
            have hlr : (d2.get 1).l.length ≤ 1048576 := by
              have q := P.out.ok.lens
              unfold Dk.get
              split <;> omega
            clear hb hN ho hbs hX7
            go_wp2_with fail
            refine (Sync_any 1 _ P.out).mono ?_
            rintro e w8 ⟨va3, vb3, rfl, hp, hs, hb⟩
            have n1 := hide (hs.notX GB.out.size nB.out)
            have GB8 := hide (GB.out.stp hs nB.out)
            have R8 := hide (R.out.stp hs)
            have E8 := hide (E.out.stp hs)
            obtain ⟨sc, sf⟩ := sync_safe d2 hst2.out 1 (by decide)
            rw [sc]
            have HB8 := hide (HB.out.trans hb)
            have HQ : Hid (SB w w.heap.size BB pr (d2.get 1).l 1 w8) := ⟨_, f, ⟨_, _, _, hp, R8.out, GB8.out, n1.out, hNB.out, HB8.out, HFo.out, E8.out⟩, sf⟩
            clear hp hs hb n1 GB GB8 R R8 E E8 HB HB8 P nB sc sf
            go_wp2
            go_loopw [14] (fun i wr => ∃ k : Nat, k ≤ n2 ∧ i = .int .i64 k ∧ Hid (SB w w.heap.size BB pr (d2.get 1).l 1 wr)) (fun i _ => n2 - (intOf i).toNat)
            case atStart => exact ⟨0, by omega, rfl, HQ.out⟩
            case round =>
              clear HQ HFo hNB
              obtain ⟨k2, hk, rfl, HC0⟩ := hrel
              by_cases hlt : k2 < n2
              · obtain ⟨d, f, hls, hsf⟩ := HC0.out
                obtain ⟨va, vb, C, hp, hr, hgb, hnb, hnb2, hbl, hfo, hE⟩ := hls
                have P := hide hp
                have R := hide hr
                obtain ⟨pa, ca, pb, cb, hv, _⟩ := hr
                cases hv
                have GB := hide hgb
                have nB := hide hnb
                have hNB := hide hnb2
                have HB := hide hbl
                have HFo := hide hfo
                have E := hide hE
                clear hp hgb hnb hnb2 hbl hfo hE
                obtain ⟨b0, off, rfl⟩ := HA2.out.addr (by omega)
                obtain ⟨⟨xo, xi, xb, xn, xks⟩, pB, nB0, cB, pK, nK, cK, hx, hBx, hCx, hNx, _, hnx, x0, x1, x2, x3, x4⟩ := HA2.out.one k2 hlt
                simp only [] at x0 x1 x2 x3 x4
                have hfx : xb.length ≤ 200 := (HFW2.out _ (List.mem_of_getElem? hx)).1
                have BSx := hide hBx
                have NSx := hide hNx
                have hk0 : (0 : Int) ≤ (k2 : Int) := by omega
                have hk1 : (k2 : Int) < (n2 : Int) := by omega
                clear hBx hNx hx
                have y0 := bcell HB.out x0
                have y1 := bcell HB.out x1
                by_cases hq : xo = 1 ∧ xi = 1
                · obtain ⟨rfl, rfl⟩ := hq
                  have hN := P.out.hN
                  go_wp2_with fail
                  refine (HAW.out _).mono ?_
                  rintro e w9 ⟨rfl, hb⟩
                  go_wp2
                  go_ret
                  exact ⟨rfl, HB.out.trans (hb.mono hN)⟩
                · have HSF := hide (hsf.law 1 (by decide) P.out.ok (⟨xo, xi, xb, xn, xks⟩ : Ac) hq)
                  clear hsf
                  by_cases h1 : xo = 1
                  · have h2 : (xi == 1) = false := by simp; intro e; exact hq ⟨h1, e⟩
                    subst h1
                    clear hq
                    go_upto_region 24 with fail
                    refine wp_region_held_drew (S := fun W => Below w.heap.size w W) (by kernel_rfl) (HB.out.drew) (fun hS0 => ?_)
                    refine takeInH 0 97 ?v45 rfl rfl (by kernel_rfl) (by kernel_rfl) (by kernel_rfl) (fun _ _ _ h => h) (by kernel_rfl) hS0 ?hy45 ?_
                    case hy45 => (intro W hW; clear hW; go_simp; try rfl)
                    simp only [Act.put, List.setIfInBounds_toArray, List.set_cons_zero, List.set_cons_succ]
                    refine takeInH 2 99 ?v46 rfl rfl (by kernel_rfl) (by kernel_rfl) (by kernel_rfl) (fun _ _ _ h => h) (by kernel_rfl) hS0 ?hy46 ?_
                    case hy46 => (intro W hW; clear hW; go_simp; try rfl)
                    simp only [Act.put, List.setIfInBounds_toArray, List.set_cons_zero, List.set_cons_succ]
                    refine takeInH 3 100 ?v47 rfl rfl (by kernel_rfl) (by kernel_rfl) (by kernel_rfl) (fun _ _ _ h => h) (by kernel_rfl) hS0 ?hy47 ?_
                    case hy47 => (intro W hW; clear hW; go_simp; try rfl)
                    simp only [Act.put, List.setIfInBounds_toArray, List.set_cons_zero, List.set_cons_succ]
                    refine takeInH 4 101 ?v48 rfl rfl (by kernel_rfl) (by kernel_rfl) (by kernel_rfl) (fun _ _ _ h => h) (by kernel_rfl) hS0 ?hy48 ?_
                    case hy48 => (intro W hW; clear hW; go_simp; try rfl)
                    simp only [Act.put, List.setIfInBounds_toArray, List.set_cons_zero, List.set_cons_succ]
                    refine takeInH 5 102 ?v49 rfl rfl (by kernel_rfl) (by kernel_rfl) (by kernel_rfl) (fun _ _ _ h => h) (by kernel_rfl) hS0 ?hy49 ?_
                    case hy49 => (intro W hW; have e0 := bcell hW x0; have e1 := bcell hW x1; have e2 := bcell hW x2; have e3 := bcell hW x3; have e4 := bcell hW x4; clear hW; go_simp; try rfl)
                    simp only [Act.put, List.setIfInBounds_toArray, List.set_cons_zero, List.set_cons_succ]
                    refine wpAnyH_ready (rs := [1]) (by kernel_rfl) (by simp) ?_
                    refine AllReadyH.cons rfl (fun K hK => ?_) AllReadyH.nil
                    have c0 := GB.out.cell 0 _ rfl
                    have c1 := GB.out.cell 1 _ rfl
                    have c2 := GB.out.cell 2 _ rfl
                    have c3 := GB.out.cell 3 _ rfl
                    have c4 := GB.out.cell 4 _ rfl
                    have c5 := GB.out.cell 5 _ rfl
                    have c6 := GB.out.cell 6 _ rfl
                    go_simp
                    clear c0 c1 c2 c3 c4 c5 c6
                    go_simp
                    refine hK.out _ _ ?hs50 (fun hS1 => ?_)
                    case hs50 => exact hS0
                    clear hK K
                    try simp only [Act.put, List.setIfInBounds_toArray, List.set_cons_zero, List.set_cons_succ]
                    refine wpAnyH_ready (rs := [6]) (by kernel_rfl) (by simp) ?_
                    refine AllReadyH.cons rfl (fun K hK => ?_) AllReadyH.nil
                    go_simp
                    have DR : Below wr.heap.size wr wr.drew := (Below.refl _ wr).drew
                    refine (Do_any _ (⟨1, xi, xb, xn, xks⟩ : Ac) pB nB0 cB pK nK cK _ (P.out.below DR) (R.out.below DR) HFo.out (BSx.out.inX HB.out.drew P.out.ge) hCx (NSx.out.inN HB.out.drew) hfx hnx).mono ?_
                    rintro e w1 ⟨va', vb', y, bb, rfl, hp, hy, hs, hb⟩
                    have nB1 := hide (hs.notX (show BB < wr.drew.heap.size from GB.out.size) nB.out)
                    have GB1 := hide ((GB.out.below DR).stp hs nB.out)
                    have E1 := hide ((E.out.below DR).stp hs)
                    have P1 := hide hp
                    have BW : Below w.heap.size w w1 := (HB.out.drew).trans hb
                    have HBW := hide BW
                    have HY := hide hy
                    have HFo2 := hide (lawR_ok HFo.out (⟨1, xi, xb, xn, xks⟩ : Ac) BSx.out.2.2.1 hnx)
                    generalize hlr : lawR f (⟨1, xi, xb, xn, xks⟩ : Ac) = ff at *
                    have HLR := hide hlr
                    obtain ⟨pa2, ca2, pb2, cb2, rfl, _⟩ := hy
                    clear hp hs hb hlr DR P R GB nB HFo E BSx NSx hCx
                    try go_wp2_with fail
                    refine hK.out _ _ ?hs51 (fun hS2 => ?_)
                    case hs51 => exact BW
                    clear hK K
                    try simp only [Act.put, List.setIfInBounds_toArray, List.set_cons_zero, List.set_cons_succ]
                    refine takeInH 7 96 ?v52 rfl rfl (by kernel_rfl) (by kernel_rfl) (by kernel_rfl) (fun _ _ _ h => h) (by kernel_rfl) hS2 ?hy52 ?_
                    case hy52 => (intro W hW; clear hW; go_simp; try rfl)
                    simp only [Act.put, List.setIfInBounds_toArray, List.set_cons_zero, List.set_cons_succ]
                    refine takeInH 8 104 ?v53 rfl rfl (by kernel_rfl) (by kernel_rfl) (by kernel_rfl) (fun _ _ _ h => h) (by kernel_rfl) hS2 ?hy53 ?_
                    case hy53 => (intro W hW; clear hW; go_simp; try rfl)
                    simp only [Act.put, List.setIfInBounds_toArray, List.set_cons_zero, List.set_cons_succ]
                    refine takeInH 9 105 ?v54 rfl rfl (by kernel_rfl) (by kernel_rfl) (by kernel_rfl) (fun _ _ _ h => h) (by kernel_rfl) hS2 ?hy54 ?_
                    case hy54 => (intro W hW; clear hW; go_simp; try rfl)
                    simp only [Act.put, List.setIfInBounds_toArray, List.set_cons_zero, List.set_cons_succ]
                    refine wpAnyH_ready (rs := [10]) (by kernel_rfl) (by simp) ?_
                    refine AllReadyH.cons rfl (fun K hK => ?_) AllReadyH.nil
                    have c0 := GB1.out.cell 0 _ rfl
                    have c1 := GB1.out.cell 1 _ rfl
                    have c2 := GB1.out.cell 2 _ rfl
                    have c3 := GB1.out.cell 3 _ rfl
                    have c4 := GB1.out.cell 4 _ rfl
                    have c5 := GB1.out.cell 5 _ rfl
                    have c6 := GB1.out.cell 6 _ rfl
                    have hfr := fun j => GB1.out.free j
                    go_simp
                    clear c0 c1 c2 c3 c4 c5 c6 hfr
                    obtain ⟨r1, r2, r3, r4⟩ := GB1.out.put7 (.slice pa2 ff.a.l.length ca2) (.int .i64 ff.a.s) (.slice pb2 ff.b.l.length cb2) (.int .i64 ff.b.s) (.int .i64 ff.room) (.int .i64 ff.stop) (.bool ff.dead)
                    have BW2 := r3 _ _ HBW.out hNB.out
                    have HQ2 : Hid (LS w w.heap.size BB pr (d2.get 1).l.length (d2.get 1).l (lawP d (⟨1, xi, xb, xn, xks⟩ : Ac)) ff _) := ⟨va', vb', _, P1.out.moved r4 nB1.out, HY.out.kp r2 GB1.out (NoB.disk _ _ _ _ _ _ _ _ _ _ _), r1, nB1.out, hNB.out, BW2, HFo2.out, E1.out.kp r2 GB1.out (NoB.disk _ _ _ _ _ _ _ _ _ _ _)⟩
                    clear r1 r2 r3 r4
                    go_simp
                    refine hK.out _ _ ?hs55 (fun hS3 => ?_)
                    case hs55 => exact BW2
                    clear hK K
                    try simp only [Act.put, List.setIfInBounds_toArray, List.set_cons_zero, List.set_cons_succ]
                    refine wpAnyH_done (by kernel_rfl) ?_ _
                    go_wp2
                    go_roundw
                    case rel => exact ⟨k2 + 1, by omega, by go_num, ⟨_, _, HQ2, HSF.out⟩⟩
                    case measure => simp [intOf]; omega
                  · have h2 : (xo == 1) = false := by simpa using h1
                    clear hq h1
                    go_upto_region 24 with fail
                    refine wp_region_held_drew (S := fun W => Below w.heap.size w W) (by kernel_rfl) (HB.out.drew) (fun hS0 => ?_)
                    refine takeInH 0 97 ?v56 rfl rfl (by kernel_rfl) (by kernel_rfl) (by kernel_rfl) (fun _ _ _ h => h) (by kernel_rfl) hS0 ?hy56 ?_
                    case hy56 => (intro W hW; clear hW; go_simp; try rfl)
                    simp only [Act.put, List.setIfInBounds_toArray, List.set_cons_zero, List.set_cons_succ]
                    refine takeInH 2 99 ?v57 rfl rfl (by kernel_rfl) (by kernel_rfl) (by kernel_rfl) (fun _ _ _ h => h) (by kernel_rfl) hS0 ?hy57 ?_
                    case hy57 => (intro W hW; clear hW; go_simp; try rfl)
                    simp only [Act.put, List.setIfInBounds_toArray, List.set_cons_zero, List.set_cons_succ]
                    refine takeInH 3 100 ?v58 rfl rfl (by kernel_rfl) (by kernel_rfl) (by kernel_rfl) (fun _ _ _ h => h) (by kernel_rfl) hS0 ?hy58 ?_
                    case hy58 => (intro W hW; clear hW; go_simp; try rfl)
                    simp only [Act.put, List.setIfInBounds_toArray, List.set_cons_zero, List.set_cons_succ]
                    refine takeInH 4 101 ?v59 rfl rfl (by kernel_rfl) (by kernel_rfl) (by kernel_rfl) (fun _ _ _ h => h) (by kernel_rfl) hS0 ?hy59 ?_
                    case hy59 => (intro W hW; clear hW; go_simp; try rfl)
                    simp only [Act.put, List.setIfInBounds_toArray, List.set_cons_zero, List.set_cons_succ]
                    refine takeInH 5 102 ?v60 rfl rfl (by kernel_rfl) (by kernel_rfl) (by kernel_rfl) (fun _ _ _ h => h) (by kernel_rfl) hS0 ?hy60 ?_
                    case hy60 => (intro W hW; have e0 := bcell hW x0; have e1 := bcell hW x1; have e2 := bcell hW x2; have e3 := bcell hW x3; have e4 := bcell hW x4; clear hW; go_simp; try rfl)
                    simp only [Act.put, List.setIfInBounds_toArray, List.set_cons_zero, List.set_cons_succ]
                    refine wpAnyH_ready (rs := [1]) (by kernel_rfl) (by simp) ?_
                    refine AllReadyH.cons rfl (fun K hK => ?_) AllReadyH.nil
                    have c0 := GB.out.cell 0 _ rfl
                    have c1 := GB.out.cell 1 _ rfl
                    have c2 := GB.out.cell 2 _ rfl
                    have c3 := GB.out.cell 3 _ rfl
                    have c4 := GB.out.cell 4 _ rfl
                    have c5 := GB.out.cell 5 _ rfl
                    have c6 := GB.out.cell 6 _ rfl
                    go_simp
                    clear c0 c1 c2 c3 c4 c5 c6
                    go_simp
                    refine hK.out _ _ ?hs61 (fun hS1 => ?_)
                    case hs61 => exact hS0
                    clear hK K
                    try simp only [Act.put, List.setIfInBounds_toArray, List.set_cons_zero, List.set_cons_succ]
                    refine wpAnyH_ready (rs := [6]) (by kernel_rfl) (by simp) ?_
                    refine AllReadyH.cons rfl (fun K hK => ?_) AllReadyH.nil
                    go_simp
                    have DR : Below wr.heap.size wr wr.drew := (Below.refl _ wr).drew
                    refine (Do_any _ (⟨xo, xi, xb, xn, xks⟩ : Ac) pB nB0 cB pK nK cK _ (P.out.below DR) (R.out.below DR) HFo.out (BSx.out.inX HB.out.drew P.out.ge) hCx (NSx.out.inN HB.out.drew) hfx hnx).mono ?_
                    rintro e w1 ⟨va', vb', y, bb, rfl, hp, hy, hs, hb⟩
                    have nB1 := hide (hs.notX (show BB < wr.drew.heap.size from GB.out.size) nB.out)
                    have GB1 := hide ((GB.out.below DR).stp hs nB.out)
                    have E1 := hide ((E.out.below DR).stp hs)
                    have P1 := hide hp
                    have BW : Below w.heap.size w w1 := (HB.out.drew).trans hb
                    have HBW := hide BW
                    have HY := hide hy
                    have HFo2 := hide (lawR_ok HFo.out (⟨xo, xi, xb, xn, xks⟩ : Ac) BSx.out.2.2.1 hnx)
                    generalize hlr : lawR f (⟨xo, xi, xb, xn, xks⟩ : Ac) = ff at *
                    have HLR := hide hlr
                    obtain ⟨pa2, ca2, pb2, cb2, rfl, _⟩ := hy
                    clear hp hs hb hlr DR P R GB nB HFo E BSx NSx hCx
                    try go_wp2_with fail
                    refine hK.out _ _ ?hs62 (fun hS2 => ?_)
                    case hs62 => exact BW
                    clear hK K
                    try simp only [Act.put, List.setIfInBounds_toArray, List.set_cons_zero, List.set_cons_succ]
                    refine takeInH 7 96 ?v63 rfl rfl (by kernel_rfl) (by kernel_rfl) (by kernel_rfl) (fun _ _ _ h => h) (by kernel_rfl) hS2 ?hy63 ?_
                    case hy63 => (intro W hW; clear hW; go_simp; try rfl)
                    simp only [Act.put, List.setIfInBounds_toArray, List.set_cons_zero, List.set_cons_succ]
                    refine takeInH 8 104 ?v64 rfl rfl (by kernel_rfl) (by kernel_rfl) (by kernel_rfl) (fun _ _ _ h => h) (by kernel_rfl) hS2 ?hy64 ?_
                    case hy64 => (intro W hW; clear hW; go_simp; try rfl)
                    simp only [Act.put, List.setIfInBounds_toArray, List.set_cons_zero, List.set_cons_succ]
                    refine takeInH 9 105 ?v65 rfl rfl (by kernel_rfl) (by kernel_rfl) (by kernel_rfl) (fun _ _ _ h => h) (by kernel_rfl) hS2 ?hy65 ?_
                    case hy65 => (intro W hW; clear hW; go_simp; try rfl)
                    simp only [Act.put, List.setIfInBounds_toArray, List.set_cons_zero, List.set_cons_succ]
                    refine wpAnyH_ready (rs := [10]) (by kernel_rfl) (by simp) ?_
                    refine AllReadyH.cons rfl (fun K hK => ?_) AllReadyH.nil
                    have c0 := GB1.out.cell 0 _ rfl
                    have c1 := GB1.out.cell 1 _ rfl
                    have c2 := GB1.out.cell 2 _ rfl
                    have c3 := GB1.out.cell 3 _ rfl
                    have c4 := GB1.out.cell 4 _ rfl
                    have c5 := GB1.out.cell 5 _ rfl
                    have c6 := GB1.out.cell 6 _ rfl
                    have hfr := fun j => GB1.out.free j
                    go_simp
                    clear c0 c1 c2 c3 c4 c5 c6 hfr
                    obtain ⟨r1, r2, r3, r4⟩ := GB1.out.put7 (.slice pa2 ff.a.l.length ca2) (.int .i64 ff.a.s) (.slice pb2 ff.b.l.length cb2) (.int .i64 ff.b.s) (.int .i64 ff.room) (.int .i64 ff.stop) (.bool ff.dead)
                    have BW2 := r3 _ _ HBW.out hNB.out
                    have HQ2 : Hid (LS w w.heap.size BB pr (d2.get 1).l.length (d2.get 1).l (lawP d (⟨xo, xi, xb, xn, xks⟩ : Ac)) ff _) := ⟨va', vb', _, P1.out.moved r4 nB1.out, HY.out.kp r2 GB1.out (NoB.disk _ _ _ _ _ _ _ _ _ _ _), r1, nB1.out, hNB.out, BW2, HFo2.out, E1.out.kp r2 GB1.out (NoB.disk _ _ _ _ _ _ _ _ _ _ _)⟩
                    clear r1 r2 r3 r4
                    go_simp
                    refine hK.out _ _ ?hs66 (fun hS3 => ?_)
                    case hs66 => exact BW2
                    clear hK K
                    try simp only [Act.put, List.setIfInBounds_toArray, List.set_cons_zero, List.set_cons_succ]
                    refine wpAnyH_done (by kernel_rfl) ?_ _
                    go_wp2
                    go_roundw
                    case rel => exact ⟨k2 + 1, by omega, by go_num, ⟨_, _, HQ2, HSF.out⟩⟩
                    case measure => simp [intOf]; omega
              · have hkn : k2 = n2 := by omega
                subst hkn
                obtain ⟨d, f, hls, hsf⟩ := HC0.out
                obtain ⟨va, vb, C, hp, hr, hgb, hnb, hnb2, hbl, hfo, hE⟩ := hls
                have P := hide hp
                have R := hide hr
                obtain ⟨pa, ca, pb, cb, hv, _⟩ := hr
                cases hv
                have GB := hide hgb
                have nB := hide hnb
                have hNB := hide hnb2
                have HB := hide hbl
                have HFo := hide hfo
                have E := hide hE
                clear hp hgb hnb hnb2 hbl hfo hE
                clear HC0 R GB HFo
                have HSF := hide (hsf.crash (Dk.get_ok P.out.ok 1) [][((1 : Int)).toNat]?)
                clear hsf
                go_wp2_with fail
                refine (Crash_any none 0 0 [] _ P.out (NSN.nil _ _)).mono ?_
                rintro e w5 ⟨va1, vb1, rfl, hp, hs, hb⟩
                have hst : Hid ((d.crash []).stop ≠ 0) := by show (-1 : Int) ≠ 0; decide
                rw [← Dk.crash_get d [] 1 (by decide)] at HSF
                generalize d.crash [] = d3 at *
                replace P := hide hp
                replace HB := hide (HB.out.trans hb)
                replace E := hide (E.out.stp hs)
                clear hp hs hb nB
                go_wp2_with fail
                refine (Read_any 1 _ P.out hst.out (by decide)).mono ?_
                rintro e w9 ⟨v9, rfl, ho, hb⟩
                obtain ⟨p9, c9, rfl, hbs, hcp⟩ := ho.open (Dk.get_ok P.out.ok 1).1
                have hN := P.out.hN
                replace HB := hide (HB.out.trans (hb.mono hN))
                replace E := hide (E.out.below hb)
                have hz9 := Nat.le_trans hN hb.size
                have hpre := HSF.out.pre
                have hle := hpre.length_le
                have hl9 : (d3.get 1).l.length ≤ 1048576 := by
                  have q := P.out.ok.lens
                  unfold Dk.get
                  split <;> omega
                have hc9 := hcp.1
                have hc92 := hcp.2.1
                unfold maxLen at hc92
                have V9 := hide (hbs.head (d2.get 1).l.length hle)
                have HTK : Hid ((d3.get 1).l.take (d2.get 1).l.length = (d2.get 1).l) := (List.prefix_iff_eq_take.1 hpre).symm
                rw [HTK.out] at V9
                have hz9' := hide hz9
                have hleI : ((d2.get 1).l.length : Int) ≤ ((d3.get 1).l.length : Int) := by omega
                have hleC : ((d2.get 1).l.length : Int) ≤ (c9 : Int) := by omega
                have hge : ((d3.get 1).l.length : Int) ≥ ((d2.get 1).l.length : Int) := by omega
                clear hb hN ho hbs hcp hpre hz9 HSF P HTK
                go_wp2_with fail
                refine (bytes_as _ _ _ _ _ _ _ _ _ true (by simp) V9.out E.out.1).mono ?_
                rintro e w10 ⟨rfl, hb⟩
                replace HB := hide (HB.out.trans (hb.mono hz9'.out))
                have hz10 := Nat.le_trans hz9'.out hb.size
                clear hb
                go_wp2_with fail
                refine (HAW.out _).mono ?_
                rintro e w11 ⟨rfl, hb⟩
                go_wp2
                go_ret
                exact ⟨rfl, HB.out.trans (hb.mono hz10)⟩

/-! ### The row's step -/
set_option maxRecDepth 100000 in
theorem lifted (os : Os) (started : os.Started) (H : Type) (enc : TypeId × Value → H) :
    ReturnsInHanded {} Try.checked os 3 .any (Rows.diskSafeSpec.pre6 enc Try.prog Try.f3 Rows.diskSafeRow.domain false) (Rows.diskSafeSpec.post enc Try.prog Try.f3 false true false false) := by
  refine returnsInHanded_of_change_sized (C := Try.checked) own started (by kernel_rfl) Try.func3
    (ChangeSpec.witness6 (enc := enc) (C := Try.checked) false ⟨#[], #[.slice none 0 0, .slice none 0 0, .bool false], []⟩ 8 (by kernel_rfl) (by kernel_rfl) (by kernel_rfl) (by kernel_rfl)) ?_
  intro W base args ds gs before hval0 hW hcnd hz0 _
  have hval : ∀ (j : Nat) t v, Try.f3.params[j]? = some t → args[j]? = some v → Value.okWide Try.prog W .any base t v := hval0
  have hz : (DataW.weightsEach Try.prog (Try.f3.params.toList ++ Rows.diskSafeSpec.plain.varTypes Try.prog) (ds ++ gs)).all (· ≤ reachBytes) = true := hz0
  have hW' := hW
  obtain ⟨p, q, hA0, hV, rfl, hfz, hnd⟩ := hW
  have hA : DataW.TrodAll enc Try.prog W 0 (fun _ => true) true Try.f3.params.toList args.toList ds p := hA0
  rw [Try.params3] at hA hval hz
  obtain ⟨v0, vs0, d0, ds0, p0, q0, hargs, rfl, rfl, h0, r0⟩ := trodAll_cons hA
  obtain ⟨v1, vs1, d1, ds1, p1, q1, rfl, rfl, rfl, h1, r1⟩ := trodAll_cons r0
  obtain ⟨v2, vs2, d2, ds2, p2, q2, rfl, rfl, rfl, h2, r2⟩ := trodAll_cons r1
  obtain ⟨rfl, rfl, rfl⟩ := trodAll_nil r2
  obtain rfl : args = #[v0, v1, v2] := by cases args; simp_all
  obtain ⟨rfl, rfl⟩ := trodVars_none hV
  have k0 := h0
  have lt0 : ∀ x ∈ p0, x.block < W.heap.size := by obtain ⟨m, hm⟩ := k0; exact DataW.trod_lt m _ _ _ hm
  have w0 : InA W v0 := in_acts (hval 0 22 v0 rfl rfl) h0 (fun n hn => by have := List.all_eq_true.1 hz n (DataW.weights_mem_each (j := 0) (t := 22) rfl rfl n hn); simpa using this)
  have k1 := h1
  have lt1 : ∀ x ∈ p1, x.block < W.heap.size := by obtain ⟨m, hm⟩ := k1; exact DataW.trod_lt m _ _ _ hm
  have w1 : InA W v1 := in_acts (hval 1 22 v1 rfl rfl) h1 (fun n hn => by have := List.all_eq_true.1 hz n (DataW.weights_mem_each (j := 1) (t := 22) rfl rfl n hn); simpa using this)
  obtain ⟨a2, rfl, rfl, rfl⟩ := open_bool Try.underlying4 (hval 2 4 v2 rfl rfl) h2
  clear hA0 hval0 hz0
  refine (walk v0 v1 a2 W w0 w1).mono fun e W' ⟨he, bel⟩ => ?_
  subst he
  exact ⟨_, rfl, _, _, _, [], _, [], hW', trodAll_mk1 (shut_bool Try.underlying4 _), (trodAll_cons_mk (Below.trod laidOut (by kernel_rfl) (of_decide_eq_true (by kernel_rfl)) k0 bel lt0) (trodAll_cons_mk (Below.trod laidOut (by kernel_rfl) (of_decide_eq_true (by kernel_rfl)) k1 bel lt1) (trodAll_cons_mk (shut_bool Try.underlying4 _) trodAll_mk0))), rfl, bel.frame _, fun h => by cases h⟩

theorem over : Rows.diskSafeRow.holds Try.pinned (OpenSpec.ofChange Rows.diskSafeSpec) :=
  OpenClaim.holds_of_wide 3 Try.f3 rfl rfl rfl rfl rfl rfl rfl ⟨rfl, rfl, rfl, rfl, rfl⟩ rfl rfl rfl rfl rfl (by kernel_rfl) Try.func3 (by kernel_rfl)
    (of_decide_eq_true (by kernel_rfl)) (by unfold Func.isWrapper; first | (rw [if_pos (by decide +kernel)]; kernel_rfl) | (rw [if_neg (by decide +kernel)]; exact ⟨rfl, rfl⟩))
    (fun os started H enc _ => lifted os started H enc)
end Go.Proofs.Yteamedilcpfkgaa.diskSafe
namespace Go.Proofs.Yteamedilcpfkgaa
theorem diskSafe_holds : Rows.DiskSafeSaid := diskSafe.over
end Go.Proofs.Yteamedilcpfkgaa
