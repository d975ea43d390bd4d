/- DiskApart is true for all acts and either slot: what is done with one slot of a disk turns nothing of the other one, and the slot has what the document says. No condition. -/
import Derived.Test.YteamedilcpfkgaaRows
import Derived.WalkKit
import Derived.ProofKit
import Derived.OpenShut
import Derived.ShutString
import Derived.ChangeOld
import Derived.Below
import Derived.SizedLaws
import Derived.Test.YteamedilcpfkgaaP8
namespace Go.Proofs.Yteamedilcpfkgaa.diskApart
open Go.ChangeShapes Go.WideShapes Go.ChangeAt Go.RowKit
set_option linter.unusedVariables false

theorem own : ownKnob Try.prog.godebug = none := by kernel_rfl
theorem laidOut : laidOutB Try.prog = true := by kernel_rfl

def dA0 : Dk := ⟨⟨[5, 6], 0⟩, ⟨[], 0⟩, 3000, -1, false⟩
def dA1 : Dk := ⟨⟨[], 0⟩, ⟨[5, 6], 0⟩, 3000, -1, false⟩
theorem ap0 : (newD 3000).pact 0 0 [5, 6] = (dA0, 0) := rfl
theorem ap1 : (newD 3000).pact 0 1 [5, 6] = (dA1, 0) := rfl
theorem ar0 : (newD 3000).act 0 0 [5, 6] = (dA0, 0) := rfl
theorem ar1 : (newD 3000).act 0 1 [5, 6] = (dA1, 0) := rfl
/-- Both disks are one, and the other slot has what it had. -/
def AP (w : World) (g B : Nat) (j : Int) (wr : World) : Prop := ∃ d, LS w g B none 0 [] d d wr ∧ d.stop = -1 ∧ d.dead = false ∧ (d.get j).l = [5, 6]
set_option maxHeartbeats 8000000 in
theorem walk (v0 : Value) (a1 : Bool) (w : World) (w0 : InA w v0) :
    Calls Try.prog 4 #[v0, .bool a1] w fun e w' => e = .returned (.bool true) ∧ Below w.heap.size w w' := by
  obtain ⟨a, n, cap, l, rfl, hA, hcp⟩ := w0
  have HA := hide hA
  have hmx := hA.max
  unfold maxLen at hmx
  have HL := hide (lightA_any a n cap l w hA)
  have HAW := hide (fun w => awake_any w)
  clear hA hcp
  go_enter Try.func4, Try.ntmps4
  go_wp2_with fail
  refine HL.out.mono ?_
  rintro e w' ⟨lb, rfl, hlb, hw⟩
  replace hw := hw.symm
  subst hw
  rcases lb with _ | _
  · clear hlb
    go_wp2_with fail
    refine (HAW.out _).mono ?_
    rintro e w1 ⟨rfl, hb⟩
    go_wp2
    go_ret
    exact ⟨rfl, hb⟩
  · obtain ⟨hn40, hfw⟩ := hlb rfl
    have HFW := hide hfw
    clear hlb hfw HL
    go_wp2_with fail
    refine (New_any 3000 _ (by decide) (by decide)).mono ?_
    rintro e w1 ⟨rfl, hp, hb⟩
    rcases a1 with _ | _
    · have P := hide (hp.below (bel1 w1 (.cells #[.int .u8 5, .int .u8 6] 5)))
      have hN := hp.hN
      have HB := hide (hb.trans ((bel1 w1 (.cells #[.int .u8 5, .int .u8 6] 5)).mono hN))
      have L := hide (BS.lit w1 [5, 6] 2 rfl #[.int .u8 5, .int .u8 6] rfl (by decide) (by unfold By; decide))
      clear hp hb hN
      go_wp2_with fail
      refine (Append_any 1 _ _ _ [5, 6] _ P.out L.out.1 L.out.2).mono ?_
      rw [ap1]
      rintro e w2 ⟨va, vb, rfl, hp, _, hb⟩
      replace P := hide hp
      replace HB := hide (HB.out.trans hb)
      clear hp hb L
      go_wp2_with fail
      refine (newR_any (X := Xs w.heap.size va vb) 3000 w2).mono ?_
      rintro e w3 ⟨v3, rfl, hr3, hb⟩
      have hN := P.out.hN
      replace P := hide ((P.out.below hb).below (bel1 w3 (.cells #[.int .u8 5, .int .u8 6] 5)))
      replace HB := hide ((HB.out.trans (hb.mono hN)).trans ((bel1 w3 (.cells #[.int .u8 5, .int .u8 6] 5)).mono (Nat.le_trans hN hb.size)))
      have L := hide (BS.lit w3 [5, 6] 2 rfl #[.int .u8 5, .int .u8 6] rfl (by decide) (by unfold By; decide))
      have R := hide (hr3.below (bel1 w3 (.cells #[.int .u8 5, .int .u8 6] 5)))
      clear hb hN hr3
      go_wp2_with fail
      refine (actR_any v3 (newD 3000) 0 1 _ _ _ [5, 6] _ R.out (newD_ok (by decide) (by decide)) L.out.1 L.out.2 P.out.xs).mono ?_
      rw [ar1]
      rintro e w4 ⟨y, rfl, hy, hb⟩
      have hN := P.out.hN
      replace P := hide (P.out.below hb)
      replace HB := hide (HB.out.trans (hb.mono hN))
      obtain ⟨f, hf0⟩ : ∃ f : Dk, f = dA1 := ⟨_, rfl⟩
      rw [← hf0] at hy P
      have R := hide hy
      have HI : Hid (f.stop = -1 ∧ f.dead = false ∧ (f.get 1).l = [5, 6]) := by rw [hf0]; exact ⟨rfl, rfl, rfl⟩
      obtain ⟨pa, ca, pb, cb, rfl, _⟩ := hy
      have HQ : Hid (AP w w.heap.size w4.heap.size 1 (w4.alloc (.cells #[.slice pa f.a.l.length ca, .int .i64 f.a.s, .slice pb f.b.l.length cb, .int .i64 f.b.s, .int .i64 f.room, .int .i64 f.stop, .bool f.dead] 33))) := ⟨f, ⟨va, vb, _, P.out.below (bel1 _ _), R.out.below (bel1 _ _), BX.new _ _ rfl _ _, P.out.notX (Nat.le_refl _), P.out.hN, HB.out.trans ((bel1 _ _).mono P.out.hN), P.out.ok, BSX.nil _ _⟩, HI.out⟩
      clear hb hN hf0 L P HB R HI
      go_wp2
      generalize w4.alloc (.cells #[.slice pa f.a.l.length ca, .int .i64 f.a.s, .slice pb f.b.l.length cb, .int .i64 f.b.s, .int .i64 f.room, .int .i64 f.stop, .bool f.dead] 33) = wS at *
      generalize w4.heap.size = BB at *
      go_loopw [10] (fun i wr => ∃ k : Nat, k ≤ n ∧ i = .int .i64 k ∧ Hid (AP w w.heap.size BB 1 wr)) (fun i _ => n - (intOf i).toNat)
      case atStart => exact ⟨0, by omega, rfl, HQ.out⟩
      case round =>
        clear HQ
        obtain ⟨k, hk, rfl, HC0⟩ := hrel
        by_cases hlt : k < n
        · obtain ⟨d, hls, hin⟩ := HC0.out
          obtain ⟨va, vb, C, hp, hr, hgb, hnb, hnb2, hbl, hfo, hE⟩ := hls
          have P := hide hp
          have R := hide hr
          obtain ⟨pa, ca, pb, cb, hv, _⟩ := hr
          cases hv
          have GB := hide hgb
          have nB := hide hnb
          have hNB := hide hnb2
          have HB := hide hbl
          have HFo := hide hfo
          have E := hide hE
          clear hp hgb hnb hnb2 hbl hfo hE
          obtain ⟨b0, off, rfl⟩ := HA.out.addr (by omega)
          obtain ⟨⟨xo, xi, xb, xn, xks⟩, pB, nB0, cB, pK, nK, cK, hx, hBx, hCx, hNx, _, hnx, x0, x1, x2, x3, x4⟩ := HA.out.one k hlt
          simp only [] at x0 x1 x2 x3 x4
          have hfx : xb.length ≤ 200 := (HFW.out _ (List.mem_of_getElem? hx)).1
          have BSx := hide hBx
          have NSx := hide hNx
          have y0 := bcell HB.out x0
          have y1 := bcell HB.out x1
          have hk0 : (0 : Int) ≤ (k : Int) := by omega
          have hk1 : (k : Int) < (n : Int) := by omega
          have HI := hide hin
          clear hBx hNx hx hin
          by_cases ho : xo < 3
          · by_cases hi : xi = 0
            · subst hi
              obtain ⟨hl1, hl2, hl3, hl4⟩ := law_same (d := d) 0 (by decide) HI.out.1 HI.out.2.1 ⟨xo, 0, xb, xn, xks⟩ ho rfl
              have HNX : Hid (∀ ff W, lawR d ⟨xo, 0, xb, xn, xks⟩ = ff → LS w w.heap.size BB none 0 [] (lawP d ⟨xo, 0, xb, xn, xks⟩) ff W → AP w w.heap.size BB 1 W) := by
                intro ff W e1 e2
                rw [hl1, e1] at e2
                refine ⟨ff, e2, by rw [← e1]; exact hl2, by rw [← e1]; exact hl3, ?_⟩
                rw [← e1]
                have q : (lawR d ⟨xo, 0, xb, xn, xks⟩).get 1 = d.get 1 := hl4
                rw [q]
                exact HI.out.2.2
              clear hl1 hl2 hl3 hl4 HI
              go_upto_region 15 with fail
              refine wp_region_held_drew (S := fun W => Below w.heap.size w W) (by kernel_rfl) (HB.out.drew) (fun hS0 => ?_)
              refine takeInH 0 65 ?v1 rfl rfl (by kernel_rfl) (by kernel_rfl) (by kernel_rfl) (fun _ _ _ h => h) (by kernel_rfl) hS0 ?hy1 ?_
              case hy1 => (intro W hW; clear hW; go_simp; try rfl)
              simp only [Act.put, List.setIfInBounds_toArray, List.set_cons_zero, List.set_cons_succ]
              refine takeInH 2 67 ?v2 rfl rfl (by kernel_rfl) (by kernel_rfl) (by kernel_rfl) (fun _ _ _ h => h) (by kernel_rfl) hS0 ?hy2 ?_
              case hy2 => (intro W hW; clear hW; go_simp; try rfl)
              simp only [Act.put, List.setIfInBounds_toArray, List.set_cons_zero, List.set_cons_succ]
              refine takeInH 3 68 ?v3 rfl rfl (by kernel_rfl) (by kernel_rfl) (by kernel_rfl) (fun _ _ _ h => h) (by kernel_rfl) hS0 ?hy3 ?_
              case hy3 => (intro W hW; clear hW; go_simp; try rfl)
              simp only [Act.put, List.setIfInBounds_toArray, List.set_cons_zero, List.set_cons_succ]
              refine takeInH 4 69 ?v4 rfl rfl (by kernel_rfl) (by kernel_rfl) (by kernel_rfl) (fun _ _ _ h => h) (by kernel_rfl) hS0 ?hy4 ?_
              case hy4 => (intro W hW; clear hW; go_simp; try rfl)
              simp only [Act.put, List.setIfInBounds_toArray, List.set_cons_zero, List.set_cons_succ]
              refine takeInH 5 70 ?v5 rfl rfl (by kernel_rfl) (by kernel_rfl) (by kernel_rfl) (fun _ _ _ h => h) (by kernel_rfl) hS0 ?hy5 ?_
              case hy5 => (intro W hW; have e0 := bcell hW x0; have e1 := bcell hW x1; have e2 := bcell hW x2; have e3 := bcell hW x3; have e4 := bcell hW x4; clear hW; go_simp; try rfl)
              simp only [Act.put, List.setIfInBounds_toArray, List.set_cons_zero, List.set_cons_succ]
              refine wpAnyH_ready (rs := [1]) (by kernel_rfl) (by simp) ?_
              refine AllReadyH.cons rfl (fun K hK => ?_) AllReadyH.nil
              have c0 := GB.out.cell 0 _ rfl
              have c1 := GB.out.cell 1 _ rfl
              have c2 := GB.out.cell 2 _ rfl
              have c3 := GB.out.cell 3 _ rfl
              have c4 := GB.out.cell 4 _ rfl
              have c5 := GB.out.cell 5 _ rfl
              have c6 := GB.out.cell 6 _ rfl
              go_simp
              clear c0 c1 c2 c3 c4 c5 c6
              go_simp
              refine hK.out _ _ ?hs6 (fun hS1 => ?_)
              case hs6 => exact hS0
              clear hK K
              try simp only [Act.put, List.setIfInBounds_toArray, List.set_cons_zero, List.set_cons_succ]
              refine wpAnyH_ready (rs := [6]) (by kernel_rfl) (by simp) ?_
              refine AllReadyH.cons rfl (fun K hK => ?_) AllReadyH.nil
              go_simp
              have DR : Below wr.heap.size wr wr.drew := (Below.refl _ wr).drew
              refine (Do_any _ (⟨xo, 0, xb, xn, xks⟩ : Ac) pB nB0 cB pK nK cK _ (P.out.below DR) (R.out.below DR) HFo.out (BSx.out.inX HB.out.drew P.out.ge) hCx (NSx.out.inN HB.out.drew) hfx hnx).mono ?_
              rintro e w1 ⟨va', vb', y, bb, rfl, hp, hy, hs, hb⟩
              have nB1 := hide (hs.notX (show BB < wr.drew.heap.size from GB.out.size) nB.out)
              have GB1 := hide ((GB.out.below DR).stp hs nB.out)
              have E1 := hide ((E.out.below DR).stp hs)
              have P1 := hide hp
              have BW : Below w.heap.size w w1 := (HB.out.drew).trans hb
              have HBW := hide BW
              have HY := hide hy
              have HFo2 := hide (lawR_ok HFo.out (⟨xo, 0, xb, xn, xks⟩ : Ac) BSx.out.2.2.1 hnx)
              generalize hlr : lawR d (⟨xo, 0, xb, xn, xks⟩ : Ac) = ff at *
              have HLR := hide hlr
              obtain ⟨pa2, ca2, pb2, cb2, rfl, _⟩ := hy
              clear hp hs hb hlr DR P R GB nB HFo E BSx NSx hCx
              try go_wp2_with fail
              refine hK.out _ _ ?hs7 (fun hS2 => ?_)
              case hs7 => exact BW
              clear hK K
              try simp only [Act.put, List.setIfInBounds_toArray, List.set_cons_zero, List.set_cons_succ]
              refine takeInH 7 64 ?v8 rfl rfl (by kernel_rfl) (by kernel_rfl) (by kernel_rfl) (fun _ _ _ h => h) (by kernel_rfl) hS2 ?hy8 ?_
              case hy8 => (intro W hW; clear hW; go_simp; try rfl)
              simp only [Act.put, List.setIfInBounds_toArray, List.set_cons_zero, List.set_cons_succ]
              refine takeInH 8 72 ?v9 rfl rfl (by kernel_rfl) (by kernel_rfl) (by kernel_rfl) (fun _ _ _ h => h) (by kernel_rfl) hS2 ?hy9 ?_
              case hy9 => (intro W hW; clear hW; go_simp; try rfl)
              simp only [Act.put, List.setIfInBounds_toArray, List.set_cons_zero, List.set_cons_succ]
              refine takeInH 9 73 ?v10 rfl rfl (by kernel_rfl) (by kernel_rfl) (by kernel_rfl) (fun _ _ _ h => h) (by kernel_rfl) hS2 ?hy10 ?_
              case hy10 => (intro W hW; clear hW; go_simp; try rfl)
              simp only [Act.put, List.setIfInBounds_toArray, List.set_cons_zero, List.set_cons_succ]
              refine wpAnyH_ready (rs := [10]) (by kernel_rfl) (by simp) ?_
              refine AllReadyH.cons rfl (fun K hK => ?_) AllReadyH.nil
              have c0 := GB1.out.cell 0 _ rfl
              have c1 := GB1.out.cell 1 _ rfl
              have c2 := GB1.out.cell 2 _ rfl
              have c3 := GB1.out.cell 3 _ rfl
              have c4 := GB1.out.cell 4 _ rfl
              have c5 := GB1.out.cell 5 _ rfl
              have c6 := GB1.out.cell 6 _ rfl
              have hfr := fun j => GB1.out.free j
              go_simp
              clear c0 c1 c2 c3 c4 c5 c6 hfr
              obtain ⟨r1, r2, r3, r4⟩ := GB1.out.put7 (.slice pa2 ff.a.l.length ca2) (.int .i64 ff.a.s) (.slice pb2 ff.b.l.length cb2) (.int .i64 ff.b.s) (.int .i64 ff.room) (.int .i64 ff.stop) (.bool ff.dead)
              have BW2 := r3 _ _ HBW.out hNB.out
              have HQ2 : Hid (LS w w.heap.size BB none 0 [] (lawP d (⟨xo, 0, xb, xn, xks⟩ : Ac)) ff _) := ⟨va', vb', _, P1.out.moved r4 nB1.out, HY.out.kp r2 GB1.out (NoB.disk _ _ _ _ _ _ _ _ _ _ _), r1, nB1.out, hNB.out, BW2, HFo2.out, E1.out.kp r2 GB1.out (NoB.disk _ _ _ _ _ _ _ _ _ _ _)⟩
              clear r1 r2 r3 r4
              go_simp
              refine hK.out _ _ ?hs11 (fun hS3 => ?_)
              case hs11 => exact BW2
              clear hK K
              try simp only [Act.put, List.setIfInBounds_toArray, List.set_cons_zero, List.set_cons_succ]
              refine wpAnyH_done (by kernel_rfl) ?_ _
              go_wp2
              go_roundw
              case rel => exact ⟨k + 1, by omega, by go_num, HNX.out _ _ rfl HQ2⟩
              case measure => simp [intOf]; omega
            · have hi' : (xi == 0) = false := by simpa using hi
              go_wp2
              go_roundw
              case rel => exact ⟨k + 1, by omega, by go_num, HC0.out⟩
              case measure => simp [intOf]; omega
          · have ho' : ¬ xo < 3 := ho
            go_wp2
            go_roundw
            case rel => exact ⟨k + 1, by omega, by go_num, HC0.out⟩
            case measure => simp [intOf]; omega
        · have hkn : k = n := by omega
          subst hkn
          obtain ⟨d, hls, hin⟩ := HC0.out
          obtain ⟨va, vb, C, hp, hr, hgb, hnb, hnb2, hbl, hfo, hE⟩ := hls
          have P := hide hp
          have R := hide hr
          obtain ⟨pa, ca, pb, cb, hv, _⟩ := hr
          cases hv
          have GB := hide hgb
          have nB := hide hnb
          have hNB := hide hnb2
          have HB := hide hbl
          have HFo := hide hfo
          have E := hide hE
          clear hp hgb hnb hnb2 hbl hfo hE
          have HI := hide hin
          have hBy : ∀ q : Int, By (d.get q).l := fun q => (Dk.get_ok P.out.ok q).1
          have HBy := hide hBy
          clear hin hBy
          have hs0 : Hid (d.stop ≠ 0) := by have := HI.out.1; unfold Hid; omega
          go_wp2_with fail
          refine (Read_any 1 _ P.out hs0.out (by decide)).mono ?_
          rintro e w5 ⟨v5, rfl, ho5, hb⟩
          obtain ⟨p5, c5, rfl, hbs5, _⟩ := ho5.open (HBy.out 1)
          have hN := P.out.hN
          replace P := hide (P.out.below hb)
          replace R := hide (R.out.below hb)
          replace GB := hide (GB.out.below hb)
          replace HB := hide (HB.out.trans (hb.mono hN))
          have V5 := hide hbs5
          clear hb hN ho5 hbs5
          go_wp2_with fail
          refine (Read_any 0 _ P.out hs0.out (by decide)).mono ?_
          rintro e w6 ⟨v6, rfl, ho6, hb⟩
          obtain ⟨p6, c6, rfl, hbs6, _⟩ := ho6.open (HBy.out 0)
          have hN := P.out.hN
          have hz6 := Nat.le_trans hN hb.size
          replace P := hide ((P.out.below hb).below (bel1 w6 (.cells #[.int .u8 5, .int .u8 6] 5)))
          replace R := hide ((R.out.below hb).below (bel1 w6 (.cells #[.int .u8 5, .int .u8 6] 5)))
          replace GB := hide ((GB.out.below hb).below (bel1 w6 (.cells #[.int .u8 5, .int .u8 6] 5)))
          replace HB := hide ((HB.out.trans (hb.mono hN)).trans ((bel1 w6 (.cells #[.int .u8 5, .int .u8 6] 5)).mono hz6))
          replace V5 := hide ((V5.out.below hb).below (bel1 w6 (.cells #[.int .u8 5, .int .u8 6] 5)))
          have V6 := hide (hbs6.below (bel1 w6 (.cells #[.int .u8 5, .int .u8 6] 5)))
          have L := hide (BS.lit w6 [5, 6] 2 rfl #[.int .u8 5, .int .u8 6] rfl (by decide) (by unfold By; decide))
          clear hb hN ho6 hbs6 hz6
          go_wp2_with fail
          refine (bytes_as _ _ _ _ _ _ _ _ _ true (by rw [HI.out.2.2]; rfl) V5.out L.out.1).mono ?_
          rintro e w7 ⟨rfl, hb⟩
          have hN := P.out.hN
          replace R := hide (R.out.below hb)
          replace GB := hide (GB.out.below hb)
          replace HB := hide (HB.out.trans (hb.mono hN))
          replace V6 := hide (V6.out.below hb)
          have hz7 := Nat.le_trans hN hb.size
          have c0 := GB.out.cell 0 _ rfl
          have c1 := GB.out.cell 1 _ rfl
          have c2 := GB.out.cell 2 _ rfl
          have c3 := GB.out.cell 3 _ rfl
          have c4 := GB.out.cell 4 _ rfl
          have c5 := GB.out.cell 5 _ rfl
          have c6 := GB.out.cell 6 _ rfl
          clear hb hN V5 L P
          go_wp2_with fail
          refine (getR_any _ d 0 _ R.out).mono ?_
          rintro e w8 ⟨v8, rfl, hs8, hb⟩
          obtain ⟨p8, c8, rfl, hb8, _⟩ := hs8
          replace HB := hide (HB.out.trans (hb.mono hz7))
          replace V6 := hide (V6.out.below hb)
          have V8 := hide hb8.1
          have hfd : ∀ (x0 x1 : Value) (w : World), (Instr.field 31 (.agg #[x0, x1]) 0).run Try.prog w = .ok x0 w := fun _ _ _ => by kernel_rfl
          have hz8 := Nat.le_trans hz7 hb.size
          clear hb hb8
          go_wp2_with fail
          refine (bytes_as _ _ _ _ _ _ _ _ _ true (by simp) V6.out V8.out).mono ?_
          rintro e w9 ⟨rfl, hb⟩
          replace HB := hide (HB.out.trans (hb.mono hz8))
          have hz9 := Nat.le_trans hz8 hb.size
          clear hb
          go_wp2_with fail
          refine (HAW.out _).mono ?_
          rintro e w10 ⟨rfl, hb⟩
          go_wp2
          go_ret
          exact ⟨rfl, HB.out.trans (hb.mono hz9)⟩
    · have P := hide (hp.below (bel1 w1 (.cells #[.int .u8 5, .int .u8 6] 5)))
      have hN := hp.hN
      have HB := hide (hb.trans ((bel1 w1 (.cells #[.int .u8 5, .int .u8 6] 5)).mono hN))
      have L := hide (BS.lit w1 [5, 6] 2 rfl #[.int .u8 5, .int .u8 6] rfl (by decide) (by unfold By; decide))
      clear hp hb hN
      go_wp2_with fail
      refine (Append_any 0 _ _ _ [5, 6] _ P.out L.out.1 L.out.2).mono ?_
      rw [ap0]
      rintro e w2 ⟨va, vb, rfl, hp, _, hb⟩
      replace P := hide hp
      replace HB := hide (HB.out.trans hb)
      clear hp hb L
      go_wp2_with fail
      refine (newR_any (X := Xs w.heap.size va vb) 3000 w2).mono ?_
      rintro e w3 ⟨v3, rfl, hr3, hb⟩
      have hN := P.out.hN
      replace P := hide ((P.out.below hb).below (bel1 w3 (.cells #[.int .u8 5, .int .u8 6] 5)))
      replace HB := hide ((HB.out.trans (hb.mono hN)).trans ((bel1 w3 (.cells #[.int .u8 5, .int .u8 6] 5)).mono (Nat.le_trans hN hb.size)))
      have L := hide (BS.lit w3 [5, 6] 2 rfl #[.int .u8 5, .int .u8 6] rfl (by decide) (by unfold By; decide))
      have R := hide (hr3.below (bel1 w3 (.cells #[.int .u8 5, .int .u8 6] 5)))
      clear hb hN hr3
      go_wp2_with fail
      refine (actR_any v3 (newD 3000) 0 0 _ _ _ [5, 6] _ R.out (newD_ok (by decide) (by decide)) L.out.1 L.out.2 P.out.xs).mono ?_
      rw [ar0]
      rintro e w4 ⟨y, rfl, hy, hb⟩
      have hN := P.out.hN
      replace P := hide (P.out.below hb)
      replace HB := hide (HB.out.trans (hb.mono hN))
      obtain ⟨f, hf0⟩ : ∃ f : Dk, f = dA0 := ⟨_, rfl⟩
      rw [← hf0] at hy P
      have R := hide hy
      have HI : Hid (f.stop = -1 ∧ f.dead = false ∧ (f.get 0).l = [5, 6]) := by rw [hf0]; exact ⟨rfl, rfl, rfl⟩
      obtain ⟨pa, ca, pb, cb, rfl, _⟩ := hy
      have HQ : Hid (AP w w.heap.size w4.heap.size 0 (w4.alloc (.cells #[.slice pa f.a.l.length ca, .int .i64 f.a.s, .slice pb f.b.l.length cb, .int .i64 f.b.s, .int .i64 f.room, .int .i64 f.stop, .bool f.dead] 33))) := ⟨f, ⟨va, vb, _, P.out.below (bel1 _ _), R.out.below (bel1 _ _), BX.new _ _ rfl _ _, P.out.notX (Nat.le_refl _), P.out.hN, HB.out.trans ((bel1 _ _).mono P.out.hN), P.out.ok, BSX.nil _ _⟩, HI.out⟩
      clear hb hN hf0 L P HB R HI
      go_wp2
      generalize w4.alloc (.cells #[.slice pa f.a.l.length ca, .int .i64 f.a.s, .slice pb f.b.l.length cb, .int .i64 f.b.s, .int .i64 f.room, .int .i64 f.stop, .bool f.dead] 33) = wS at *
      generalize w4.heap.size = BB at *
      go_loopw [10] (fun i wr => ∃ k : Nat, k ≤ n ∧ i = .int .i64 k ∧ Hid (AP w w.heap.size BB 0 wr)) (fun i _ => n - (intOf i).toNat)
      case atStart => exact ⟨0, by omega, rfl, HQ.out⟩
      case round =>
        clear HQ
        obtain ⟨k, hk, rfl, HC0⟩ := hrel
        by_cases hlt : k < n
        · obtain ⟨d, hls, hin⟩ := HC0.out
          obtain ⟨va, vb, C, hp, hr, hgb, hnb, hnb2, hbl, hfo, hE⟩ := hls
          have P := hide hp
          have R := hide hr
          obtain ⟨pa, ca, pb, cb, hv, _⟩ := hr
          cases hv
          have GB := hide hgb
          have nB := hide hnb
          have hNB := hide hnb2
          have HB := hide hbl
          have HFo := hide hfo
          have E := hide hE
          clear hp hgb hnb hnb2 hbl hfo hE
          obtain ⟨b0, off, rfl⟩ := HA.out.addr (by omega)
          obtain ⟨⟨xo, xi, xb, xn, xks⟩, pB, nB0, cB, pK, nK, cK, hx, hBx, hCx, hNx, _, hnx, x0, x1, x2, x3, x4⟩ := HA.out.one k hlt
          simp only [] at x0 x1 x2 x3 x4
          have hfx : xb.length ≤ 200 := (HFW.out _ (List.mem_of_getElem? hx)).1
          have BSx := hide hBx
          have NSx := hide hNx
          have y0 := bcell HB.out x0
          have y1 := bcell HB.out x1
          have hk0 : (0 : Int) ≤ (k : Int) := by omega
          have hk1 : (k : Int) < (n : Int) := by omega
          have HI := hide hin
          clear hBx hNx hx hin
          by_cases ho : xo < 3
          · by_cases hi : xi = 1
            · subst hi
              obtain ⟨hl1, hl2, hl3, hl4⟩ := law_same (d := d) 1 (by decide) HI.out.1 HI.out.2.1 ⟨xo, 1, xb, xn, xks⟩ ho rfl
              have HNX : Hid (∀ ff W, lawR d ⟨xo, 1, xb, xn, xks⟩ = ff → LS w w.heap.size BB none 0 [] (lawP d ⟨xo, 1, xb, xn, xks⟩) ff W → AP w w.heap.size BB 0 W) := by
                intro ff W e1 e2
                rw [hl1, e1] at e2
                refine ⟨ff, e2, by rw [← e1]; exact hl2, by rw [← e1]; exact hl3, ?_⟩
                rw [← e1]
                have q : (lawR d ⟨xo, 1, xb, xn, xks⟩).get 0 = d.get 0 := hl4
                rw [q]
                exact HI.out.2.2
              clear hl1 hl2 hl3 hl4 HI
              go_upto_region 15 with fail
              refine wp_region_held_drew (S := fun W => Below w.heap.size w W) (by kernel_rfl) (HB.out.drew) (fun hS0 => ?_)
              refine takeInH 0 65 ?v12 rfl rfl (by kernel_rfl) (by kernel_rfl) (by kernel_rfl) (fun _ _ _ h => h) (by kernel_rfl) hS0 ?hy12 ?_
              case hy12 => (intro W hW; clear hW; go_simp; try rfl)
              simp only [Act.put, List.setIfInBounds_toArray, List.set_cons_zero, List.set_cons_succ]
              refine takeInH 2 67 ?v13 rfl rfl (by kernel_rfl) (by kernel_rfl) (by kernel_rfl) (fun _ _ _ h => h) (by kernel_rfl) hS0 ?hy13 ?_
              case hy13 => (intro W hW; clear hW; go_simp; try rfl)
              simp only [Act.put, List.setIfInBounds_toArray, List.set_cons_zero, List.set_cons_succ]
              refine takeInH 3 68 ?v14 rfl rfl (by kernel_rfl) (by kernel_rfl) (by kernel_rfl) (fun _ _ _ h => h) (by kernel_rfl) hS0 ?hy14 ?_
              case hy14 => (intro W hW; clear hW; go_simp; try rfl)
              simp only [Act.put, List.setIfInBounds_toArray, List.set_cons_zero, List.set_cons_succ]
              refine takeInH 4 69 ?v15 rfl rfl (by kernel_rfl) (by kernel_rfl) (by kernel_rfl) (fun _ _ _ h => h) (by kernel_rfl) hS0 ?hy15 ?_
              case hy15 => (intro W hW; clear hW; go_simp; try rfl)
              simp only [Act.put, List.setIfInBounds_toArray, List.set_cons_zero, List.set_cons_succ]
              refine takeInH 5 70 ?v16 rfl rfl (by kernel_rfl) (by kernel_rfl) (by kernel_rfl) (fun _ _ _ h => h) (by kernel_rfl) hS0 ?hy16 ?_
              case hy16 => (intro W hW; have e0 := bcell hW x0; have e1 := bcell hW x1; have e2 := bcell hW x2; have e3 := bcell hW x3; have e4 := bcell hW x4; clear hW; go_simp; try rfl)
              simp only [Act.put, List.setIfInBounds_toArray, List.set_cons_zero, List.set_cons_succ]
              refine wpAnyH_ready (rs := [1]) (by kernel_rfl) (by simp) ?_
              refine AllReadyH.cons rfl (fun K hK => ?_) AllReadyH.nil
              have c0 := GB.out.cell 0 _ rfl
              have c1 := GB.out.cell 1 _ rfl
              have c2 := GB.out.cell 2 _ rfl
              have c3 := GB.out.cell 3 _ rfl
              have c4 := GB.out.cell 4 _ rfl
              have c5 := GB.out.cell 5 _ rfl
              have c6 := GB.out.cell 6 _ rfl
              go_simp
              clear c0 c1 c2 c3 c4 c5 c6
              go_simp
              refine hK.out _ _ ?hs17 (fun hS1 => ?_)
              case hs17 => exact hS0
              clear hK K
              try simp only [Act.put, List.setIfInBounds_toArray, List.set_cons_zero, List.set_cons_succ]
              refine wpAnyH_ready (rs := [6]) (by kernel_rfl) (by simp) ?_
              refine AllReadyH.cons rfl (fun K hK => ?_) AllReadyH.nil
              go_simp
              have DR : Below wr.heap.size wr wr.drew := (Below.refl _ wr).drew
              refine (Do_any _ (⟨xo, 1, xb, xn, xks⟩ : Ac) pB nB0 cB pK nK cK _ (P.out.below DR) (R.out.below DR) HFo.out (BSx.out.inX HB.out.drew P.out.ge) hCx (NSx.out.inN HB.out.drew) hfx hnx).mono ?_
              rintro e w1 ⟨va', vb', y, bb, rfl, hp, hy, hs, hb⟩
              have nB1 := hide (hs.notX (show BB < wr.drew.heap.size from GB.out.size) nB.out)
              have GB1 := hide ((GB.out.below DR).stp hs nB.out)
              have E1 := hide ((E.out.below DR).stp hs)
              have P1 := hide hp
              have BW : Below w.heap.size w w1 := (HB.out.drew).trans hb
              have HBW := hide BW
              have HY := hide hy
              have HFo2 := hide (lawR_ok HFo.out (⟨xo, 1, xb, xn, xks⟩ : Ac) BSx.out.2.2.1 hnx)
              generalize hlr : lawR d (⟨xo, 1, xb, xn, xks⟩ : Ac) = ff at *
              have HLR := hide hlr
              obtain ⟨pa2, ca2, pb2, cb2, rfl, _⟩ := hy
              clear hp hs hb hlr DR P R GB nB HFo E BSx NSx hCx
              try go_wp2_with fail
              refine hK.out _ _ ?hs18 (fun hS2 => ?_)
              case hs18 => exact BW
              clear hK K
              try simp only [Act.put, List.setIfInBounds_toArray, List.set_cons_zero, List.set_cons_succ]
              refine takeInH 7 64 ?v19 rfl rfl (by kernel_rfl) (by kernel_rfl) (by kernel_rfl) (fun _ _ _ h => h) (by kernel_rfl) hS2 ?hy19 ?_
              case hy19 => (intro W hW; clear hW; go_simp; try rfl)
              simp only [Act.put, List.setIfInBounds_toArray, List.set_cons_zero, List.set_cons_succ]
              refine takeInH 8 72 ?v20 rfl rfl (by kernel_rfl) (by kernel_rfl) (by kernel_rfl) (fun _ _ _ h => h) (by kernel_rfl) hS2 ?hy20 ?_
              case hy20 => (intro W hW; clear hW; go_simp; try rfl)
              simp only [Act.put, List.setIfInBounds_toArray, List.set_cons_zero, List.set_cons_succ]
              refine takeInH 9 73 ?v21 rfl rfl (by kernel_rfl) (by kernel_rfl) (by kernel_rfl) (fun _ _ _ h => h) (by kernel_rfl) hS2 ?hy21 ?_
              case hy21 => (intro W hW; clear hW; go_simp; try rfl)
              simp only [Act.put, List.setIfInBounds_toArray, List.set_cons_zero, List.set_cons_succ]
              refine wpAnyH_ready (rs := [10]) (by kernel_rfl) (by simp) ?_
              refine AllReadyH.cons rfl (fun K hK => ?_) AllReadyH.nil
              have c0 := GB1.out.cell 0 _ rfl
              have c1 := GB1.out.cell 1 _ rfl
              have c2 := GB1.out.cell 2 _ rfl
              have c3 := GB1.out.cell 3 _ rfl
              have c4 := GB1.out.cell 4 _ rfl
              have c5 := GB1.out.cell 5 _ rfl
              have c6 := GB1.out.cell 6 _ rfl
              have hfr := fun j => GB1.out.free j
              go_simp
              clear c0 c1 c2 c3 c4 c5 c6 hfr
              obtain ⟨r1, r2, r3, r4⟩ := GB1.out.put7 (.slice pa2 ff.a.l.length ca2) (.int .i64 ff.a.s) (.slice pb2 ff.b.l.length cb2) (.int .i64 ff.b.s) (.int .i64 ff.room) (.int .i64 ff.stop) (.bool ff.dead)
              have BW2 := r3 _ _ HBW.out hNB.out
              have HQ2 : Hid (LS w w.heap.size BB none 0 [] (lawP d (⟨xo, 1, xb, xn, xks⟩ : Ac)) ff _) := ⟨va', vb', _, P1.out.moved r4 nB1.out, HY.out.kp r2 GB1.out (NoB.disk _ _ _ _ _ _ _ _ _ _ _), r1, nB1.out, hNB.out, BW2, HFo2.out, E1.out.kp r2 GB1.out (NoB.disk _ _ _ _ _ _ _ _ _ _ _)⟩
              clear r1 r2 r3 r4
              go_simp
              refine hK.out _ _ ?hs22 (fun hS3 => ?_)
              case hs22 => exact BW2
              clear hK K
              try simp only [Act.put, List.setIfInBounds_toArray, List.set_cons_zero, List.set_cons_succ]
              refine wpAnyH_done (by kernel_rfl) ?_ _
              go_wp2
              go_roundw
              case rel => exact ⟨k + 1, by omega, by go_num, HNX.out _ _ rfl HQ2⟩
              case measure => simp [intOf]; omega
            · have hi' : (xi == 1) = false := by simpa using hi
              go_wp2
              go_roundw
              case rel => exact ⟨k + 1, by omega, by go_num, HC0.out⟩
              case measure => simp [intOf]; omega
          · have ho' : ¬ xo < 3 := ho
            go_wp2
            go_roundw
            case rel => exact ⟨k + 1, by omega, by go_num, HC0.out⟩
            case measure => simp [intOf]; omega
        · have hkn : k = n := by omega
          subst hkn
          obtain ⟨d, hls, hin⟩ := HC0.out
          obtain ⟨va, vb, C, hp, hr, hgb, hnb, hnb2, hbl, hfo, hE⟩ := hls
          have P := hide hp
          have R := hide hr
          obtain ⟨pa, ca, pb, cb, hv, _⟩ := hr
          cases hv
          have GB := hide hgb
          have nB := hide hnb
          have hNB := hide hnb2
          have HB := hide hbl
          have HFo := hide hfo
          have E := hide hE
          clear hp hgb hnb hnb2 hbl hfo hE
          have HI := hide hin
          have hBy : ∀ q : Int, By (d.get q).l := fun q => (Dk.get_ok P.out.ok q).1
          have HBy := hide hBy
          clear hin hBy
          have hs0 : Hid (d.stop ≠ 0) := by have := HI.out.1; unfold Hid; omega
          go_wp2_with fail
          refine (Read_any 0 _ P.out hs0.out (by decide)).mono ?_
          rintro e w5 ⟨v5, rfl, ho5, hb⟩
          obtain ⟨p5, c5, rfl, hbs5, _⟩ := ho5.open (HBy.out 0)
          have hN := P.out.hN
          replace P := hide (P.out.below hb)
          replace R := hide (R.out.below hb)
          replace GB := hide (GB.out.below hb)
          replace HB := hide (HB.out.trans (hb.mono hN))
          have V5 := hide hbs5
          clear hb hN ho5 hbs5
          go_wp2_with fail
          refine (Read_any 1 _ P.out hs0.out (by decide)).mono ?_
          rintro e w6 ⟨v6, rfl, ho6, hb⟩
          obtain ⟨p6, c6, rfl, hbs6, _⟩ := ho6.open (HBy.out 1)
          have hN := P.out.hN
          have hz6 := Nat.le_trans hN hb.size
          replace P := hide ((P.out.below hb).below (bel1 w6 (.cells #[.int .u8 5, .int .u8 6] 5)))
          replace R := hide ((R.out.below hb).below (bel1 w6 (.cells #[.int .u8 5, .int .u8 6] 5)))
          replace GB := hide ((GB.out.below hb).below (bel1 w6 (.cells #[.int .u8 5, .int .u8 6] 5)))
          replace HB := hide ((HB.out.trans (hb.mono hN)).trans ((bel1 w6 (.cells #[.int .u8 5, .int .u8 6] 5)).mono hz6))
          replace V5 := hide ((V5.out.below hb).below (bel1 w6 (.cells #[.int .u8 5, .int .u8 6] 5)))
          have V6 := hide (hbs6.below (bel1 w6 (.cells #[.int .u8 5, .int .u8 6] 5)))
          have L := hide (BS.lit w6 [5, 6] 2 rfl #[.int .u8 5, .int .u8 6] rfl (by decide) (by unfold By; decide))
          clear hb hN ho6 hbs6 hz6
          go_wp2_with fail
          refine (bytes_as _ _ _ _ _ _ _ _ _ true (by rw [HI.out.2.2]; rfl) V5.out L.out.1).mono ?_
          rintro e w7 ⟨rfl, hb⟩
          have hN := P.out.hN
          replace R := hide (R.out.below hb)
          replace GB := hide (GB.out.below hb)
          replace HB := hide (HB.out.trans (hb.mono hN))
          replace V6 := hide (V6.out.below hb)
          have hz7 := Nat.le_trans hN hb.size
          have c0 := GB.out.cell 0 _ rfl
          have c1 := GB.out.cell 1 _ rfl
          have c2 := GB.out.cell 2 _ rfl
          have c3 := GB.out.cell 3 _ rfl
          have c4 := GB.out.cell 4 _ rfl
          have c5 := GB.out.cell 5 _ rfl
          have c6 := GB.out.cell 6 _ rfl
          clear hb hN V5 L P
          go_wp2_with fail
          refine (getR_any _ d 1 _ R.out).mono ?_
          rintro e w8 ⟨v8, rfl, hs8, hb⟩
          obtain ⟨p8, c8, rfl, hb8, _⟩ := hs8
          replace HB := hide (HB.out.trans (hb.mono hz7))
          replace V6 := hide (V6.out.below hb)
          have V8 := hide hb8.1
          have hfd : ∀ (x0 x1 : Value) (w : World), (Instr.field 31 (.agg #[x0, x1]) 0).run Try.prog w = .ok x0 w := fun _ _ _ => by kernel_rfl
          have hz8 := Nat.le_trans hz7 hb.size
          clear hb hb8
          go_wp2_with fail
          refine (bytes_as _ _ _ _ _ _ _ _ _ true (by simp) V6.out V8.out).mono ?_
          rintro e w9 ⟨rfl, hb⟩
          replace HB := hide (HB.out.trans (hb.mono hz8))
          have hz9 := Nat.le_trans hz8 hb.size
          clear hb
          go_wp2_with fail
          refine (HAW.out _).mono ?_
          rintro e w10 ⟨rfl, hb⟩
          go_wp2
          go_ret
          exact ⟨rfl, HB.out.trans (hb.mono hz9)⟩

/-! ### The row's step -/
set_option maxRecDepth 100000 in
theorem lifted (os : Os) (started : os.Started) (H : Type) (enc : TypeId × Value → H) :
    ReturnsInHanded {} Try.checked os 4 .any (Rows.diskApartSpec.pre6 enc Try.prog Try.f4 Rows.diskApartRow.domain false) (Rows.diskApartSpec.post enc Try.prog Try.f4 false true false false) := by
  refine returnsInHanded_of_change_sized (C := Try.checked) own started (by kernel_rfl) Try.func4
    (ChangeSpec.witness6 (enc := enc) (C := Try.checked) false ⟨#[], #[.slice none 0 0, .bool false], []⟩ 8 (by kernel_rfl) (by kernel_rfl) (by kernel_rfl) (by kernel_rfl)) ?_
  intro W base args ds gs before hval0 hW hcnd hz0 _
  have hval : ∀ (j : Nat) t v, Try.f4.params[j]? = some t → args[j]? = some v → Value.okWide Try.prog W .any base t v := hval0
  have hz : (DataW.weightsEach Try.prog (Try.f4.params.toList ++ Rows.diskApartSpec.plain.varTypes Try.prog) (ds ++ gs)).all (· ≤ reachBytes) = true := hz0
  have hW' := hW
  obtain ⟨p, q, hA0, hV, rfl, hfz, hnd⟩ := hW
  have hA : DataW.TrodAll enc Try.prog W 0 (fun _ => true) true Try.f4.params.toList args.toList ds p := hA0
  rw [Try.params4] at hA hval hz
  obtain ⟨v0, vs0, d0, ds0, p0, q0, hargs, rfl, rfl, h0, r0⟩ := trodAll_cons hA
  obtain ⟨v1, vs1, d1, ds1, p1, q1, rfl, rfl, rfl, h1, r1⟩ := trodAll_cons r0
  obtain ⟨rfl, rfl, rfl⟩ := trodAll_nil r1
  obtain rfl : args = #[v0, v1] := by cases args; simp_all
  obtain ⟨rfl, rfl⟩ := trodVars_none hV
  have k0 := h0
  have lt0 : ∀ x ∈ p0, x.block < W.heap.size := by obtain ⟨m, hm⟩ := k0; exact DataW.trod_lt m _ _ _ hm
  have w0 : InA W v0 := in_acts (hval 0 22 v0 rfl rfl) h0 (fun n hn => by have := List.all_eq_true.1 hz n (DataW.weights_mem_each (j := 0) (t := 22) rfl rfl n hn); simpa using this)
  obtain ⟨a1, rfl, rfl, rfl⟩ := open_bool Try.underlying4 (hval 1 4 v1 rfl rfl) h1
  clear hA0 hval0 hz0
  refine (walk v0 a1 W w0).mono fun e W' ⟨he, bel⟩ => ?_
  subst he
  exact ⟨_, rfl, _, _, _, [], _, [], hW', trodAll_mk1 (shut_bool Try.underlying4 _), (trodAll_cons_mk (Below.trod laidOut (by kernel_rfl) (of_decide_eq_true (by kernel_rfl)) k0 bel lt0) (trodAll_cons_mk (shut_bool Try.underlying4 _) trodAll_mk0)), rfl, bel.frame _, fun h => by cases h⟩

theorem over : Rows.diskApartRow.holds Try.pinned (OpenSpec.ofChange Rows.diskApartSpec) :=
  OpenClaim.holds_of_wide 4 Try.f4 rfl rfl rfl rfl rfl rfl rfl ⟨rfl, rfl, rfl, rfl, rfl⟩ rfl rfl rfl rfl rfl (by kernel_rfl) Try.func4 (by kernel_rfl)
    (of_decide_eq_true (by kernel_rfl)) (by unfold Func.isWrapper; first | (rw [if_pos (by decide +kernel)]; kernel_rfl) | (rw [if_neg (by decide +kernel)]; exact ⟨rfl, rfl⟩))
    (fun os started H enc _ => lifted os started H enc)
end Go.Proofs.Yteamedilcpfkgaa.diskApart
namespace Go.Proofs.Yteamedilcpfkgaa
theorem diskApart_holds : Rows.DiskApartSaid := diskApart.over
end Go.Proofs.Yteamedilcpfkgaa
