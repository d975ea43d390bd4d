/- JournalFull is true for all acts and any room: what has no room is told so, and nothing is lost by it; opened again it has just what was put. No condition. -/
import Derived.Test.YtofalfaiamaapaaRows
import Derived.WalkKit
import Derived.ProofKit
import Derived.OpenShut
import Derived.ShutString
import Derived.ChangeOld
import Derived.Below
import Derived.SizedLaws
import Derived.Test.YtofalfaiamaapaaQ12
import Derived.Test.YtofalfaiamaapaaJ6
namespace Go.Proofs.Ytofalfaiamaapaa.journalFull
open Go.ChangeShapes Go.WideShapes Go.ChangeAt Go.RowKit
set_option linter.unusedVariables false

theorem own : ownKnob Try.prog.godebug = none := by kernel_rfl
theorem laidOut : laidOutB Try.prog = true := by kernel_rfl

theorem bytesRs_sz : ∀ l : List Rc, (bytesRs l).length ≤ szR l + 14 * l.length
  | [] => Nat.le_refl _
  | x :: l => by
    have h := bytesRs_sz l
    have q := rec_le x.k x.b
    have e : bytesRs (x :: l) = record x.k x.b ++ bytesRs l := by simp [bytesRs]
    have e2 : szR (x :: l) = x.b.length + szR l := by simp [szR]
    rw [e, e2, List.length_append, List.length_cons]
    omega
theorem szA_mem : ∀ {l : List A7} {x : A7}, x ∈ l → szR x.l ≤ szA l
  | [], _, h => by cases h
  | y :: l, x, h => by
    have e : szA (y :: l) = szR y.l + szA l := by simp [szA]
    rcases List.mem_cons.1 h with rfl | h
    · omega
    · have := szA_mem h
      omega
theorem AS7.one {w : World} {b off n : Nat} {l : List A7} (h : AS7 w (some ⟨b, off, none⟩) n l) (k : Nat) (hk : k < n) : ∃ x p m c, l[k]? = some x ∧ RC w p m x.l ∧ CP p m c ∧ w.cell? ⟨b, off + k * 2, none⟩ = some (.int .i64 x.o) ∧ w.cell? ⟨b, off + k * 2 + 1, none⟩ = some (.slice p m c) := by
  obtain ⟨x, r, h1, h2, ⟨p, m, c, rfl, h3, h4⟩, h5⟩ := SR.at h k hk
  exact ⟨x, p, m, c, h1, h3, h4, h5 0 _ rfl, h5 1 _ rfl⟩
set_option maxHeartbeats 8000000 in
set_option maxRecDepth 20000 in
theorem walk (v0 : Value) (a1 : Int) (w : World) (w0 : InA7 w v0) (w1 : (Lit.int .u8 a1).wf = true) :
    Calls Try.prog 5 #[v0, .int .u8 a1] w fun e w' => e = .returned (.bool true) ∧ Below w.heap.size w w' := by
  obtain ⟨a, n, cap, l, rfl, has, hcp, hbd⟩ := w0
  have hmx := has.max
  unfold maxLen at hmx
  have HAS := hide has
  have HBD := hide hbd
  have hr : 0 ≤ a1 ∧ a1 ≤ 255 := by
    simp [Lit.wf, IntKind.min, IntKind.max, IntKind.bits, IntKind.signed] at w1
    omega
  clear has hbd hcp w1
  go_enter Try.func5, Try.ntmps5
  go_wp2_with fail
  refine (light7_any a n cap l w HAS.out HBD.out).mono ?_
  rintro e wl ⟨bl, rfl, hl, hwl⟩
  rw [hwl]
  clear hwl wl
  rcases bl with _ | _
  · clear hl
    go_wp2_with fail
    refine (awake7 w).mono ?_
    rintro e w1 ⟨rfl, hb⟩
    have HB := hide hb
    clear hb
    go_wp2
    go_ret
    exact ⟨rfl, HB.out⟩
  obtain ⟨hn30, hn10, hszA⟩ := hl rfl
  have HN10 := hide hn10
  have HSZA := hide hszA
  clear hl hn10 hszA
  go_wp2_with fail
  refine (begin_any a1 w (by omega) (by omega)).mono ?_
  rintro e w2 ⟨jb, gw, rfl, hp, hj, hjn, hg, hgn, hb⟩
  obtain ⟨g, hgq⟩ : ∃ g, g = w.heap.size := ⟨_, rfl⟩
  have F0 : Hid (FI w w2 g jb gw a1 0) := by
    rw [hgq]
    exact ⟨_, _, _, 1, 0, none, 0, 0, [], none, 0, [], 0, ⟨hp, rfl, rfl, hj, hjn, JI.new a1, by omega, hg, hgn, by omega, by omega, fun _ => ⟨rfl, rfl⟩, SR.nil _ _, ⟨Nat.le_refl _, by decide, fun _ => rfl⟩, OwnR.nil _ _, fun x hx => by simp at hx, hb, by simp, by omega⟩⟩
  clear hp hj hjn hg hgn hb hgq
  go_wp2
  go_loopw [7] (fun i wr => ∃ k : Nat, k ≤ n ∧ i = .int .i64 k ∧ Hid (FI w wr g jb gw a1 k)) (fun i _ => n - (intOf i).toNat)
  case atStart => exact ⟨0, by omega, rfl, F0⟩
  case round =>
    clear F0
    obtain ⟨k, hk, rfl, HFI⟩ := hrel
    obtain ⟨va, vb, d, s, t, pa, na, ca, A, pm, cm, xs, wt, hfs⟩ := HFI.out
    have HFS := hide hfs
    clear hfs HFI
    by_cases hlt : k < n
    · obtain ⟨b, off, rfl⟩ := HAS.out.addr (by omega)
      obtain ⟨x, p, m, c, hx, hrx, hcx, hc0, hc1⟩ := AS7.one HAS.out k hlt
      have HRX := hide hrx
      have HCX := hide hcx
      have HC0 := hide hc0
      have HC1 := hide hc1
      have hm10 : m ≤ 10 := by rw [← hrx.len]; exact HN10.out x (List.mem_of_getElem? hx)
      have HBG : Hid ((bytesRs x.l).length ≤ 100000000) := by
        have q1 := bytesRs_sz x.l
        have q2 := szA_mem (List.mem_of_getElem? hx)
        have q3 := HSZA.out
        have q4 := HN10.out x (List.mem_of_getElem? hx)
        unfold Hid
        omega
      have HBY := hide hrx.byB
      clear hx hrx hcx hc0 hc1
      have hk0 : (0 : Int) ≤ (k : Int) := by omega
      have hk1 : (k : Int) < (n : Int) := by omega
      have HK30 : Hid (k < 30) := by unfold Hid; omega
      have z0 := HFS.out.bg.cell 0 _ rfl
      have z1 := HFS.out.bg.cell 1 _ rfl
      have z2 := HFS.out.bg.cell 2 _ rfl
      have z3 := HFS.out.bg.cell 3 _ rfl
      have z4 := HFS.out.bg.cell 4 _ rfl
      have hbl := bel1 wr (.cells (WC g jb (.slice pa na ca) (.slice pm xs.length cm) wt) 49)
      have FS1 := hide (HFS.out.below hbl)
      have CW : Hid (BX (wr.alloc (.cells (WC g jb (.slice pa na ca) (.slice pm xs.length cm) wt) 49)) wr.heap.size (WC g jb (.slice pa na ca) (.slice pm xs.length cm) wt) 49) := BX.new wr _ rfl _ _
      have HNE : Hid (gw ≠ wr.heap.size) := by have := HFS.out.bg.size; unfold Hid; omega
      clear hbl HFS
      generalize hnx : xs.length = nx at *
      have HNX := hide hnx
      clear hnx
      go_upto_region 10 with fail
      generalize wr.alloc (.cells (WC g jb (.slice pa na ca) (.slice pm nx cm) wt) 49) = w1 at *
      generalize wr.heap.size = cw at *
      clear z0 z1 z2 z3 z4
      have a0 := bcell FS1.out.bel HC0.out
      have a1' := bcell FS1.out.bel HC1.out
      by_cases h3 : x.o = 3
      · have h3' : (x.o == 3) = true := by simpa using h3
        have HF := hide (FS1.out.next HK30.out)
        clear h3
        go_wp2
        go_roundw
        case rel => exact ⟨k + 1, by omega, by go_num, HF⟩
        case measure => simp [intOf]; omega
      · have h3' : (x.o == 3) = false := by simpa using h3
        have HD := hide (do_step FS1.out HK30.out x.o h3 p m c x.l HRX.out HCX.out hm10 HBG.out)
        clear h3
        go_wp2_with fail
        refine HD.out.mono ?_
        rintro e w5 ⟨hcw, ⟨rfl, hfi⟩ | ⟨rfl, hmx, hom, hbw, va5, vb5, d5, v2, v3, v4, hp5, hs5, hr5, hj5, hji, hlf, hg5⟩⟩
        · have HF := hide hfi
          clear hcw hfi HD a0 a1'
          go_wp2
          go_roundw
          case rel => exact ⟨k + 1, by omega, by go_num, HF⟩
          case measure => simp [intOf]; omega
        · have B0 := hide (hcw _ _ CW.out HNE.out.symm)
          have G0 := hide hg5
          have HMX := hide hmx
          have HLF := hide hlf
          have HWB : Hid (By (wholeRs 9 x.l)) := by
            unfold Hid wholeRs
            exact ((record_by (by decide) (by decide) (num_by _)).append (bytesRs_by ((allMay_iff x.l).1 hmx) HBY.out)).append (record_by (by decide) (by decide) By.nil)
          have FN6 : ∀ w6, Below w.heap.size w w6 → PD w.heap.size g w6 va5 vb5 d5 → BJ w6 jb g s t false → BX w6 gw (WC g jb (.slice pa na ca) (.slice pm nx cm) wt) 49 → OwnW w.heap.size w6 (.slice pm nx cm) xs → Hid (FS w w6 g jb gw va5 vb5 d5 s t pa na ca A pm cm xs wt a1 k) := fun w6 q1 q2 q3 q4 q5 => { FS1.out with pd := q2, stop := hs5, room := hr5, bj := q3, ji := hji, bg := (HNX.out ▸ q4 : _), more := (HNX.out ▸ q5 : _), bel := q1 }
          have HFN := hide FN6
          have P5 := hide hp5
          have J5 := hide hj5
          have M5 : Hid (OwnW w.heap.size w5 (.slice pm nx cm) xs) := by
            have q := hom
            rw [HNX.out] at q
            exact q
          have L5 := hide hbw
          clear hcw hmx hlf hom hbw hp5 hj5 hs5 hr5 hji hg5 FN6 a0 a1' HD
          go_upto_region 12 with fail
          refine wp_region_held_drew (S := fun W => BX W cw (WC g jb (.slice pa na ca) (.slice pm nx cm) wt) 49) (by kernel_rfl) (B0.out) (fun hS0 => ?_)
          refine takeInH 0 45 ?v1 rfl rfl (by kernel_rfl) (by kernel_rfl) (by kernel_rfl) (fun _ _ _ h => h) (by kernel_rfl) hS0 ?hy1 ?_
          case hy1 => (intro W hW; clear hW; go_simp; try rfl)
          simp only [Act.put, List.setIfInBounds_toArray, List.set_cons_zero, List.set_cons_succ]
          refine takeInH 1 46 ?v2 rfl rfl (by kernel_rfl) (by kernel_rfl) (by kernel_rfl) (fun _ _ _ h => h) (by kernel_rfl) hS0 ?hy2 ?_
          case hy2 => (intro W hW; clear hW; go_simp; try rfl)
          simp only [Act.put, List.setIfInBounds_toArray, List.set_cons_zero, List.set_cons_succ]
          refine takeInH 2 47 ?v3 rfl rfl (by kernel_rfl) (by kernel_rfl) (by kernel_rfl) (fun _ _ _ h => h) (by kernel_rfl) hS0 ?hy3 ?_
          case hy3 => (intro W hW; clear hW; go_simp; try rfl)
          simp only [Act.put, List.setIfInBounds_toArray, List.set_cons_zero, List.set_cons_succ]
          refine takeInH 3 48 ?v4 rfl rfl (by kernel_rfl) (by kernel_rfl) (by kernel_rfl) (fun _ _ _ h => h) (by kernel_rfl) hS0 ?hy4 ?_
          case hy4 => (intro W hW; clear hW; go_simp; try rfl)
          simp only [Act.put, List.setIfInBounds_toArray, List.set_cons_zero, List.set_cons_succ]
          refine takeInH 4 49 ?v5 rfl rfl (by kernel_rfl) (by kernel_rfl) (by kernel_rfl) (fun _ _ _ h => h) (by kernel_rfl) hS0 ?hy5 ?_
          case hy5 => (intro W hW; have e0 := hW.cell 2 _ rfl; have e1 := hW.cell 3 _ rfl; have e2 := hW.cell 4 _ rfl; clear hW; go_simp; try rfl)
          simp only [Act.put, List.setIfInBounds_toArray, List.set_cons_zero, List.set_cons_succ]
          refine takeInH 5 50 ?v6 rfl rfl (by kernel_rfl) (by kernel_rfl) (by kernel_rfl) (fun _ _ _ h => h) (by kernel_rfl) hS0 ?hy6 ?_
          case hy6 => (intro W hW; clear hW; go_simp; try rfl)
          simp only [Act.put, List.setIfInBounds_toArray, List.set_cons_zero, List.set_cons_succ]
          refine takeInH 6 51 ?v7 rfl rfl (by kernel_rfl) (by kernel_rfl) (by kernel_rfl) (fun _ _ _ h => h) (by kernel_rfl) hS0 ?hy7 ?_
          case hy7 => (intro W hW; have e0 := hW.cell 2 _ rfl; have e1 := hW.cell 3 _ rfl; have e2 := hW.cell 4 _ rfl; clear hW; go_simp; try rfl)
          simp only [Act.put, List.setIfInBounds_toArray, List.set_cons_zero, List.set_cons_succ]
          refine takeInH 7 52 ?v8 rfl rfl (by kernel_rfl) (by kernel_rfl) (by kernel_rfl) (fun _ _ _ h => h) (by kernel_rfl) hS0 ?hy8 ?_
          case hy8 => (intro W hW; clear hW; go_simp; try rfl)
          simp only [Act.put, List.setIfInBounds_toArray, List.set_cons_zero, List.set_cons_succ]
          refine takeInH 8 53 ?v9 rfl rfl (by kernel_rfl) (by kernel_rfl) (by kernel_rfl) (fun _ _ _ h => h) (by kernel_rfl) hS0 ?hy9 ?_
          case hy9 => (intro W hW; have e0 := hW.cell 2 _ rfl; have e1 := hW.cell 3 _ rfl; have e2 := hW.cell 4 _ rfl; clear hW; go_simp; try rfl)
          simp only [Act.put, List.setIfInBounds_toArray, List.set_cons_zero, List.set_cons_succ]
          refine takeInH 9 54 ?v10 rfl rfl (by kernel_rfl) (by kernel_rfl) (by kernel_rfl) (fun _ _ _ h => h) (by kernel_rfl) hS0 ?hy10 ?_
          case hy10 => (intro W hW; clear hW; go_simp; try rfl)
          simp only [Act.put, List.setIfInBounds_toArray, List.set_cons_zero, List.set_cons_succ]
          refine takeInH 10 55 ?v11 rfl rfl (by kernel_rfl) (by kernel_rfl) (by kernel_rfl) (fun _ _ _ h => h) (by kernel_rfl) hS0 ?hy11 ?_
          case hy11 => (intro W hW; clear hW; go_simp; try rfl)
          simp only [Act.put, List.setIfInBounds_toArray, List.set_cons_zero, List.set_cons_succ]
          refine wpAnyH_ready (rs := [11]) (by kernel_rfl) (by simp) ?_
          refine AllReadyH.cons rfl (fun K hK => ?_) AllReadyH.nil
          have z2 := G0.out.cell 2 _ rfl
          have y2 := G0.out.free 2
          have G1 := hide (G0.out.set 2 (.slice pa na ca))
          have B1 := hide (B0.out.other HNE.out 2 (.slice pa na ca))
          go_simp
          refine hK.out _ _ ?hs12 (fun hS1 => ?_)
          case hs12 => exact B1.out
          clear hK K
          refine takeInH 12 56 ?v13 rfl rfl (by kernel_rfl) (by kernel_rfl) (by kernel_rfl) (fun _ _ _ h => h) (by kernel_rfl) hS1 ?hy13 ?_
          case hy13 => (intro W hW; clear hW; go_simp; try rfl)
          simp only [Act.put, List.setIfInBounds_toArray, List.set_cons_zero, List.set_cons_succ]
          refine takeInH 13 57 ?v14 rfl rfl (by kernel_rfl) (by kernel_rfl) (by kernel_rfl) (fun _ _ _ h => h) (by kernel_rfl) hS1 ?hy14 ?_
          case hy14 => (intro W hW; clear hW; go_simp; try rfl)
          simp only [Act.put, List.setIfInBounds_toArray, List.set_cons_zero, List.set_cons_succ]
          refine wpAnyH_ready (rs := [14]) (by kernel_rfl) (by simp) ?_
          refine AllReadyH.cons rfl (fun K hK => ?_) AllReadyH.nil
          have z3 := G1.out.cell 3 _ rfl
          have y3 := G1.out.free 3
          have G2 := hide (G1.out.set 3 (.slice pm nx cm))
          have B2 := hide (B1.out.other HNE.out 3 (.slice pm nx cm))
          go_simp
          refine hK.out _ _ ?hs15 (fun hS2 => ?_)
          case hs15 => exact B2.out
          clear hK K
          refine takeInH 15 58 ?v16 rfl rfl (by kernel_rfl) (by kernel_rfl) (by kernel_rfl) (fun _ _ _ h => h) (by kernel_rfl) hS2 ?hy16 ?_
          case hy16 => (intro W hW; clear hW; go_simp; try rfl)
          simp only [Act.put, List.setIfInBounds_toArray, List.set_cons_zero, List.set_cons_succ]
          refine takeInH 16 59 ?v17 rfl rfl (by kernel_rfl) (by kernel_rfl) (by kernel_rfl) (fun _ _ _ h => h) (by kernel_rfl) hS2 ?hy17 ?_
          case hy17 => (intro W hW; clear hW; go_simp; try rfl)
          simp only [Act.put, List.setIfInBounds_toArray, List.set_cons_zero, List.set_cons_succ]
          refine wpAnyH_ready (rs := [17]) (by kernel_rfl) (by simp) ?_
          refine AllReadyH.cons rfl (fun K hK => ?_) AllReadyH.nil
          have z4 := G2.out.cell 4 _ rfl
          have y4 := G2.out.free 4
          have G3 := hide (G2.out.set 4 (.int .i64 wt))
          have B3 := hide (B2.out.other HNE.out 4 (.int .i64 wt))
          go_simp
          refine hK.out _ _ ?hs18 (fun hS3 => ?_)
          case hs18 => exact B3.out
          clear hK K
          refine wpAnyH_done (by kernel_rfl) ?_ _
          have FN7 : Hid (FS w (((w5.setCell ⟨gw, 2, none⟩ (.slice pa na ca)).setCell ⟨gw, 3, none⟩ (.slice pm nx cm)).setCell ⟨gw, 4, none⟩ (.int .i64 wt)).drew g jb gw va5 vb5 d5 s t pa na ca A pm cm xs wt a1 k) := by
            have n1 : ¬ Xs g va5 vb5 gw := P5.out.notx G0.out (by decide) (by decide)
            have n2 : gw ≠ jb := G0.out.diff J5.out (by decide)
            have n3 : Value.ownBlock (.slice pm nx cm) ≠ some gw := M5.out.off G0.out (by decide)
            have n4 := FS1.out.ng
            have bd := (Below.refl (((w5.setCell ⟨gw, 2, none⟩ (.slice pa na ca)).setCell ⟨gw, 3, none⟩ (.slice pm nx cm)).setCell ⟨gw, 4, none⟩ (.int .i64 wt)).heap.size (((w5.setCell ⟨gw, 2, none⟩ (.slice pa na ca)).setCell ⟨gw, 3, none⟩ (.slice pm nx cm)).setCell ⟨gw, 4, none⟩ (.int .i64 wt))).drew
            exact HFN.out _ (((L5.out.setCell (p := ⟨gw, 2, none⟩) n4 _).setCell (p := ⟨gw, 3, none⟩) n4 _).setCell (p := ⟨gw, 4, none⟩) n4 _).drew ((((P5.out.setc n1 2 _).setc n1 3 _).setc n1 4 _).below bd) ((((J5.out.other n2 2 _).other n2 3 _).other n2 4 _).below bd) (G3.out.below bd) ((((M5.out.set n3 2 _).set n3 3 _).set n3 4 _).below bd)
          clear B0 G0 B1 G1 B2 G2 B3 G3 z2 z3 z4 y2 y3 y4 P5 J5 M5 L5 HFN CW
          go_upto_region 13 with fail
          generalize (((w5.setCell ⟨gw, 2, none⟩ (.slice pa na ca)).setCell ⟨gw, 3, none⟩ (.slice pm nx cm)).setCell ⟨gw, 4, none⟩ (.int .i64 wt)).drew = w7 at *
          refine wp_region_held_drew (S := fun W => W.cell? ⟨gw, 0, none⟩ = some (.pointer (some ⟨g, 0, none⟩)) ∧ W.cell? ⟨gw, 1, none⟩ = some (.pointer (some ⟨jb, 0, none⟩)) ∧ W.cell? ⟨b, off + k * 2 + 1, none⟩ = some (.slice p m c)) (by kernel_rfl) (⟨FN7.out.bg.cell 0 _ rfl, FN7.out.bg.cell 1 _ rfl, bcell FN7.out.bel HC1.out⟩) (fun hS0 => ?_)
          refine takeInH 0 60 ?v19 rfl rfl (by kernel_rfl) (by kernel_rfl) (by kernel_rfl) (fun _ _ _ h => h) (by kernel_rfl) hS0 ?hy19 ?_
          case hy19 => (intro W hW; clear hW; go_simp; try rfl)
          simp only [Act.put, List.setIfInBounds_toArray, List.set_cons_zero, List.set_cons_succ]
          refine takeInH 1 61 ?v20 rfl rfl (by kernel_rfl) (by kernel_rfl) (by kernel_rfl) (fun _ _ _ h => h) (by kernel_rfl) hS0 ?hy20 ?_
          case hy20 => (intro W hW; clear hW; go_simp; try rfl)
          simp only [Act.put, List.setIfInBounds_toArray, List.set_cons_zero, List.set_cons_succ]
          refine takeInH 2 62 ?v21 rfl rfl (by kernel_rfl) (by kernel_rfl) (by kernel_rfl) (fun _ _ _ h => h) (by kernel_rfl) hS0 ?hy21 ?_
          case hy21 => (intro W hW; clear hW; go_simp; try rfl)
          simp only [Act.put, List.setIfInBounds_toArray, List.set_cons_zero, List.set_cons_succ]
          refine takeInH 3 63 ?v22 rfl rfl (by kernel_rfl) (by kernel_rfl) (by kernel_rfl) (fun _ _ _ h => h) (by kernel_rfl) hS0 ?hy22 ?_
          case hy22 => (intro W hW; have e0 := hW.1; have e1 := hW.2.1; have e2 := hW.2.2; clear hW; go_simp; try rfl)
          simp only [Act.put, List.setIfInBounds_toArray, List.set_cons_zero, List.set_cons_succ]
          refine wpAnyH_ready (rs := [4]) (by kernel_rfl) (by simp) ?_
          refine AllReadyH.cons rfl (fun K hK => ?_) AllReadyH.nil
          go_simp
          refine (Broken_any jb g s t false _ (FN7.out.below (Below.refl _ _).drew).bj).mono ?_
          rintro e w8 ⟨rfl, hw8⟩
          have hb : Below w7.heap.size w7 w8 := by rw [hw8]; exact (Below.refl _ _).drew
          clear hw8
          have FN8 := hide (FN7.out.below hb)
          clear hb
          refine hK.out _ _ ?hs23 (fun hS1 => ?_)
          case hs23 => exact ⟨FN8.out.bg.cell 0 _ rfl, FN8.out.bg.cell 1 _ rfl, bcell FN8.out.bel HC1.out⟩
          clear hK K
          try simp only [Act.put, List.setIfInBounds_toArray, List.set_cons_zero, List.set_cons_succ]
          refine takeInH 5 65 ?v24 rfl rfl (by kernel_rfl) (by kernel_rfl) (by kernel_rfl) (fun _ _ _ h => h) (by kernel_rfl) hS1 ?hy24 ?_
          case hy24 => (intro W hW; clear hW; go_simp; try rfl)
          simp only [Act.put, List.setIfInBounds_toArray, List.set_cons_zero, List.set_cons_succ]
          refine takeInH 6 66 ?v25 rfl rfl (by kernel_rfl) (by kernel_rfl) (by kernel_rfl) (fun _ _ _ h => h) (by kernel_rfl) hS1 ?hy25 ?_
          case hy25 => (intro W hW; clear hW; go_simp; try rfl)
          simp only [Act.put, List.setIfInBounds_toArray, List.set_cons_zero, List.set_cons_succ]
          refine takeInH 7 67 ?v26 rfl rfl (by kernel_rfl) (by kernel_rfl) (by kernel_rfl) (fun _ _ _ h => h) (by kernel_rfl) hS1 ?hy26 ?_
          case hy26 => (intro W hW; clear hW; go_simp; try rfl)
          simp only [Act.put, List.setIfInBounds_toArray, List.set_cons_zero, List.set_cons_succ]
          refine takeInH 8 68 ?v27 rfl rfl (by kernel_rfl) (by kernel_rfl) (by kernel_rfl) (fun _ _ _ h => h) (by kernel_rfl) hS1 ?hy27 ?_
          case hy27 => (intro W hW; clear hW; go_simp; try rfl)
          simp only [Act.put, List.setIfInBounds_toArray, List.set_cons_zero, List.set_cons_succ]
          refine takeInH 9 69 ?v28 rfl rfl (by kernel_rfl) (by kernel_rfl) (by kernel_rfl) (fun _ _ _ h => h) (by kernel_rfl) hS1 ?hy28 ?_
          case hy28 => (intro W hW; clear hW; go_simp; try rfl)
          simp only [Act.put, List.setIfInBounds_toArray, List.set_cons_zero, List.set_cons_succ]
          refine takeInH 10 70 ?v29 rfl rfl (by kernel_rfl) (by kernel_rfl) (by kernel_rfl) (fun _ _ _ h => h) (by kernel_rfl) hS1 ?hy29 ?_
          case hy29 => (intro W hW; have e0 := hW.1; have e1 := hW.2.1; have e2 := hW.2.2; clear hW; go_simp; try rfl)
          simp only [Act.put, List.setIfInBounds_toArray, List.set_cons_zero, List.set_cons_succ]
          refine wpAnyH_ready (rs := [11]) (by kernel_rfl) (by simp) ?_
          refine AllReadyH.cons rfl (fun K hK => ?_) AllReadyH.nil
          go_simp
          refine (mayRs_any p m c x.l _ (HRX.out.bel FN8.out.bel)).mono ?_
          rw [show x.l.all mayRc = true from HMX.out]
          rintro e w9 ⟨rfl, hb⟩
          have FN9 := hide (FN8.out.below hb)
          clear hb
          refine hK.out _ _ ?hs30 (fun hS2 => ?_)
          case hs30 => exact ⟨FN9.out.bg.cell 0 _ rfl, FN9.out.bg.cell 1 _ rfl, bcell FN9.out.bel HC1.out⟩
          clear hK K
          try simp only [Act.put, List.setIfInBounds_toArray, List.set_cons_zero, List.set_cons_succ]
          refine takeInH 12 72 ?v31 rfl rfl (by kernel_rfl) (by kernel_rfl) (by kernel_rfl) (fun _ _ _ h => h) (by kernel_rfl) hS2 ?hy31 ?_
          case hy31 => (intro W hW; clear hW; go_simp; try rfl)
          simp only [Act.put, List.setIfInBounds_toArray, List.set_cons_zero, List.set_cons_succ]
          refine takeInH 13 73 ?v32 rfl rfl (by kernel_rfl) (by kernel_rfl) (by kernel_rfl) (fun _ _ _ h => h) (by kernel_rfl) hS2 ?hy32 ?_
          case hy32 => (intro W hW; clear hW; go_simp; try rfl)
          simp only [Act.put, List.setIfInBounds_toArray, List.set_cons_zero, List.set_cons_succ]
          refine takeInH 14 74 ?v33 rfl rfl (by kernel_rfl) (by kernel_rfl) (by kernel_rfl) (fun _ _ _ h => h) (by kernel_rfl) hS2 ?hy33 ?_
          case hy33 => (intro W hW; clear hW; go_simp; try rfl)
          simp only [Act.put, List.setIfInBounds_toArray, List.set_cons_zero, List.set_cons_succ]
          refine takeInH 15 75 ?v34 rfl rfl (by kernel_rfl) (by kernel_rfl) (by kernel_rfl) (fun _ _ _ h => h) (by kernel_rfl) hS2 ?hy34 ?_
          case hy34 => (intro W hW; clear hW; go_simp; try rfl)
          simp only [Act.put, List.setIfInBounds_toArray, List.set_cons_zero, List.set_cons_succ]
          refine takeInH 16 76 ?v35 rfl rfl (by kernel_rfl) (by kernel_rfl) (by kernel_rfl) (fun _ _ _ h => h) (by kernel_rfl) hS2 ?hy35 ?_
          case hy35 => (intro W hW; clear hW; go_simp; try rfl)
          simp only [Act.put, List.setIfInBounds_toArray, List.set_cons_zero, List.set_cons_succ]
          refine takeInH 17 77 ?v36 rfl rfl (by kernel_rfl) (by kernel_rfl) (by kernel_rfl) (fun _ _ _ h => h) (by kernel_rfl) hS2 ?hy36 ?_
          case hy36 => (intro W hW; clear hW; go_simp; try rfl)
          simp only [Act.put, List.setIfInBounds_toArray, List.set_cons_zero, List.set_cons_succ]
          refine takeInH 18 78 ?v37 rfl rfl (by kernel_rfl) (by kernel_rfl) (by kernel_rfl) (fun _ _ _ h => h) (by kernel_rfl) hS2 ?hy37 ?_
          case hy37 => (intro W hW; have e0 := hW.1; have e1 := hW.2.1; have e2 := hW.2.2; clear hW; go_simp; try rfl)
          simp only [Act.put, List.setIfInBounds_toArray, List.set_cons_zero, List.set_cons_succ]
          refine takeInH 20 80 ?v38 rfl rfl (by kernel_rfl) (by kernel_rfl) (by kernel_rfl) (fun _ _ _ h => h) (by kernel_rfl) hS2 ?hy38 ?_
          case hy38 => (intro W hW; clear hW; go_simp; try rfl)
          simp only [Act.put, List.setIfInBounds_toArray, List.set_cons_zero, List.set_cons_succ]
          refine takeInH 21 81 ?v39 rfl rfl (by kernel_rfl) (by kernel_rfl) (by kernel_rfl) (fun _ _ _ h => h) (by kernel_rfl) hS2 ?hy39 ?_
          case hy39 => (intro W hW; clear hW; go_simp; try rfl)
          simp only [Act.put, List.setIfInBounds_toArray, List.set_cons_zero, List.set_cons_succ]
          refine takeInH 22 82 ?v40 rfl rfl (by kernel_rfl) (by kernel_rfl) (by kernel_rfl) (fun _ _ _ h => h) (by kernel_rfl) hS2 ?hy40 ?_
          case hy40 => (intro W hW; clear hW; go_simp; try rfl)
          simp only [Act.put, List.setIfInBounds_toArray, List.set_cons_zero, List.set_cons_succ]
          refine takeInH 23 83 ?v41 rfl rfl (by kernel_rfl) (by kernel_rfl) (by kernel_rfl) (fun _ _ _ h => h) (by kernel_rfl) hS2 ?hy41 ?_
          case hy41 => (intro W hW; clear hW; go_simp; try rfl)
          simp only [Act.put, List.setIfInBounds_toArray, List.set_cons_zero, List.set_cons_succ]
          refine takeInH 24 84 ?v42 rfl rfl (by kernel_rfl) (by kernel_rfl) (by kernel_rfl) (fun _ _ _ h => h) (by kernel_rfl) hS2 ?hy42 ?_
          case hy42 => (intro W hW; have e0 := hW.1; have e1 := hW.2.1; have e2 := hW.2.2; clear hW; go_simp; try rfl)
          simp only [Act.put, List.setIfInBounds_toArray, List.set_cons_zero, List.set_cons_succ]
          refine wpAnyH_ready (rs := [19]) (by kernel_rfl) (by simp) ?_
          refine AllReadyH.cons rfl (fun K hK => ?_) AllReadyH.nil
          go_simp
          refine (Left_any _ FN9.out.pd).mono ?_
          rintro e w10 ⟨rfl, hb⟩
          have FN10 := hide (FN9.out.below hb)
          clear hb
          refine hK.out _ _ ?hs43 (fun hS3 => ?_)
          case hs43 => exact ⟨FN10.out.bg.cell 0 _ rfl, FN10.out.bg.cell 1 _ rfl, bcell FN10.out.bel HC1.out⟩
          clear hK K
          try simp only [Act.put, List.setIfInBounds_toArray, List.set_cons_zero, List.set_cons_succ]
          refine wpAnyH_ready (rs := [25]) (by kernel_rfl) (by simp) ?_
          refine AllReadyH.cons rfl (fun K hK => ?_) AllReadyH.nil
          go_simp
          refine (wholeRs_any 9 p m c x.l _ (by decide) (by decide) (HRX.out.bel FN10.out.bel) ((allMay_iff x.l).1 HMX.out) HBG.out).mono ?_
          rintro e w11 ⟨v11, rfl, ho, hb⟩
          obtain ⟨p11, c11, rfl, _, _⟩ := ho.open HWB.out
          generalize hn11 : (wholeRs 9 x.l).length = n11 at *
          have hlf := HLF.out
          clear ho hn11
          have FN11 := hide (FN10.out.below hb)
          clear hb
          refine hK.out _ _ ?hs44 (fun hS4 => ?_)
          case hs44 => exact ⟨FN11.out.bg.cell 0 _ rfl, FN11.out.bg.cell 1 _ rfl, bcell FN11.out.bel HC1.out⟩
          clear hK K
          try simp only [Act.put, List.setIfInBounds_toArray, List.set_cons_zero, List.set_cons_succ]
          refine takeInH 26 86 ?v45 rfl rfl (by kernel_rfl) (by kernel_rfl) (by kernel_rfl) (fun _ _ _ h => h) (by kernel_rfl) hS4 ?hy45 ?_
          case hy45 => (intro W hW; clear hW; go_simp; try rfl)
          simp only [Act.put, List.setIfInBounds_toArray, List.set_cons_zero, List.set_cons_succ]
          refine takeInH 27 87 ?v46 rfl rfl (by kernel_rfl) (by kernel_rfl) (by kernel_rfl) (fun _ _ _ h => h) (by kernel_rfl) hS4 ?hy46 ?_
          case hy46 => (intro W hW; clear hW; go_simp; try rfl)
          simp only [Act.put, List.setIfInBounds_toArray, List.set_cons_zero, List.set_cons_succ]
          refine takeInH 28 88 ?v47 rfl rfl (by kernel_rfl) (by kernel_rfl) (by kernel_rfl) (fun _ _ _ h => h) (by kernel_rfl) hS4 ?hy47 ?_
          case hy47 => (intro W hW; clear hW; go_simp; try rfl)
          simp only [Act.put, List.setIfInBounds_toArray, List.set_cons_zero, List.set_cons_succ]
          refine wpAnyH_done (by kernel_rfl) ?_ _
          have HF := hide (FN11.out.next HK30.out)
          have hlf' : ¬ d5.left ≥ (n11 : Int) := by omega
          clear hlf
          go_wp2
          go_roundw
          case rel => exact ⟨k + 1, by omega, by go_num, HF⟩
          case measure => simp [intOf]; omega
    · have hnl : ¬ (k : Int) < (n : Int) := by omega
      have hlen : d.a.l.length ≤ 400000 ∧ d.b.l.length ≤ 400000 := by
        have q1 : 0 ≤ d.room - d.a.l.length - d.b.l.length := HFS.out.pd.ok.2.2.1
        have q2 := HFS.out.room
        omega
      have z0 := HFS.out.bg.cell 0 _ rfl
      have HO := hide (Open_JI wr HFS.out.pd HFS.out.stop hlen.1 hlen.2 HFS.out.ji (by have := HFS.out.tk; omega))
      have HNL : Hid (A.length + xs.length ≤ 1000000) := by have := HFS.out.len; unfold Hid; omega
      generalize hnx : xs.length = nx at *
      have HNX := hide hnx
      clear hnx hlen
      go_wp2_with fail
      refine HO.out.mono ?_
      rintro e w8 ⟨p8, n8, c8, rfl, hrc, hcp, hp8, hj8, hb8⟩
      have R8 := hide hrc
      have F8 := hide (HFS.out.below hb8)
      clear hrc hcp hp8 hj8 hb8 HO z0
      obtain ⟨pq, cq, hq, hmc, hmp⟩ := OwnW.rc F8.out.more (fun x hx => ⟨(F8.out.body x hx).1.below F8.out.bel, (F8.out.body x hx).2⟩)
      injection hq with hq1 hq2 hq3
      subst hq1 hq3
      have MC := hide hmc
      have HAL := hide (all7_any gw _ _ _ pa na ca A pm xs.length cm (xs.map Rw.rc) w8 F8.out.bg (F8.out.base.bel F8.out.bel) F8.out.bcap MC.out hmp (by have := HNL.out; have := HNX.out; have := F8.out.base.len; omega))
      clear hq2 hmc hmp
      go_wp2_with fail
      refine HAL.out.mono ?_
      rintro e w9 ⟨p9, n9, c9, rfl, hr9, hc9, hb9⟩
      have R9 := hide hr9
      replace R8 := hide (R8.out.bel hb9)
      have B9 := hide (bel_next F8.out.bel hb9)
      clear hr9 hc9 hb9 HAL
      go_wp2_with fail
      refine (sameRs_any p8 n8 c8 _ p9 n9 c9 _ w9 R8.out R9.out true (by simp)).mono ?_
      rintro e w10 ⟨rfl, hb⟩
      replace B9 := hide (bel_next B9.out hb)
      clear hb
      go_wp2_with fail
      refine (awake7 w10).mono ?_
      rintro e w11 ⟨rfl, hb⟩
      replace B9 := hide (bel_next B9.out hb)
      clear hb
      go_wp2
      go_ret
      exact ⟨rfl, B9.out⟩

/-! ### The row's step -/
set_option maxRecDepth 100000 in
theorem lifted (os : Os) (started : os.Started) (H : Type) (enc : TypeId × Value → H) :
    ReturnsInHanded {} Try.checked os 5 .any (Rows.journalFullSpec.pre6 enc Try.prog Try.f5 Rows.journalFullRow.domain false) (Rows.journalFullSpec.post enc Try.prog Try.f5 false true false false) := by
  refine returnsInHanded_of_change_sized (C := Try.checked) own started (by kernel_rfl) Try.func5
    (ChangeSpec.witness6 (enc := enc) (C := Try.checked) false ⟨#[], #[.slice none 0 0, .int .u8 0], []⟩ 8 (by kernel_rfl) (by kernel_rfl) (by kernel_rfl) (by kernel_rfl)) ?_
  intro W base args ds gs before hval0 hW hcnd hz0 _
  have hval : ∀ (j : Nat) t v, Try.f5.params[j]? = some t → args[j]? = some v → Value.okWide Try.prog W .any base t v := hval0
  have hz : (DataW.weightsEach Try.prog (Try.f5.params.toList ++ Rows.journalFullSpec.plain.varTypes Try.prog) (ds ++ gs)).all (· ≤ reachBytes) = true := hz0
  have hW' := hW
  obtain ⟨p, q, hA0, hV, rfl, hfz, hnd⟩ := hW
  have hA : DataW.TrodAll enc Try.prog W 0 (fun _ => true) true Try.f5.params.toList args.toList ds p := hA0
  rw [Try.params5] at hA hval hz
  obtain ⟨v0, vs0, d0, ds0, p0, q0, hargs, rfl, rfl, h0, r0⟩ := trodAll_cons hA
  obtain ⟨v1, vs1, d1, ds1, p1, q1, rfl, rfl, rfl, h1, r1⟩ := trodAll_cons r0
  obtain ⟨rfl, rfl, rfl⟩ := trodAll_nil r1
  obtain rfl : args = #[v0, v1] := by cases args; simp_all
  obtain ⟨rfl, rfl⟩ := trodVars_none hV
  have k0 := h0
  have lt0 : ∀ x ∈ p0, x.block < W.heap.size := by obtain ⟨m, hm⟩ := k0; exact DataW.trod_lt m _ _ _ hm
  have w0 : InA7 W v0 := in_acts7 (hval 0 40 v0 rfl rfl) h0 (fun n hn => by have := List.all_eq_true.1 hz n (DataW.weights_mem_each (j := 0) (t := 40) rfl rfl n hn); simpa using this)
  obtain ⟨a1, rfl, rfl, rfl, w1⟩ := open_int Try.underlying5 (hval 1 5 v1 rfl rfl) h1
  clear hA0 hval0 hz0
  refine (walk v0 a1 W w0 w1).mono fun e W' ⟨he, bel⟩ => ?_
  subst he
  exact ⟨_, rfl, _, _, _, [], _, [], hW', trodAll_mk1 (shut_bool Try.underlying4 _), (trodAll_cons_mk (Below.trod laidOut (by kernel_rfl) (of_decide_eq_true (by kernel_rfl)) k0 bel lt0) (trodAll_cons_mk (shut_int Try.underlying5 w1) trodAll_mk0)), rfl, bel.frame _, fun h => by cases h⟩

theorem over : Rows.journalFullRow.holds Try.pinned (OpenSpec.ofChange Rows.journalFullSpec) :=
  OpenClaim.holds_of_wide 5 Try.f5 rfl rfl rfl rfl rfl rfl rfl ⟨rfl, rfl, rfl, rfl, rfl⟩ rfl rfl rfl rfl rfl (by kernel_rfl) Try.func5 (by kernel_rfl)
    (of_decide_eq_true (by kernel_rfl)) (by unfold Func.isWrapper; first | (rw [if_pos (by decide +kernel)]; kernel_rfl) | (rw [if_neg (by decide +kernel)]; exact ⟨rfl, rfl⟩))
    (fun os started H enc _ => lifted os started H enc)
end Go.Proofs.Ytofalfaiamaapaa.journalFull
namespace Go.Proofs.Ytofalfaiamaapaa
theorem journalFull_holds : Rows.JournalFullSaid := journalFull.over
end Go.Proofs.Ytofalfaiamaapaa
