/- Two texts, one behind the other, have the lines of both. -/
import Derived.Test.YtadmibfnjhockaaDoorRows
import Derived.Test.YtadmibfnjhockaaDoorCards
import Derived.Test.YtadmibfnjhockaaDoorTie
import Derived.SevenTiedAt
import Derived.LaidMore
import Derived.LaidLaws
import Derived.Handed
import Derived.WalkKit
import Derived.ProofKit
import Derived.OpenShut
import Derived.ShutString
import Derived.ChangeOld
import Derived.Below
import Derived.SizedLaws
import Derived.Test.YtadmibfnjhockaaDoorN12
namespace Go.Proofs.YtadmibfnjhockaaDoor.parseJoins
open Go.ChangeShapes Go.WideShapes Go.ChangeAt Go.RowKit
set_option linter.unusedVariables false

theorem own : ownKnob Tryd.prog.godebug = none := by kernel_rfl
theorem laidOut : laidOutB Tryd.prog = true := by kernel_rfl

set_option maxRecDepth 2000 in
set_option maxHeartbeats 8000000 in
theorem walk (v0 : Value) (v1 : Value) (w : World) (w0 : InS15 w v0) (w1 : InS15 w v1) (hlv : LV w) :
    Calls Tryd.prog 4 #[v0, v1] w fun e w' => e = .returned (.bool true) ∧ Below w.heap.size w w' := by
  have HLV := hide hlv
  clear hlv
  have HB : Hid (Below w.heap.size w w) := Below.refl _ _
  obtain ⟨a, rfl⟩ := w0
  obtain ⟨b, rfl⟩ := w1
  obtain ⟨n, hn⟩ : ∃ n, a.size = n := ⟨_, rfl⟩
  obtain ⟨m, hm⟩ : ∃ m, b.size = m := ⟨_, rfl⟩
  by_cases h1 : (1000 : Int) < (n : Int)
  · go_enter Tryd.func4, Tryd.ntmps4
    go_wp2_with (go_at_call 6; refine (awake15 _ (HLV.out.below HB.out)).mono ?_; rintro e wz ⟨rfl, hb⟩; replace HB := hide (bel_next HB.out hb); clear hb)
    go_ret
    exact ⟨rfl, HB.out⟩
  by_cases h2 : (1000 : Int) < (m : Int)
  · go_enter Tryd.func4, Tryd.ntmps4
    go_wp2_with (go_at_call 6; refine (awake15 _ (HLV.out.below HB.out)).mono ?_; rintro e wz ⟨rfl, hb⟩; replace HB := hide (bel_next HB.out hb); clear hb)
    go_ret
    exact ⟨rfl, HB.out⟩
  have HRA := hide (fun W (hW : LV W) => LinesP15 a W (by unfold maxLen; omega) hW)
  have HRB := hide (fun W (hW : LV W) => LinesP15 b W (by unfold maxLen; omega) hW)
  have HRC : Hid (∀ S W, LV W → S = a ++ ⟨#[10]⟩ ++ b → Calls Tryd.prog 7 #[.string S] W fun e w' => ∃ v ds x e0, e = .returned (.tuple #[v, .int .i64 x, .int .i64 e0]) ∧ linG (bytesL a ++ 10 :: bytesL b) = (ds, x, e0) ∧ OwnF 7 RDc 32 W.heap.size w' v ds ∧ Below W.heap.size W w') := fun S W hW h => by
    subst h
    refine (LinesP15 _ W (by simp only [ByteArray.size_append]; unfold maxLen; show a.size + 1 + b.size ≤ _; omega) hW).mono ?_
    rintro e w' ⟨v, ds, x, e0, rfl, hl, ho, hb⟩
    refine ⟨v, ds, x, e0, rfl, ?_, ho, hb⟩
    rw [← hl, bytesL_app, bytesL_app, List.append_assoc]
    rfl
  have HJ := hide (fun X Y x y h3 h4 h5 => joinsG (a := bytesL a) (b := bytesL b) (X := X) (Y := Y) (x := x) (y := y) (by rw [bytesL_sz]; omega) (by rw [bytesL_sz]; omega) h3 h4 h5)
  rw [bytesL_sz, bytesL_sz, hn, hm] at HJ
  go_enter Tryd.func4, Tryd.ntmps4
  go_upto_region 4 with (go_at_call 7; refine (HRA.out _ HLV.out).mono ?_; rintro e w1 ⟨v1, ds1, x1, e1, rfl, hl, ho, hb⟩; have HL1 := hide hl; have HO1 := hide ho; have hW1 := hb.size; replace HB := hide hb; clear hl ho hb)
  have hA1 : ∀ g, v1.ownBlock = some g → g < w1.heap.size := fun g h => (HO1.out.lt h).2
  go_upto_region 5 with (go_at_call 7; refine (HRB.out _ (HLV.out.below HB.out)).mono ?_; rintro e w2 ⟨v2, ds2, x2, e2, rfl, hl, ho, hb⟩; have HL2 := hide hl; have HO2 := hide ho; have hW2 := hb.size; replace HO1 := hide (HO1.out.below RDc.st hb); replace HB := hide (bel_next HB.out hb); clear hl ho hb)
  have hA2 : ∀ g, v2.ownBlock = some g → g < w2.heap.size := fun g h => (HO2.out.lt h).2
  go_upto_region 6 with (go_at_call 7; refine (HRC.out _ _ (HLV.out.below HB.out) rfl).mono ?_; rintro e w3 ⟨v3, ds3, x3, e3, rfl, hl, ho, hb⟩; have HL3 := hide hl; have HO3 := hide ho; replace HO1 := hide (HO1.out.below RDc.st hb); replace HO2 := hide (HO2.out.below RDc.st hb); replace HB := hide (bel_next HB.out hb); clear hl ho hb)
  obtain ⟨p1, c1, rfl, hmx1, _⟩ := HO1.out.open
  replace hmx1 := hmx1.max
  unfold maxLen at hmx1
  obtain ⟨p2, c2, rfl, hmx2, _⟩ := HO2.out.open
  replace hmx2 := hmx2.max
  unfold maxLen at hmx2
  obtain ⟨p3, c3, rfl, hmx3, _⟩ := HO3.out.open
  replace hmx3 := hmx3.max
  unfold maxLen at hmx3
  clear HRA HRB HRC
  by_cases g1 : e1 = 0
  case neg =>
    clear HL1 HL2 HL3 HJ HO1 HO2 HO3
    go_wp2_with (go_at_call 6; refine (awake15 _ (HLV.out.below HB.out)).mono ?_; rintro e wz ⟨rfl, hb⟩; replace HB := hide (bel_next HB.out hb); clear hb)
    go_ret
    exact ⟨rfl, HB.out⟩
  subst g1
  by_cases g2 : e2 = 0
  case neg =>
    clear HL1 HL2 HL3 HJ HO1 HO2 HO3
    go_wp2_with (go_at_call 6; refine (awake15 _ (HLV.out.below HB.out)).mono ?_; rintro e wz ⟨rfl, hb⟩; replace HB := hide (bel_next HB.out hb); clear hb)
    go_ret
    exact ⟨rfl, HB.out⟩
  subst g2
  have hs1 := linB_len (by rw [bytesL_sz]; omega) (linB_of HL1.out)
  have hs2 := linB_len (by rw [bytesL_sz]; omega) (linB_of HL2.out)
  by_cases g3 : (60 : Int) < (ds1.length : Int) + (ds2.length : Int)
  case pos =>
    clear HL1 HL2 HL3 HJ HO1 HO2 HO3
    go_wp2_with (go_at_call 6; refine (awake15 _ (HLV.out.below HB.out)).mono ?_; rintro e wz ⟨rfl, hb⟩; replace HB := hide (bel_next HB.out hb); clear hb)
    go_ret
    exact ⟨rfl, HB.out⟩
  rcases HJ.out _ _ _ _ HL1.out HL2.out (by omega) with hq | ⟨z, hq, h390⟩
  case inr =>
    obtain ⟨rfl, rfl, rfl⟩ : ds3 = [] ∧ x3 = z ∧ e3 = 7 := by
      have q := HL3.out
      rw [hq] at q
      cases q
      exact ⟨rfl, rfl, rfl⟩
    have h391 : (390 : Int) < (n : Int) + (m : Int) := by omega
    clear hq HL1 HL2 HL3 HJ HO1 HO2 HO3
    go_wp2_with (go_at_call 6; refine (awake15 _ (HLV.out.below HB.out)).mono ?_; rintro e wz ⟨rfl, hb⟩; replace HB := hide (bel_next HB.out hb); clear hb)
    go_ret
    exact ⟨rfl, HB.out⟩
  obtain ⟨hd3, rfl, rfl⟩ : ds3 = ds1 ++ ds2.map (shD (1 + feeds (bytesL a))) ∧ x3 = 0 ∧ e3 = 0 := by
    have q := HL3.out
    rw [hq] at q
    cases q
    exact ⟨rfl, rfl, rfl⟩
  have hz3 : (ds3.length : Int) = (ds1.length : Int) + (ds2.length : Int) := by rw [hd3, List.length_append, List.length_map]; omega
  have HD3 := hide hd3
  have HTB := hide (linG_tb HL2.out)
  clear hd3 hq HL1 HL2 HL3 HJ
  go_upto_region 12 with fail
  obtain ⟨n1, hn1⟩ : ∃ n1, ds1.length = n1 := ⟨_, rfl⟩
  obtain ⟨n2, hn2⟩ : ∃ n2, ds2.length = n2 := ⟨_, rfl⟩
  obtain ⟨n3, hn3⟩ : ∃ n3, ds3.length = n3 := ⟨_, rfl⟩
  rw [hn1] at HO1 hs1 hA1 ⊢
  rw [hn2] at HO2 hs2 hA2 ⊢
  rw [hn3] at HO3 ⊢
  clear hz3 g3 h2 hmx1 hmx2 hmx3
  go_wp2
  go_loopw [14, 15] (fun vf vi wr => ∃ (i : Nat) (f : Int), i ≤ n ∧ vi = .int .i64 i ∧ vf = .int .i64 f ∧ 0 ≤ f ∧ f ≤ (i : Int) + 1 ∧ Hid (f = 1 + feeds ((bytesL a).take i)) ∧ wr = w3) (fun _ v _ => n - (RowKit.intOf v).toNat)
  case atStart => exact ⟨0, 1, by omega, rfl, rfl, by omega, by omega, rfl, rfl⟩
  case round =>
    obtain ⟨i, f, hi, rfl, rfl, hf0, hf1, HFE, hww⟩ := hrel
    have hww2 := hww.symm
    subst hww2
    clear hww
    by_cases hlt : i < n
    · have hi0 : (0 : Int) ≤ (i : Int) := by omega
      have hi1 : (i : Int) < (n : Int) := by omega
      have hat := bytesL_at (s := a) (i := i) (by rw [hn]; exact hlt)
      have hix : ∀ h : i < a.size, ((a[i]'h).toNat : Int) = byS a i := fun h => byS_is h
      have hbd := byS_bd a i
      have hfs := feeds_step hat
      generalize byS a i = ch at *
      by_cases h10 : ch = 10
      · have HF2 : Hid (f + 1 = 1 + feeds ((bytesL a).take (i + 1))) := by unfold Hid; rw [hfs, if_pos h10, HFE.out]; omega
        subst h10
        clear hfs hat HFE
        go_wp2
        go_roundw
        case rel => exact ⟨i + 1, f + 1, by omega, by go_num, by go_num, by omega, by omega, HF2, by trivial⟩
        case measure => simp [RowKit.intOf]; omega
      · have HF2 : Hid (f = 1 + feeds ((bytesL a).take (i + 1))) := by unfold Hid; rw [hfs, if_neg h10, HFE.out]; omega
        have h10b : (ch == 10) = false := by simpa using h10
        clear hfs hat HFE
        go_wp2
        go_roundw
        case rel => exact ⟨i + 1, f, by omega, by go_num, rfl, hf0, by omega, HF2, by trivial⟩
        case measure => simp [RowKit.intOf]; omega
    · obtain rfl : i = n := by omega
      have HFA : Hid (f = 1 + feeds (bytesL a)) := by
        unfold Hid
        rw [HFE.out, List.take_of_length_le (by rw [bytesL_sz]; omega)]
      clear HFE hlt
      go_wp2
      go_loopw [16] (fun v wr => ∃ j : Nat, j ≤ n2 ∧ v = .int .i64 j ∧ Hid (OwnF 7 RDc 32 w.heap.size wr (.slice p1 n1 c1) (ds1)) ∧ Hid (OwnF 7 RDc 32 w1.heap.size wr (.slice p2 n2 c2) ((ds2.map (shD f)).take j ++ ds2.drop j)) ∧ Hid (OwnF 7 RDc 32 w2.heap.size wr (.slice p3 n3 c3) (ds3)) ∧ Hid (Below w.heap.size w wr)) (fun v _ => n2 - (RowKit.intOf v).toNat)
      case atStart => exact ⟨0, by omega, rfl, HO1, (by unfold Hid; rw [List.take_zero, List.nil_append, List.drop_zero]; exact HO2.out), HO3, HB⟩
      case round =>
        clear HO1 HO2 HO3 HB
        obtain ⟨j, hj, rfl, HO1, HO2, HO3, HB⟩ := hrel
        by_cases hlt : j < n2
        · obtain ⟨g2, rfl⟩ := HO2.out.base (by omega)
          have hj0 : (0 : Int) ≤ (j : Int) := by omega
          have hj1 : (j : Int) < (n2 : Int) := by omega
          obtain ⟨d, hd⟩ : ∃ d, ds2[j]? = some d := ⟨_, List.getElem?_eq_getElem (by omega)⟩
          have hda := dj_at (f := f) hd
          have hds := dj_set (f := f) hd
          have hdl := dj_len (f := f) hn2 hj
          obtain ⟨pz, cz, hsl, hsf, _⟩ := HO2.out.open
          have hpz : pz = some ⟨g2, 0, none⟩ := by injection hsl with h; exact h.symm
          subst hpz
          clear hsl
          rw [hdl] at hsf
          obtain ⟨r, x, F, hx, ⟨p6, n6, c6, hr6, _⟩, hcl⟩ := hsf.at j hlt
          rw [hda] at hx
          cases hx
          have z6 := hcl 6 (.int .i64 d.2.2.2.2.2.2) (by rw [hr6]; rfl)
          have y6 := HO2.out.free (j * 7 + 6)
          rw [Nat.zero_add] at z6
          obtain ⟨hl0, hl1⟩ := HTB.out d (List.mem_of_getElem? hd)
          have hne1 : (Value.slice p1 n1 c1).ownBlock ≠ some g2 := fun e => by have q1 := hA1 g2 e; have q2 := (HO2.out.lt (g := g2) rfl).1; omega
          have hne3 : (Value.slice p3 n3 c3).ownBlock ≠ some g2 := fun e => by have q1 := hA2 g2 rfl; have q2 := (HO3.out.lt (g := g2) e).1; omega
          obtain ⟨HP, hgr⟩ := HO2.out.put RDc.st j 6 (.int .i64 (d.2.2.2.2.2.2 + f)) rfl (by decide) d (shD f d) hda (RDc.line (d.2.2.2.2.2.2 + f))
          rw [hds] at HP
          have HO1b := hide (HO1.out.other RDc.st HO2.out rfl hne1 hgr)
          have HO3b := hide (HO3.out.other RDc.st HO2.out rfl hne3 hgr)
          have hgw2 : w.heap.size ≤ g2 := by have q2 := (HO2.out.lt (g := g2) rfl).1; omega
          have HB9 := hide (HB.out.setCell (p := ⟨g2, j * 7 + 6, none⟩) hgw2 (.int .i64 (d.2.2.2.2.2.2 + f)))
          have HO2b := hide HP
          clear hsf hcl hr6 hda hds hdl hd HP hgr HO1 HO2 HO3 HB hne1 hne3 hgw2 hA1 hA2 hW1 hW2 hs1 hm hn1 hn2 hn3 HTB HFA HD3
          generalize d.2.2.2.2.2.2 = L at *
          have hsum : L + f ≤ 100000 := by omega
          clear hf1
          go_wp2
          go_roundw
          case rel => exact ⟨j + 1, by omega, by go_num, HO1b, HO2b, HO3b, HB9⟩
          case measure => simp [RowKit.intOf]; omega
        · have hjn : j = n2 := by omega
          subst hjn
          have HO2e : Hid (OwnF 7 RDc 32 w1.heap.size wr (.slice p2 j c2) (ds2.map (shD f))) := by unfold Hid; rw [← dj_end hn2]; exact HO2.out
          clear HO2 hA1 hA2 HTB hn hm hW1 hW2
          have HDE := hide (HFA.out ▸ HD3.out)
          clear HFA HD3
          go_wp2_with (at_builtin; refine Stop.at ?_)
          unfold Stop
          have b0 := bel1 wr (.cells #[] 32)
          refine append_fl RDc.st rfl _ _ 23 rfl Tryd.underlying23 Tryd.infoDc rfl (by decide) (by decide) wr.heap.size w.heap.size _ _ [] ds1 rfl (OwnF.made wr wr.heap.size _ rfl (Nat.le_refl _)) rfl (HO1.out.below RDc.st b0) (by rw [List.length_nil]; omega) b0.size ?_
          intro v4 w4 ho4 hgr4 hbel4
          have b4 := hbel4 wr b0
          rw [List.nil_append] at ho4
          have HO4 := hide ho4
          have HO2f := hide (HO2e.out.below RDc.st b4)
          have hmj : (ds2.map (shD f)).length = j := by rw [List.length_map]; exact hn2
          have HB4 := hide b4
          clear ho4 hgr4 hbel4 b0 b4 HO1 HO2e hn2
          generalize ds2.map (shD f) = ds2m at *
          go_wp2_with (at_builtin; refine Stop.at ?_)
          unfold Stop
          refine append_fl RDc.st rfl _ _ 23 rfl Tryd.underlying23 Tryd.infoDc rfl (by decide) (by decide) wr.heap.size w1.heap.size _ _ ds1 ds2m rfl HO4.out rfl HO2f.out (by omega) HB4.out.size ?_
          intro v5 w5 ho5 hgr5 hbel5
          have b5 := hbel5 wr HB4.out
          replace HB := hide (bel_next HB.out b5)
          rw [← HDE.out] at ho5
          subst hn3
          obtain ⟨p5, c5, rfl, hk5, _⟩ := ho5.open
          obtain ⟨p6, c6, hsl6, hk6, _⟩ := (HO3.out.below RDc.st b5).open
          have HK := hide hk6
          have HK2 := hide hk5
          obtain ⟨rfl, rfl⟩ : p6 = p3 ∧ c6 = c3 := by injection hsl6 with q1 q2 q3; exact ⟨q1.symm, q3.symm⟩
          have HSM : Hid (∀ W, SF 7 RDc W p6 ds3.length ds3 → SF 7 RDc W p5 ds3.length ds3 → Calls Tryd.prog 9 #[.slice p6 ds3.length c6, .slice p5 ds3.length c5] W fun e w' => e = .returned (.bool true) ∧ Below W.heap.size W w') := fun W g1 g2 => Same15_ref true p6 ds3.length c6 ds3 p5 ds3.length c5 ds3 ⟨fun _ => rfl, fun _ => rfl⟩ W g1 g2
          clear hk5 hk6 hsl6 ho5 hgr5 hbel5 b5 HO3 HO4 HO2f HB4 HDE
          generalize ds3.length = nt at *
          go_wp2_with (first | (go_at_call 9; refine (HSM.out _ HK.out HK2.out).mono ?_; rintro e w3 ⟨rfl, hb⟩; replace HB := hide (bel_next HB.out hb); clear hb) | (go_at_call 6; refine (awake15 _ (HLV.out.below HB.out)).mono ?_; rintro e wz ⟨rfl, hb⟩; replace HB := hide (bel_next HB.out hb); clear hb))
          go_ret
          exact ⟨rfl, HB.out⟩

/-! ### The row's step -/
theorem door_met (os : Os) (args : Array Value) : laidMetH Tryd.prog Rows.parseJoinsRow.laid ((World.doorLaid Tryd.prog 400 os).forCall (fun _ _ => 0) ⟨#[], args, []⟩).memory :=
  laidMetH_of_parts3 (fuel := 8) (laidMet_of_run' 8 (by kernel_rfl) (by kernel_rfl)) (by kernel_rfl) (by kernel_rfl)
set_option maxRecDepth 100000 in
theorem lifted (os : Os) (started : os.Started) (H : Type) (enc : TypeId × Value → H) :
    ReturnsInHanded {} Tryd.checked os 4 .any (fun w args => (Rows.parseJoinsSpec.pre enc Tryd.prog Tryd.f4 Rows.parseJoinsRow.domain false w args ∧ laidMetH Tryd.prog Rows.parseJoinsRow.laid w) ∧ sizedMet enc Tryd.prog Tryd.f4 (OpenSpec.ofChange Rows.parseJoinsSpec) false w args) (Rows.parseJoinsSpec.post enc Tryd.prog Tryd.f4 false true false false) := by
  refine returnsInHanded_of_change_and (C := Tryd.checked) (X := fun w _ => laidMetH Tryd.prog Rows.parseJoinsRow.laid w) (fun _ _ _ hh h => h.of_heap hh) own started (by kernel_rfl) Tryd.func4
    (ChangeSpec.witness_shaped (enc := enc) (C := Tryd.checked) (os := os) (X := fun w _ => laidMetH Tryd.prog Rows.parseJoinsRow.laid w) false (World.doorLaid Tryd.prog 400 os) #[.string ⟨#[]⟩, .string ⟨#[]⟩] 8 rfl (World.shaped_of_RefB (by kernel_rfl) (by kernel_rfl)) (by kernel_rfl) (by kernel_rfl) (by kernel_rfl) (door_met os _)) ?_
  intro W base args ds gs before hval0 hW hcnd hz0 hL _
  have hval : ∀ (j : Nat) t v, Tryd.f4.params[j]? = some t → args[j]? = some v → Value.okWide Tryd.prog W .any base t v := hval0
  have hz : (DataW.weightsEach Tryd.prog (Tryd.f4.params.toList ++ Rows.parseJoinsSpec.plain.varTypes Tryd.prog) (ds ++ gs)).all (· ≤ reachBytes) = true := hz0
  have hW' := hW
  obtain ⟨p, q, hA0, hV, rfl, hfz, hnd⟩ := hW
  have hA : DataW.TrodAll enc Tryd.prog W 0 (fun _ => true) true Tryd.f4.params.toList args.toList ds p := hA0
  rw [Tryd.params4] at hA hval hz
  obtain ⟨v0, vs0, d0, ds0, p0, q0, hargs, rfl, rfl, h0, r0⟩ := trodAll_cons hA
  obtain ⟨v1, vs1, d1, ds1, p1, q1, rfl, rfl, rfl, h1, r1⟩ := trodAll_cons r0
  obtain ⟨rfl, rfl, rfl⟩ := trodAll_nil r1
  obtain rfl : args = #[v0, v1] := by cases args; simp_all
  obtain ⟨rfl, rfl⟩ := trodVars_none hV
  have k0 := h0
  have lt0 : ∀ x ∈ p0, x.block < W.heap.size := by obtain ⟨m, hm⟩ := k0; exact DataW.trod_lt m _ _ _ hm
  have w0 : InS15 W v0 := in_str15 (hval 0 9 v0 rfl rfl) h0 (fun n hn => by have := List.all_eq_true.1 hz n (DataW.weights_mem_each (j := 0) (t := 9) rfl rfl n hn); simpa using this)
  have k1 := h1
  have lt1 : ∀ x ∈ p1, x.block < W.heap.size := by obtain ⟨m, hm⟩ := k1; exact DataW.trod_lt m _ _ _ hm
  have w1 : InS15 W v1 := in_str15 (hval 1 9 v1 rfl rfl) h1 (fun n hn => by have := List.all_eq_true.1 hz n (DataW.weights_mem_each (j := 1) (t := 9) rfl rfl n hn); simpa using this)
  clear hA0 hval0 hz0
  refine (walk v0 v1 W w0 w1 (lv_of hL)).mono fun e W' ⟨he, bel⟩ => ?_
  subst he
  exact ⟨_, rfl, _, _, _, [], _, [], hW', trodAll_mk1 (shut_bool Tryd.underlying4 _), (trodAll_cons_mk (Below.trod laidOut (by kernel_rfl) (of_decide_eq_true (by kernel_rfl)) k0 bel lt0) (trodAll_cons_mk (Below.trod laidOut (by kernel_rfl) (of_decide_eq_true (by kernel_rfl)) k1 bel lt1) trodAll_mk0)), rfl, bel.frame _, fun h => by cases h⟩

theorem over : Rows.parseJoinsRow.holds Tryd.pinned (OpenSpec.ofChange Rows.parseJoinsSpec) :=
  OpenClaim.holds_of_wide 4 Tryd.f4 rfl rfl rfl rfl rfl rfl rfl ⟨rfl, rfl, rfl, rfl, rfl⟩ rfl rfl rfl rfl rfl (by kernel_rfl) Tryd.func4 (by kernel_rfl)
    (of_decide_eq_true (by kernel_rfl)) (by unfold Func.isWrapper; first | (rw [if_pos (by decide +kernel)]; kernel_rfl) | (rw [if_neg (by decide +kernel)]; exact ⟨rfl, rfl⟩))
    (fun os started H enc _ => lifted os started H enc)
end Go.Proofs.YtadmibfnjhockaaDoor.parseJoins
namespace Go.Proofs.YtadmibfnjhockaaDoor
open Go
theorem parseJoins_plain (f : FuncId) (fn : Func) (hf : Tryd.pinned.checked.prog.funcNamed "huckster/hucksterlaw15.ParseJoins" = some f) (hfn : Tryd.pinned.checked.prog.funcs[f]? = some fn) :
    true = Tryd.pinned.checked.prog.looks [] ∧ ∀ (j : Nat) t, fn.params[j]? = some t → Tryd.pinned.checked.prog.wantsStandIn t = false := by
  obtain rfl : f = 4 := Option.some.inj ((show Tryd.prog.funcNamed "huckster/hucksterlaw15.ParseJoins" = some 4 by kernel_rfl).symm.trans hf) |>.symm
  obtain rfl : fn = Tryd.f4 := (Option.some.inj (Tryd.func4.symm.trans hfn)).symm
  refine ⟨by kernel_rfl, fun j t ht => ?_⟩
  rw [Tryd.params4] at ht
  have hm : t ∈ [9, 9] := by simpa using Array.mem_of_getElem? ht
  have hall : ([9, 9].all fun u => !Tryd.prog.wantsStandIn u) = true := by kernel_rfl
  exact (show Tryd.prog.wantsStandIn t = false by simpa using List.all_eq_true.1 hall t hm)
/-- The tied card. -/
theorem parseJoins_holds : Rows.ParseJoinsCardSaid :=
  Claim7.holds_tied_plain_at .later [] _ _ _ _ parseJoins.over (fun _ h => by cases h) (by kernel_rfl) (fun _ h => by cases h) parseJoins_row_tie rfl ⟨rfl, rfl⟩ (by kernel_rfl) rfl parseJoins_plain (by kernel_rfl)
end Go.Proofs.YtadmibfnjhockaaDoor
