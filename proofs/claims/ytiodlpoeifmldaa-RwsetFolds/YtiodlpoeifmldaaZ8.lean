/- The program's places, copies, what a clock has not, and what it does to each key (layer 9). -/
import Derived.Test.YtiodlpoeifmldaaZ7
import Derived.Test.YtiodlpoeifmldaaA6
import Derived.Test.YtiodlpoeifmldaaB2
namespace Go.Proofs.Ytiodlpoeifmldaa
open Go.RowKit Go.Lib
set_option linter.unusedVariables false
set_option maxRecDepth 4000 in
set_option maxHeartbeats 400000 in
theorem plc9_any (k t : ByteArray) (vl vd : Value) (w : World) : Calls Try.prog 72 #[.agg #[.string k, vl, vd], .string t] w fun e w' => e = .returned (.int .i64 (cmpK k t)) ∧ Below w.heap.size w w' := by
  go_enter Try.func72, Try.ntmps72
  go_wp2_with (go_at_call 73; refine (Compare_any _ _ _).mono ?_; rintro e w' ⟨rfl, rfl⟩)
  go_ret
  exact ⟨rfl, bel1 _ _⟩
set_option maxHeartbeats 2000000 in
theorem srch9_any (a : Option Addr) (n cap : Nat) (s : List En) (t : ByteArray) (w : World) (hA : NSS w a n s) (hS : SrtK s) (hn : n ≤ 4000) :
    Calls Try.prog 71 #[.slice a n cap, .string t, .func (.func 72) #[] #[]] w fun e w' => (∃ i : Nat, e = .returned (.tuple #[.int .i64 i, .bool (thereB s t i)]) ∧ PlaceK s t i) ∧ Below w.heap.size w w' := by
  have HV := hide hA
  have HLEN := hide hA.len
  have HS := hide hS
  clear hA hS
  go_enter Try.func71, Try.ntmps71
  go_wp2
  go_loopw [9, 10] (fun vi vj wr => ∃ i j : Nat, i ≤ j ∧ j ≤ n ∧ vi = .int .i64 i ∧ vj = .int .i64 j ∧ Hid (Below w.heap.size w wr) ∧ Hid (∀ q x, q < i → s[q]? = some x → ltK x.1 t = true) ∧ Hid (∀ q x, j ≤ q → s[q]? = some x → ltK x.1 t = false)) (fun vi vj _ => (intOf vj).toNat - (intOf vi).toNat)
  case atStart => exact ⟨0, n, by omega, by omega, rfl, rfl, Below.refl _ _, fun q x h => absurd h (Nat.not_lt_zero _), fun q x h1 h2 => by have := (List.getElem?_eq_some_iff.1 h2).1; rw [HLEN.out] at this; omega⟩
  case round =>
    obtain ⟨i, j, hij, hjn, rfl, rfl, HB, H1, H2⟩ := hrel
    by_cases hlt : i < j
    · obtain ⟨h, hh⟩ : ∃ h : Nat, h = (i + j) / 2 := ⟨_, rfl⟩
      have hih : i ≤ h := by omega
      have hhj : h < j := by omega
      have hI : ((i : Int) + (j : Int)) / 2 = (h : Int) := by omega
      have hh0 : (0 : Int) ≤ (h : Int) := by omega
      have hh1 : (h : Int) < (n : Int) := by omega
      clear hh
      obtain ⟨b, off, rfl⟩ := HV.out.addr (by omega)
      obtain ⟨k, pl, nl, cl, pd, nd, cd, ll, mm, hx, c0, c1, c2, _, _, _, _⟩ := (HV.out.below HB.out).at h (by omega)
      have HX := hide hx
      clear hx
      rcases hl : ltK k t with _ | _
      · have hc : ¬ cmpK k t < 0 := by rw [cmpK_lt, hl]; simp
        have H3 := hide (halve_hi HS.out HX.out hl)
        clear hl
        have HCM := hide (plc9_any k t (.slice pl nl cl) (.slice pd nd cd))
        generalize cmpK k t = z at *
        go_wp2_with (go_at_call 72; refine (HCM.out _).mono ?_; rintro e w' ⟨rfl, hb⟩)
        go_roundw
        case rel => exact ⟨i, h, hih, by omega, rfl, rfl, (show Hid _ from bel_next HB.out hb), H1, H3⟩
        case measure => simp [intOf]; omega
      · have hc : cmpK k t < 0 := by rw [cmpK_lt, hl]
        have H3 := hide (halve_lo HS.out HX.out hl)
        clear hl
        have HCM := hide (plc9_any k t (.slice pl nl cl) (.slice pd nd cd))
        generalize cmpK k t = z at *
        go_wp2_with (go_at_call 72; refine (HCM.out _).mono ?_; rintro e w' ⟨rfl, hb⟩)
        go_roundw
        case rel => exact ⟨h + 1, j, by omega, by omega, by go_num, rfl, (show Hid _ from bel_next HB.out hb), H3, H2⟩
        case measure => simp [intOf]; omega
    · obtain rfl : i = j := by omega
      have HP : Hid (PlaceK s t i) := ⟨by rw [HLEN.out]; omega, H1.out, H2.out⟩
      clear H1 H2
      by_cases hin : i < n
      · obtain ⟨b, off, rfl⟩ := HV.out.addr (by omega)
        obtain ⟨k, pl, nl, cl, pd, nd, cd, ll, mm, hx, c0, c1, c2, _, _, _, _⟩ := (HV.out.below HB.out).at i hin
        have HX : Hid (thereB s t i = (cmpK k t == 0)) := by
          unfold Hid thereB
          rw [hx, Bool.eq_iff_iff]
          simp [cmpK_eq]
        have hi0 : (0 : Int) ≤ (i : Int) := by omega
        have hi1 : (i : Int) < (n : Int) := by omega
        clear hx
        have HCM := hide (plc9_any k t (.slice pl nl cl) (.slice pd nd cd))
        generalize cmpK k t = z at *
        go_wp2_with (go_at_call 72; refine (HCM.out _).mono ?_; rintro e w' ⟨rfl, hb⟩)
        go_ret2
        exact ⟨⟨i, by rw [HX.out]; rfl, HP.out⟩, bel_next HB.out hb⟩
      · have HX : Hid (thereB s t i = false) := by
          unfold Hid thereB
          rw [List.getElem?_eq_none (by rw [HLEN.out]; omega)]
        go_wp2
        go_ret2
        exact ⟨⟨i, by rw [HX.out]; rfl, HP.out⟩, HB.out⟩
set_option maxRecDepth 4000 in
set_option maxHeartbeats 400000 in
theorem plc9w_any (a : Option Addr) (n cap : Nat) (s : List En) (t : ByteArray) (w : World) (hA : NSS w a n s) (hS : SrtK s) (hn : n ≤ 4000) :
    Calls Try.prog 55 #[.slice a n cap, .string t] w fun e w' => (∃ i : Nat, e = .returned (.tuple #[.int .i64 i, .bool (thereB s t i)]) ∧ PlaceK s t i) ∧ Below w.heap.size w w' := by
  go_enter Try.func55, Try.ntmps55
  go_wp2_with (go_at_call 71; refine (srch9_any a n cap s t _ hA hS hn).mono ?_; rintro e w' ⟨⟨i, rfl, hp⟩, hb⟩)
  go_ret2
  exact ⟨⟨i, rfl, hp⟩, hb⟩
set_option maxHeartbeats 2000000 in
set_option maxRecDepth 4000 in
theorem clone9_any (k : ByteArray) (pl : Option Addr) (nl cl : Nat) (pd : Option Addr) (nd cd : Nat) (l m : List Dot) (w : World) (hl : DS w pl nl l) (hm : DS w pd nd m) (h1 : nl ≤ 1000000) (h2 : nd ≤ 1000000) : Calls Try.prog 56 #[.agg #[.string k, .slice pl nl cl, .slice pd nd cd]] w fun e w' => ∃ v1 v2, e = .returned (.agg #[.string k, v1, v2]) ∧ OwnD w.heap.size w' v1 l ∧ OwnD w.heap.size w' v2 m ∧ Below w.heap.size w w' := by
  have B0 := hide (bel1 w (.cells #[.string k, .slice pl nl cl, .slice pd nd cd] 48))
  have BN := hide (bel1 (w.alloc (.cells #[.string k, .slice pl nl cl, .slice pd nd cd] 48)) (.cells #[.string ⟨#[]⟩, .slice none 0 0, .slice none 0 0] 48))
  have HX1 := hide ((BX.new w _ rfl #[.string k, .slice pl nl cl, .slice pd nd cd] 48).alloc (.cells #[.string ⟨#[]⟩, .slice none 0 0, .slice none 0 0] 48))
  have HX2 := hide (BX.new (w.alloc (.cells #[.string k, .slice pl nl cl, .slice pd nd cd] 48)) (w.heap.size + 1) (by simp) #[.string ⟨#[]⟩, .slice none 0 0, .slice none 0 0] 48)
  have HBU := hide (bel_next B0.out BN.out)
  have HNU0 : Hid (w.heap.size ≤ ((w.alloc (.cells #[.string k, .slice pl nl cl, .slice pd nd cd] 48)).alloc (.cells #[.string ⟨#[]⟩, .slice none 0 0, .slice none 0 0] 48)).heap.size) := HBU.out.size
  have HL := hide (hl.below HBU.out)
  have HM := hide (hm.below HBU.out)
  have HNU := HNU0
  clear hl hm B0 BN
  go_enter Try.func56, Try.ntmps56
  go_upto_region 1 with fail
  generalize (w.alloc (.cells #[.string k, .slice pl nl cl, .slice pd nd cd] 48)).alloc (.cells #[.string ⟨#[]⟩, .slice none 0 0, .slice none 0 0] 48) = u at *
  refine wp_region_held_drew (S := fun W => BX W w.heap.size #[.string k, .slice pl nl cl, .slice pd nd cd] 48) (by kernel_rfl) (HX1.out.drew) (fun hS0 => ?_)
  refine takeInH 0 3 ?v1 rfl rfl (by kernel_rfl) (by kernel_rfl) (by kernel_rfl) (fun _ _ _ h => h) (by kernel_rfl) hS0 ?hy1 ?_
  case hy1 => (intro W hW; clear hW; go_simp; try rfl)
  simp only [Act.put, List.setIfInBounds_toArray, List.set_cons_zero, List.set_cons_succ]
  refine takeInH 1 4 ?v2 rfl rfl (by kernel_rfl) (by kernel_rfl) (by kernel_rfl) (fun _ _ _ h => h) (by kernel_rfl) hS0 ?hy2 ?_
  case hy2 => (intro W hW; have e0 := hW.cell 0 _ rfl; have e1 := hW.cell 1 _ rfl; have e2 := hW.cell 2 _ rfl; clear hW; go_simp; try rfl)
  simp only [Act.put, List.setIfInBounds_toArray, List.set_cons_zero, List.set_cons_succ]
  refine takeInH 2 5 ?v3 rfl rfl (by kernel_rfl) (by kernel_rfl) (by kernel_rfl) (fun _ _ _ h => h) (by kernel_rfl) hS0 ?hy3 ?_
  case hy3 => (intro W hW; clear hW; go_simp; try rfl)
  simp only [Act.put, List.setIfInBounds_toArray, List.set_cons_zero, List.set_cons_succ]
  refine takeInH 3 6 ?v4 rfl rfl (by kernel_rfl) (by kernel_rfl) (by kernel_rfl) (fun _ _ _ h => h) (by kernel_rfl) hS0 ?hy4 ?_
  case hy4 => (intro W hW; have e0 := hW.cell 0 _ rfl; have e1 := hW.cell 1 _ rfl; have e2 := hW.cell 2 _ rfl; clear hW; go_simp; try rfl)
  simp only [Act.put, List.setIfInBounds_toArray, List.set_cons_zero, List.set_cons_succ]
  refine takeInH 5 8 ?v5 rfl rfl (by kernel_rfl) (by kernel_rfl) (by kernel_rfl) (fun _ _ _ h => h) (by kernel_rfl) hS0 ?hy5 ?_
  case hy5 => (intro W hW; clear hW; go_simp; try rfl)
  simp only [Act.put, List.setIfInBounds_toArray, List.set_cons_zero, List.set_cons_succ]
  refine takeInH 6 9 ?v6 rfl rfl (by kernel_rfl) (by kernel_rfl) (by kernel_rfl) (fun _ _ _ h => h) (by kernel_rfl) hS0 ?hy6 ?_
  case hy6 => (intro W hW; have e0 := hW.cell 0 _ rfl; have e1 := hW.cell 1 _ rfl; have e2 := hW.cell 2 _ rfl; clear hW; go_simp; try rfl)
  simp only [Act.put, List.setIfInBounds_toArray, List.set_cons_zero, List.set_cons_succ]
  refine wpAnyH_ready (rs := [4]) (by kernel_rfl) (by simp) ?_
  refine AllReadyH.cons rfl (fun K hK => ?_) AllReadyH.nil
  go_simp
  refine (cloneD_any pl nl cl l _ (HL.out.below (Below.refl _ u).drew) (by omega)).mono ?_
  rintro e w1 ⟨v1, rfl, ho1, hb1⟩
  obtain ⟨p1, r1, rfl, _, _⟩ := ho1.open
  have O1 := hide ho1
  have B1 := hide (bel_next (Below.refl _ u).drew hb1)
  have X2 := hide ((HX2.out.drew).below hb1)
  have BW := hS0.below hb1
  clear ho1 hb1
  refine hK.out _ _ ?hs7 (fun hS1 => ?_)
  case hs7 => exact BW
  clear hK K
  try simp only [Act.put, List.setIfInBounds_toArray, List.set_cons_zero, List.set_cons_succ]
  refine wpAnyH_ready (rs := [7]) (by kernel_rfl) (by simp) ?_
  refine AllReadyH.cons rfl (fun K hK => ?_) AllReadyH.nil
  go_simp
  refine (cloneD_any pd nd cd m _ (HM.out.below B1.out) (by omega)).mono ?_
  rintro e w2 ⟨v2, rfl, ho2, hb2⟩
  obtain ⟨p2, r2, rfl, _, _⟩ := ho2.open
  have O2 := hide ho2
  replace O1 := hide (O1.out.below hb2)
  have B2 := hide (bel_next B1.out hb2)
  replace X2 := hide (X2.out.below hb2)
  clear BW
  have BW := hS1.below hb2
  have hz1 := B1.out.size
  clear hb2 ho2
  refine hK.out _ _ ?hs8 (fun hS2 => ?_)
  case hs8 => exact BW
  clear hK K
  try simp only [Act.put, List.setIfInBounds_toArray, List.set_cons_zero, List.set_cons_succ]
  refine takeInH 8 11 ?v9 rfl rfl (by kernel_rfl) (by kernel_rfl) (by kernel_rfl) (fun _ _ _ h => h) (by kernel_rfl) hS2 ?hy9 ?_
  case hy9 => (intro W hW; clear hW; go_simp; try rfl)
  simp only [Act.put, List.setIfInBounds_toArray, List.set_cons_zero, List.set_cons_succ]
  refine wpAnyH_ready (rs := [9]) (by kernel_rfl) (by simp) ?_
  refine AllReadyH.cons rfl (fun K hK => ?_) AllReadyH.nil
  have f0 := X2.out.free 0
  have f1 := X2.out.free 1
  have f2 := X2.out.free 2
  have q0 := X2.out.cell 0 _ rfl
  have q1 := X2.out.cell 1 _ rfl
  have q2 := X2.out.cell 2 _ rfl
  obtain ⟨hp1, _, hp2, hp4⟩ := X2.out.put3 (.string k) (.slice p1 l.length r1) (.slice p2 m.length r2)
  have HP1 := hide hp1
  have off1 : (Value.slice p1 l.length r1).ownBlock ≠ some (w.heap.size + 1) := OwnR.off O1.out X2.out (by decide)
  have off2 : (Value.slice p2 m.length r2).ownBlock ≠ some (w.heap.size + 1) := OwnR.off O2.out X2.out (by decide)
  have HB3 := hide (hp2 _ _ (HBU.out.trans (B2.out.mono HNU.out)) (Nat.le_succ _))
  clear BW
  have BW := hp4 _ _ _ hS2 (by omega)
  replace O1 : Hid (OwnD w.heap.size _ (.slice p1 l.length r1) l) := ((((OwnR.set (OwnR.set (OwnR.set (OwnD.rows.1 O1.out) off1 0 (.string k)) off1 1 (.slice p1 l.length r1)) off1 2 (.slice p2 m.length r2)))).mono HNU0.out)
  replace O2 : Hid (OwnD w.heap.size _ (.slice p2 m.length r2) m) := ((((OwnR.set (OwnR.set (OwnR.set (OwnD.rows.1 O2.out) off2 0 (.string k)) off2 1 (.slice p1 l.length r1)) off2 2 (.slice p2 m.length r2)))).mono (Nat.le_trans HNU0.out hz1))
  clear hp1 hp2 hp4
  go_simp
  refine hK.out _ _ ?hs10 (fun hS3 => ?_)
  case hs10 => exact BW
  clear hK K
  try simp only [Act.put, List.setIfInBounds_toArray, List.set_cons_zero, List.set_cons_succ]
  refine wpAnyH_done (by kernel_rfl) ?_ _
  go_wp2
  refine bodyPost_ret (results_cell_row rfl _ _ _ _ _ _ _ rfl HP1.out Try.underlying48 rfl (by kernel_rfl)) rfl ?_
  exact ⟨_, _, rfl, O1.out, O2.out, HB3.out⟩
set_option maxHeartbeats 2000000 in
theorem unk9_any (p : Option Addr) (n cap : Nat) (l : List Dot) (pa : Option Addr) (na ca : Nat) (c : List Int) (w : World) (hA : DS w p n l) (hP : NS w pa na c) (hn : n ≤ 900000) : Calls Try.prog 34 #[.slice p n cap, .slice pa na ca] w fun e w' => ∃ v, e = .returned v ∧ OwnD w.heap.size w' v (leftD l c) ∧ Below w.heap.size w w' := by
  have HV := hide hA
  have HP := hide hP
  have HLEN := hide hA.1
  clear hA hP
  go_enter Try.func34, Try.ntmps34
  go_wp2
  go_loopw [5, 10] (fun V i wr => ∃ k : Nat, k ≤ n ∧ i = .int .i64 k ∧ Hid (OwnD w.heap.size wr V (leftD (l.take k) c)) ∧ Hid (Below w.heap.size w wr)) (fun _ i _ => n - (intOf i).toNat)
  case atStart => exact ⟨0, by omega, rfl, OwnD.nil _ _, Below.refl _ _⟩
  case round =>
    obtain ⟨k, hk, rfl, HO, HB⟩ := hrel
    by_cases hlt : k < n
    · obtain ⟨b, off, rfl⟩ := HV.out.addr (by omega)
      obtain ⟨r, s, hx, c0, c1⟩ := (HV.out.below HB.out).one k hlt
      have hk0 : (0 : Int) ≤ (k : Int) := by omega
      have hk1 : (k : Int) < (n : Int) := by omega
      go_upto_region 5 with fail
      have HB2 : Hid (Below w.heap.size w (wr.alloc (.cells #[.int .i64 r, .int .i64 s] 24))) := HB.out.alloc HB.out.size _
      have HO2 := hide (HO.out.alloc (.cells #[.int .i64 r, .int .i64 s] 24))
      have d0 := cell_new wr #[.int .i64 r, .int .i64 s] 24 _ rfl 0 _ rfl
      have d1 := cell_new wr #[.int .i64 r, .int .i64 s] 24 _ rfl 1 _ rfl
      generalize hgb : wr.heap.size = gb at *
      clear c0 c1 HB HO
      generalize wr.alloc (.cells #[.int .i64 r, .int .i64 s] 24) = u at *
      clear hgb
      by_cases hkn : getZ c r < s
      · have HF2 := hide (left_yes (c := c) hx hkn)
        have HKN := hide hkn
        have HBX : Hid (∀ k, (leftD (l.take k) c).length ≤ n) := fun k => by
          refine Nat.le_trans (List.length_filter_le _ _) ?_
          rw [List.length_take, HLEN.out]
          omega
        clear hx
        refine wp_region_held_drew (S := fun W => Below u.heap.size u W) (by kernel_rfl) ((Below.refl _ u).drew) (fun hS0 => ?_)
        refine takeInH 0 14 ?v11 rfl rfl (by kernel_rfl) (by kernel_rfl) (by kernel_rfl) (fun _ _ _ h => h) (by kernel_rfl) hS0 ?hy11 ?_
        case hy11 => (intro W hW; clear hW; go_simp; try rfl)
        simp only [Act.put, List.setIfInBounds_toArray, List.set_cons_zero, List.set_cons_succ]
        refine takeInH 1 15 ?v12 rfl rfl (by kernel_rfl) (by kernel_rfl) (by kernel_rfl) (fun _ _ _ h => h) (by kernel_rfl) hS0 ?hy12 ?_
        case hy12 => (intro W hW; have e0 := bcell hW d0; have e1 := bcell hW d1; clear hW; go_simp; try rfl)
        simp only [Act.put, List.setIfInBounds_toArray, List.set_cons_zero, List.set_cons_succ]
        refine takeInH 2 16 ?v13 rfl rfl (by kernel_rfl) (by kernel_rfl) (by kernel_rfl) (fun _ _ _ h => h) (by kernel_rfl) hS0 ?hy13 ?_
        case hy13 => (intro W hW; clear hW; go_simp; try rfl)
        simp only [Act.put, List.setIfInBounds_toArray, List.set_cons_zero, List.set_cons_succ]
        refine takeInH 3 17 ?v14 rfl rfl (by kernel_rfl) (by kernel_rfl) (by kernel_rfl) (fun _ _ _ h => h) (by kernel_rfl) hS0 ?hy14 ?_
        case hy14 => (intro W hW; clear hW; go_simp; try rfl)
        simp only [Act.put, List.setIfInBounds_toArray, List.set_cons_zero, List.set_cons_succ]
        refine takeInH 4 18 ?v15 rfl rfl (by kernel_rfl) (by kernel_rfl) (by kernel_rfl) (fun _ _ _ h => h) (by kernel_rfl) hS0 ?hy15 ?_
        case hy15 => (intro W hW; have e0 := bcell hW d0; have e1 := bcell hW d1; clear hW; go_simp; try rfl)
        simp only [Act.put, List.setIfInBounds_toArray, List.set_cons_zero, List.set_cons_succ]
        refine wpAnyH_ready (rs := [5]) (by kernel_rfl) (by simp) ?_
        refine AllReadyH.cons rfl (fun K hK => ?_) AllReadyH.nil
        go_simp
        refine (Get_any pa na ca c r _ (HP.out.below (bel_next HB2.out hS0))).mono ?_
        rintro e wq ⟨rfl, hb⟩
        refine hK.out _ _ ?hs16 (fun hS1 => ?_)
        case hs16 => exact bel_next hS0 hb
        clear hK K hb
        try simp only [Act.put, List.setIfInBounds_toArray, List.set_cons_zero, List.set_cons_succ]
        refine takeInH 6 20 ?v17 rfl rfl (by kernel_rfl) (by kernel_rfl) (by kernel_rfl) (fun _ _ _ h => h) (by kernel_rfl) hS1 ?hy17 ?_
        case hy17 => (intro W hW; clear hW; go_simp; try rfl)
        simp only [Act.put, List.setIfInBounds_toArray, List.set_cons_zero, List.set_cons_succ]
        refine wpAnyH_done (by kernel_rfl) ?_ _
        generalize getZ c r = gz at *
        replace d0 := bcell hS1 d0
        replace d1 := bcell hS1 d1
        replace HO2 := hide (HO2.out.below hS1)
        replace HB2 := hide (bel_next HB2.out hS1)
        clear hS1
        go_wp2_with (at_builtin; refine Stop.at ?_)
        unfold Stop
        have HBq := hide (bel1 wq (.cells #[.int .i64 r, .int .i64 s] 24))
        have HB3 := hide (bel_next HB2.out HBq.out)
        refine append_dots rfl _ _ rfl w.heap.size _ _ [(r, s)] rfl (HO2.out.below HBq.out) (some ⟨wq.heap.size, 0, none⟩) 1 1 rfl (fun h => by cases h) (DS.new wq _ rfl [(r, s)] _ (by simp [flatD, encD]) 24 (0, 0) 1 rfl (by decide)) (by have := HBX.out k; rw [List.length_singleton]; omega) HB3.out.size ?_
        intro v3 w3 ho3 hbel3
        have HO3 := hide ho3
        rw [← HF2.out] at HO3
        have HB4 := hide (hbel3 _ HB3.out)
        clear ho3 hbel3 HB3 HBq HO2 HB2
        go_wp2
        go_roundw
        case rel => exact ⟨k + 1, by omega, by go_num, HO3, HB4⟩
        case measure => simp [intOf]; omega
      · have HF2 := hide (left_no (c := c) hx hkn)
        have HKN := hide hkn
        clear hx
        refine wp_region_held_drew (S := fun W => Below u.heap.size u W) (by kernel_rfl) ((Below.refl _ u).drew) (fun hS0 => ?_)
        refine takeInH 0 14 ?v18 rfl rfl (by kernel_rfl) (by kernel_rfl) (by kernel_rfl) (fun _ _ _ h => h) (by kernel_rfl) hS0 ?hy18 ?_
        case hy18 => (intro W hW; clear hW; go_simp; try rfl)
        simp only [Act.put, List.setIfInBounds_toArray, List.set_cons_zero, List.set_cons_succ]
        refine takeInH 1 15 ?v19 rfl rfl (by kernel_rfl) (by kernel_rfl) (by kernel_rfl) (fun _ _ _ h => h) (by kernel_rfl) hS0 ?hy19 ?_
        case hy19 => (intro W hW; have e0 := bcell hW d0; have e1 := bcell hW d1; clear hW; go_simp; try rfl)
        simp only [Act.put, List.setIfInBounds_toArray, List.set_cons_zero, List.set_cons_succ]
        refine takeInH 2 16 ?v20 rfl rfl (by kernel_rfl) (by kernel_rfl) (by kernel_rfl) (fun _ _ _ h => h) (by kernel_rfl) hS0 ?hy20 ?_
        case hy20 => (intro W hW; clear hW; go_simp; try rfl)
        simp only [Act.put, List.setIfInBounds_toArray, List.set_cons_zero, List.set_cons_succ]
        refine takeInH 3 17 ?v21 rfl rfl (by kernel_rfl) (by kernel_rfl) (by kernel_rfl) (fun _ _ _ h => h) (by kernel_rfl) hS0 ?hy21 ?_
        case hy21 => (intro W hW; clear hW; go_simp; try rfl)
        simp only [Act.put, List.setIfInBounds_toArray, List.set_cons_zero, List.set_cons_succ]
        refine takeInH 4 18 ?v22 rfl rfl (by kernel_rfl) (by kernel_rfl) (by kernel_rfl) (fun _ _ _ h => h) (by kernel_rfl) hS0 ?hy22 ?_
        case hy22 => (intro W hW; have e0 := bcell hW d0; have e1 := bcell hW d1; clear hW; go_simp; try rfl)
        simp only [Act.put, List.setIfInBounds_toArray, List.set_cons_zero, List.set_cons_succ]
        refine wpAnyH_ready (rs := [5]) (by kernel_rfl) (by simp) ?_
        refine AllReadyH.cons rfl (fun K hK => ?_) AllReadyH.nil
        go_simp
        refine (Get_any pa na ca c r _ (HP.out.below (bel_next HB2.out hS0))).mono ?_
        rintro e wq ⟨rfl, hb⟩
        refine hK.out _ _ ?hs23 (fun hS1 => ?_)
        case hs23 => exact bel_next hS0 hb
        clear hK K hb
        try simp only [Act.put, List.setIfInBounds_toArray, List.set_cons_zero, List.set_cons_succ]
        refine takeInH 6 20 ?v24 rfl rfl (by kernel_rfl) (by kernel_rfl) (by kernel_rfl) (fun _ _ _ h => h) (by kernel_rfl) hS1 ?hy24 ?_
        case hy24 => (intro W hW; clear hW; go_simp; try rfl)
        simp only [Act.put, List.setIfInBounds_toArray, List.set_cons_zero, List.set_cons_succ]
        refine wpAnyH_done (by kernel_rfl) ?_ _
        (try rw [decide_eq_false HKN.out])
        go_wp2
        go_roundw
        case rel => exact ⟨k + 1, by omega, by go_num, (show Hid _ by have := HO2.out.below hS1; rwa [← HF2.out] at this), (show Hid _ from bel_next HB2.out hS1)⟩
        case measure => simp [intOf]; omega
    · obtain rfl : k = n := by omega
      have HE : Hid (OwnD w.heap.size wr u5 (leftD l c)) := by have := HO.out; rwa [← HLEN.out, List.take_length] at this
      clear HO
      go_wp2
      go_ret
      exact ⟨_, rfl, HE.out, HB.out⟩
set_option maxHeartbeats 400000 in
theorem idf9_any (k : ByteArray) (pl : Option Addr) (nl cl : Nat) (pd : Option Addr) (nd cd : Nat) (w : World) : Calls Try.prog 59 #[.agg #[.string k, .slice pl nl cl, .slice pd nd cd]] w fun e w' => e = .returned (.agg #[.string k, .slice pl nl cl, .slice pd nd cd]) ∧ Below w.heap.size w w' := by
  go_enter Try.func59, Try.ntmps59
  go_wp2
  refine bodyPost_ret (v := .agg #[.string k, .slice pl nl cl, .slice pd nd cd]) (by simp [results, Try.results59, go_sem]) rfl ⟨rfl, ?_⟩
  exact (Below.refl _ _).alloc (Nat.le_refl _) _ |>.alloc (by simp) _
set_option maxHeartbeats 400000 in
theorem plf9_any (k : ByteArray) (pl : Option Addr) (nl cl : Nat) (pd : Option Addr) (nd cd : Nat) (w : World) : Calls Try.prog 43 #[.agg #[.string k, .slice pl nl cl, .slice pd nd cd]] w fun e w' => e = .returned (.agg #[.string k, .slice pl nl cl, .slice none 0 0]) ∧ Below w.heap.size w w' := by
  go_enter Try.func43, Try.ntmps43
  go_wp2
  refine bodyPost_ret (v := .agg #[.string k, .slice pl nl cl, .slice none 0 0]) (by simp [results, Try.results43, go_sem]) rfl ⟨rfl, ?_⟩
  exact (Below.refl _ _).alloc (Nat.le_refl _) _ |>.alloc (by simp) _
end Go.Proofs.Ytiodlpoeifmldaa
