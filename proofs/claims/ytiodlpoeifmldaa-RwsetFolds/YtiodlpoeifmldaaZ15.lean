/- What the program adds, drops, cleans, tells (layer 9). -/
import Derived.Test.YtiodlpoeifmldaaZ14
import Derived.Test.YtiodlpoeifmldaaA8
namespace Go.Proofs.Ytiodlpoeifmldaa
open Go.RowKit Go.Lib
set_option linter.unusedVariables false
theorem field9L (t : ByteArray) (p : Option Addr) (n c : Nat) (pd : Option Addr) (nd cd : Nat) (w : World) : (Instr.field 48 (.agg #[.string t, .slice p n c, .slice pd nd cd]) 1).run Try.prog w = .ok (.slice p n c) w := by kernel_rfl
theorem field9D (t : ByteArray) (p : Option Addr) (n c : Nat) (pd : Option Addr) (nd cd : Nat) (w : World) : (Instr.field 48 (.agg #[.string t, .slice p n c, .slice pd nd cd]) 2).run Try.prog w = .ok (.slice pd nd cd) w := by kernel_rfl
theorem DS.offE {w : World} {p : Option Addr} {n : Nat} {l : List Dot} (h : DS w p n l) {g : Nat} {k : ByteArray} {p1 : Option Addr} {n1 c1 : Nat} {p2 : Option Addr} {n2 c2 : Nat} {t : TypeId} (hx : BX w g #[.string k, .slice p1 n1 c1, .slice p2 n2 c2] t) (i : Nat) (v : Value) : DS (w.setCell ⟨g, i, none⟩ v) p n l := by
  refine h.set0 _ _ ?_
  rcases Nat.eq_zero_or_pos n with h0 | hp
  · exact .inl h0
  · refine .inr fun a ha => ?_
    rcases h.2.2 with h0 | ⟨b, off, hb, hc⟩
    · omega
    · rw [hb] at ha
      cases ha
      refine hx.ne (hc 0 hp).1 (fun i => ?_)
      rcases i with _ | _ | _ | i <;> simp
theorem done9_iff {s : List En} {t : ByteArray} {d : Dot} {c : List Int} : done9 s t d c = true ↔ mayS9 s = true ∧ mayK t = true ∧ mayD d = true ∧ mayC c = true := by
  simp [done9, and_assoc]
set_option maxHeartbeats 2000000 in
set_option maxRecDepth 2000 in
theorem Add9_bad (a : Option Addr) (n cap : Nat) (s : List En) (t : ByteArray) (r q : Int) (pa : Option Addr) (na ca : Nat) (c : List Int) (w : World) (hA : NSS w a n s) (hP : NS w pa na c) (hno : done9 s t (r, q) c = false) : Calls Try.prog 9 #[.slice a n cap, .string t, .agg #[.int .i64 r, .int .i64 q], .slice pa na ca] w fun e w' => e = .returned (.tuple #[.slice none 0 0, .int .i64 1]) ∧ Below w.heap.size w w' := by
  have HV := hide hA
  have HP := hide hP
  clear hA hP
  have BB := hide (bel1 w (.cells #[.int .i64 r, .int .i64 q] 24))
  have d0 := cell_new w #[.int .i64 r, .int .i64 q] 24 _ rfl 0 _ rfl
  have d1 := cell_new w #[.int .i64 r, .int .i64 q] 24 _ rfl 1 _ rfl
  have HD0 := hide hno
  clear hno
  go_enter Try.func9, Try.ntmps9
  go_wp2_with (go_at_call 32; refine (done9_any a n cap s t r q pa na ca c _ (HV.out.below BB.out) (HP.out.below BB.out)).mono ?_; rintro e w1 ⟨rfl, hb⟩; rw [HD0.out]; replace BB := hide (bel_next BB.out hb); replace d0 := bcell hb d0; replace d1 := bcell hb d1; clear hb)
  go_ret2
  exact ⟨rfl, BB.out⟩
set_option maxHeartbeats 2000000 in
set_option maxRecDepth 2000 in
theorem Drop9_bad (a : Option Addr) (n cap : Nat) (s : List En) (t : ByteArray) (r q : Int) (pa : Option Addr) (na ca : Nat) (c : List Int) (w : World) (hA : NSS w a n s) (hP : NS w pa na c) (hno : done9 s t (r, q) c = false) : Calls Try.prog 10 #[.slice a n cap, .string t, .agg #[.int .i64 r, .int .i64 q], .slice pa na ca] w fun e w' => e = .returned (.tuple #[.slice none 0 0, .int .i64 1]) ∧ Below w.heap.size w w' := by
  have HV := hide hA
  have HP := hide hP
  clear hA hP
  have BB := hide (bel1 w (.cells #[.int .i64 r, .int .i64 q] 24))
  have d0 := cell_new w #[.int .i64 r, .int .i64 q] 24 _ rfl 0 _ rfl
  have d1 := cell_new w #[.int .i64 r, .int .i64 q] 24 _ rfl 1 _ rfl
  have HD0 := hide hno
  clear hno
  go_enter Try.func10, Try.ntmps10
  go_wp2_with (go_at_call 32; refine (done9_any a n cap s t r q pa na ca c _ (HV.out.below BB.out) (HP.out.below BB.out)).mono ?_; rintro e w1 ⟨rfl, hb⟩; rw [HD0.out]; replace BB := hide (bel_next BB.out hb); replace d0 := bcell hb d0; replace d1 := bcell hb d1; clear hb)
  go_ret2
  exact ⟨rfl, BB.out⟩
set_option maxHeartbeats 4000000 in
set_option maxRecDepth 2000 in
theorem Add9_good (a : Option Addr) (n cap : Nat) (s : List En) (t : ByteArray) (r q : Int) (pa : Option Addr) (na ca : Nat) (c : List Int) (w : World) (hA : NSS w a n s) (hP : NS w pa na c) (hyes : done9 s t (r, q) c = true) (hd : ∀ x ∈ s, x.2.1.length ≤ 900000 ∧ x.2.2.length ≤ 900000) (hlt : n < 4000) : Calls Try.prog 9 #[.slice a n cap, .string t, .agg #[.int .i64 r, .int .i64 q], .slice pa na ca] w fun e w' => ∃ p cp, e = .returned (.tuple #[.slice p (addP s t (r, q) c).length cp, .int .i64 0]) ∧ NSS w' p (addP s t (r, q) c).length (addP s t (r, q) c) ∧ CP p (addP s t (r, q) c).length cp ∧ Below w.heap.size w w' := by
  have HV := hide hA
  have HP := hide hP
  clear hA hP
  have BB := hide (bel1 w (.cells #[.int .i64 r, .int .i64 q] 24))
  have d0 := cell_new w #[.int .i64 r, .int .i64 q] 24 _ rfl 0 _ rfl
  have d1 := cell_new w #[.int .i64 r, .int .i64 q] 24 _ rfl 1 _ rfl
  obtain ⟨h1, h2, h3, h4⟩ := done9_iff.1 hyes
  have HRT := hide (mayS9_iff.1 h1).2.1
  have HMS := hide h1
  have HDD := hide hd
  have hn4 : n ≤ 4000 := by omega
  have HFG := hide (few9_get hd t)
  have HRW := hide (rows9_get h1 t)
  have HD0 := hide hyes
  clear h1 h2 h3 h4 hyes hd
  have HPS := hide (putP_same HRT.out (fun x hx => (mayN9_iff.1 ((mayS9_iff.1 HMS.out).1 x hx)).2.1) t)
  go_enter Try.func9, Try.ntmps9
  go_upto_region 4 with (first | (go_at_call 32; refine (done9_any a n cap s t r q pa na ca c _ (HV.out.below BB.out) (HP.out.below BB.out)).mono ?_; rintro e w1 ⟨rfl, hb⟩; rw [HD0.out]; replace BB := hide (bel_next BB.out hb); replace d0 := bcell hb d0; replace d1 := bcell hb d1; clear hb) | (go_at_call 33; refine (find9_any a n cap s t _ (HV.out.below BB.out) HRT.out hn4 HDD.out).mono ?_; rintro e w2 ⟨v2, rfl, ⟨p1, n1, c1, pd, nd, cd, rfl, hl, hlc, hm, hmc⟩, hb⟩; have HL := hide hl; have HLC := hide hlc; have HM := hide hm; have HMC := hide hmc; replace BB := hide (bel_next BB.out hb); replace d0 := bcell hb d0; replace d1 := bcell hb d1; clear hb hl hlc hm hmc))
  have hn1 : n1 ≤ 900000 := by rw [← HL.out.1]; exact HFG.out.1
  have hnd : nd ≤ 900000 := by rw [← HM.out.1]; exact HFG.out.2
  have HGE := hide BB.out.size
  have BA := hide (bel1 w2 (.cells #[.string t, .slice p1 n1 c1, .slice pd nd cd] 48))
  have XE := hide (BX.new w2 _ rfl #[.string t, .slice p1 n1 c1, .slice pd nd cd] 48)
  replace HL := hide (HL.out.below BA.out)
  replace HM := hide (HM.out.below BA.out)
  replace BB := hide (bel_next BB.out BA.out)
  replace d0 := bcell BA.out d0
  replace d1 := bcell BA.out d1
  clear BA
  generalize hgb : w2.heap.size = g at *
  generalize w2.alloc (.cells #[.string t, .slice p1 n1 c1, .slice pd nd cd] 48) = u at *
  clear hgb
  have e1 := XE.out.cell 1 _ rfl
  have e2 := XE.out.cell 2 _ rfl
  have e0 := XE.out.cell 0 _ rfl
  have HUN := hide (unk9_any pd nd cd (getP s t).2 pa na ca c u HM.out (HP.out.below BB.out) hnd)
  rcases Nat.eq_zero_or_pos (leftD (getP s t).2 c).length with hz | hz
  · have H0 := hide hz
    have HA9 : Hid (addP s t (r, q) c = putP s t ((putD (leftD (getP s t).1 c) (r, q)), (getP s t).2)) := by unfold Hid addP; rw [if_pos (List.eq_nil_of_length_eq_zero hz)]
    clear hz
    go_upto_region 5 with (go_at_call 34; refine HUN.out.mono ?_; rintro e w3 ⟨v3, rfl, ho3, hb⟩; obtain ⟨p3, r3, rfl, _, _⟩ := ho3.open; rw [H0.out]; have X3 := hide (XE.out.below hb); replace HL := hide (HL.out.below hb); replace HM := hide (HM.out.below hb); replace BB := hide (bel_next BB.out hb); replace d0 := bcell hb d0; replace d1 := bcell hb d1; replace XE := X3; clear hb X3)
    replace e1 := XE.out.cell 1 _ rfl
    replace e2 := XE.out.cell 2 _ rfl
    replace e0 := XE.out.cell 0 _ rfl
    clear ho3 HUN
    go_upto_region 6 with (go_at_call 35; refine (ren9_any p1 n1 c1 (getP s t).1 pa na ca c r q _ HL.out (rowsB_iff.1 HRW.out.1).2 (HP.out.below BB.out) hn1).mono ?_; rintro e w4 ⟨p5, c5, rfl, hd5, hc5, hb⟩; have D5 := hide hd5; have C5 := hide hc5; have X3 := hide (XE.out.below hb); replace HL := hide (HL.out.below hb); replace HM := hide (HM.out.below hb); replace BB := hide (bel_next BB.out hb); replace d0 := bcell hb d0; replace d1 := bcell hb d1; replace XE := X3; clear hb X3; clear hd5 hc5; replace e1 := XE.out.cell 1 _ rfl; have f1 := XE.out.free 1)
    obtain ⟨y1, y2⟩ := set1 XE.out BB.out HGE.out 1 (.slice p5 (putD (leftD (getP s t).1 c) (r, q)).length c5)
    have Y1 : Hid (BX (w4.setCell ⟨g, 1, none⟩ (.slice p5 (putD (leftD (getP s t).1 c) (r, q)).length c5)) g #[.string t, .slice p5 (putD (leftD (getP s t).1 c) (r, q)).length c5, .slice pd nd cd] 48) := y1
    replace D5 := hide (D5.out.offE XE.out 1 (.slice p5 (putD (leftD (getP s t).1 c) (r, q)).length c5))
    replace HM := hide (HM.out.offE XE.out 1 (.slice p5 (putD (leftD (getP s t).1 c) (r, q)).length c5))
    replace BB := hide y2
    clear y1 y2 XE e0 e1 e2 f1 d0 d1 HL
    have HNE : Hid ((((putD (leftD (getP s t).1 c) (r, q)), (getP s t).2) : Pr) ≠ ([], [])) := fun q => putD_ne _ _ (Prod.mk.inj q).1
    generalize w4.setCell ⟨g, 1, none⟩ (.slice p5 (putD (leftD (getP s t).1 c) (r, q)).length c5) = w5 at *
    have e0 := Y1.out.cell 0 _ rfl
    have e1 := Y1.out.cell 1 _ rfl
    have e2 := Y1.out.cell 2 _ rfl
    go_wp2_with (go_at_call 36; refine (with9_any a n cap s t p5 _ c5 (putD (leftD (getP s t).1 c) (r, q)) pd nd cd (getP s t).2 _ (HV.out.below BB.out) HMS.out D5.out C5.out HM.out HMC.out HNE.out HDD.out hlt).mono ?_; rintro e w6 ⟨p6, c6, rfl, hn6, hc6, hb⟩)
    have HN6 := hide hn6
    have HC6 := hide hc6
    replace BB := hide (bel_next BB.out hb)
    clear hn6 hc6 hb
    go_ret2
    exact ⟨p6, c6, by rw [HA9.out]; rfl, by rw [HA9.out]; exact HN6.out, by rw [HA9.out]; exact HC6.out, BB.out⟩
  · have hz1 : ¬ (((leftD (getP s t).2 c).length : Int) = 0) := by omega
    have HA9 : Hid (addP s t (r, q) c = putP s t ((getP s t).1, (getP s t).2)) := by
      unfold Hid addP
      rw [if_neg (fun h => by rw [h] at hz; simp at hz)]
      exact HPS.out.symm
    have HNE : Hid ((((getP s t).1, (getP s t).2) : Pr) ≠ ([], [])) := fun q => by
      have := (Prod.mk.inj q).2
      rw [this] at hz
      simp [leftD] at hz
    clear hz
    go_upto_region 6 with (go_at_call 34; refine HUN.out.mono ?_; rintro e w3 ⟨v3, rfl, ho3, hb⟩; obtain ⟨p3, r3, rfl, _, _⟩ := ho3.open; have X3 := hide (XE.out.below hb); replace HL := hide (HL.out.below hb); replace HM := hide (HM.out.below hb); replace BB := hide (bel_next BB.out hb); replace d0 := bcell hb d0; replace d1 := bcell hb d1; replace XE := X3; clear hb X3)
    replace e1 := XE.out.cell 1 _ rfl
    replace e2 := XE.out.cell 2 _ rfl
    replace e0 := XE.out.cell 0 _ rfl
    clear ho3 HUN
    go_wp2_with (go_at_call 36; refine (with9_any a n cap s t p1 n1 c1 (getP s t).1 pd nd cd (getP s t).2 _ (HV.out.below BB.out) HMS.out HL.out HLC.out HM.out HMC.out HNE.out HDD.out hlt).mono ?_; rintro e w6 ⟨p6, c6, rfl, hn6, hc6, hb⟩)
    have HN6 := hide hn6
    have HC6 := hide hc6
    replace BB := hide (bel_next BB.out hb)
    clear hn6 hc6 hb
    go_ret2
    exact ⟨p6, c6, by rw [HA9.out]; rfl, by rw [HA9.out]; exact HN6.out, by rw [HA9.out]; exact HC6.out, BB.out⟩
set_option maxHeartbeats 4000000 in
set_option maxRecDepth 2000 in
theorem Drop9_good (a : Option Addr) (n cap : Nat) (s : List En) (t : ByteArray) (r q : Int) (pa : Option Addr) (na ca : Nat) (c : List Int) (w : World) (hA : NSS w a n s) (hP : NS w pa na c) (hyes : done9 s t (r, q) c = true) (hd : ∀ x ∈ s, x.2.1.length ≤ 900000 ∧ x.2.2.length ≤ 900000) (hlt : n < 4000) : Calls Try.prog 10 #[.slice a n cap, .string t, .agg #[.int .i64 r, .int .i64 q], .slice pa na ca] w fun e w' => ∃ p cp, e = .returned (.tuple #[.slice p (dropP s t (r, q) c).length cp, .int .i64 0]) ∧ NSS w' p (dropP s t (r, q) c).length (dropP s t (r, q) c) ∧ CP p (dropP s t (r, q) c).length cp ∧ Below w.heap.size w w' := by
  have HV := hide hA
  have HP := hide hP
  clear hA hP
  have BB := hide (bel1 w (.cells #[.int .i64 r, .int .i64 q] 24))
  have d0 := cell_new w #[.int .i64 r, .int .i64 q] 24 _ rfl 0 _ rfl
  have d1 := cell_new w #[.int .i64 r, .int .i64 q] 24 _ rfl 1 _ rfl
  obtain ⟨h1, h2, h3, h4⟩ := done9_iff.1 hyes
  have HRT := hide (mayS9_iff.1 h1).2.1
  have HMS := hide h1
  have HDD := hide hd
  have hn4 : n ≤ 4000 := by omega
  have HFG := hide (few9_get hd t)
  have HRW := hide (rows9_get h1 t)
  have HD0 := hide hyes
  clear h1 h2 h3 h4 hyes hd
  have HNE : Hid ((([], (putD (leftD (getP s t).2 c) (r, q))) : Pr) ≠ ([], [])) := fun q => putD_ne _ _ (Prod.mk.inj q).2
  have hfd := field9D
  unfold dropP
  go_enter Try.func10, Try.ntmps10
  go_upto_region 3 with (go_at_call 32; refine (done9_any a n cap s t r q pa na ca c _ (HV.out.below BB.out) (HP.out.below BB.out)).mono ?_; rintro e u ⟨rfl, hb⟩; rw [HD0.out]; replace BB := hide (bel_next BB.out hb); replace d0 := bcell hb d0; replace d1 := bcell hb d1; clear hb)
  refine wp_region_held_drew (S := fun W => Below u.heap.size u W) (by kernel_rfl) ((Below.refl _ u).drew) (fun hS0 => ?_)
  refine takeInH 0 16 ?v1 rfl rfl (by kernel_rfl) (by kernel_rfl) (by kernel_rfl) (fun _ _ _ h => h) (by kernel_rfl) hS0 ?hy1 ?_
  case hy1 => (intro W hW; clear hW; go_simp; try rfl)
  simp only [Act.put, List.setIfInBounds_toArray, List.set_cons_zero, List.set_cons_succ]
  refine takeInH 1 17 ?v2 rfl rfl (by kernel_rfl) (by kernel_rfl) (by kernel_rfl) (fun _ _ _ h => h) (by kernel_rfl) hS0 ?hy2 ?_
  case hy2 => (intro W hW; clear hW; go_simp; try rfl)
  simp only [Act.put, List.setIfInBounds_toArray, List.set_cons_zero, List.set_cons_succ]
  refine takeInH 2 18 ?v3 rfl rfl (by kernel_rfl) (by kernel_rfl) (by kernel_rfl) (fun _ _ _ h => h) (by kernel_rfl) hS0 ?hy3 ?_
  case hy3 => (intro W hW; clear hW; go_simp; try rfl)
  simp only [Act.put, List.setIfInBounds_toArray, List.set_cons_zero, List.set_cons_succ]
  refine takeInH 3 19 ?v4 rfl rfl (by kernel_rfl) (by kernel_rfl) (by kernel_rfl) (fun _ _ _ h => h) (by kernel_rfl) hS0 ?hy4 ?_
  case hy4 => (intro W hW; clear hW; go_simp; try rfl)
  simp only [Act.put, List.setIfInBounds_toArray, List.set_cons_zero, List.set_cons_succ]
  refine takeInH 6 22 ?v5 rfl rfl (by kernel_rfl) (by kernel_rfl) (by kernel_rfl) (fun _ _ _ h => h) (by kernel_rfl) hS0 ?hy5 ?_
  case hy5 => (intro W hW; clear hW; go_simp; try rfl)
  simp only [Act.put, List.setIfInBounds_toArray, List.set_cons_zero, List.set_cons_succ]
  refine takeInH 7 23 ?v6 rfl rfl (by kernel_rfl) (by kernel_rfl) (by kernel_rfl) (fun _ _ _ h => h) (by kernel_rfl) hS0 ?hy6 ?_
  case hy6 => (intro W hW; have e0 := bcell hW d0; have e1 := bcell hW d1; clear hW; go_simp; try rfl)
  simp only [Act.put, List.setIfInBounds_toArray, List.set_cons_zero, List.set_cons_succ]
  refine wpAnyH_ready (rs := [4]) (by kernel_rfl) (by simp) ?_
  refine AllReadyH.cons rfl (fun K hK => ?_) AllReadyH.nil
  go_simp
  refine (find9_any a n cap s t _ (HV.out.below (bel_next BB.out hS0)) HRT.out hn4 HDD.out).mono ?_
  rintro e w2 ⟨v2, rfl, ⟨p1, n1, c1, pd, nd, cd, rfl, hl, hlc, hm, hmc⟩, hb⟩
  have HM := hide hm
  have hnd : nd ≤ 900000 := by rw [← hm.1]; exact HFG.out.2
  clear hl hlc hm hmc
  refine hK.out _ _ ?hs7 (fun hS1 => ?_)
  case hs7 => exact bel_next hS0 hb
  clear hK K hb
  try simp only [Act.put, List.setIfInBounds_toArray, List.set_cons_zero, List.set_cons_succ]
  refine takeInH 5 21 ?v8 rfl rfl (by kernel_rfl) (by kernel_rfl) (by kernel_rfl) (fun _ _ _ h => h) (by kernel_rfl) hS1 ?hy8 ?_
  case hy8 => (intro W hW; clear hW; go_simp; try rfl)
  simp only [Act.put, List.setIfInBounds_toArray, List.set_cons_zero, List.set_cons_succ]
  refine wpAnyH_ready (rs := [8]) (by kernel_rfl) (by simp) ?_
  refine AllReadyH.cons rfl (fun K hK => ?_) AllReadyH.nil
  go_simp
  refine (ren9_any pd nd cd (getP s t).2 pa na ca c r q _ HM.out (rowsB_iff.1 HRW.out.2).2 (HP.out.below (bel_next BB.out hS1)) hnd).mono ?_
  rintro e w4 ⟨p5, c5, rfl, hd5, hc5, hb⟩
  have D5 := hide hd5
  have C5 := hide hc5
  clear hd5 hc5
  refine hK.out _ _ ?hs9 (fun hS2 => ?_)
  case hs9 => exact bel_next hS1 hb
  clear hK K hb
  try simp only [Act.put, List.setIfInBounds_toArray, List.set_cons_zero, List.set_cons_succ]
  refine takeInH 9 25 ?v10 rfl rfl (by kernel_rfl) (by kernel_rfl) (by kernel_rfl) (fun _ _ _ h => h) (by kernel_rfl) hS2 ?hy10 ?_
  case hy10 => (intro W hW; clear hW; go_simp; try rfl)
  simp only [Act.put, List.setIfInBounds_toArray, List.set_cons_zero, List.set_cons_succ]
  refine wpAnyH_ready (rs := [10]) (by kernel_rfl) (by simp) ?_
  refine AllReadyH.cons rfl (fun K hK => ?_) AllReadyH.nil
  go_simp
  refine (with9_any a n cap s t none 0 0 [] p5 _ c5 (putD (leftD (getP s t).2 c) (r, q)) _ (HV.out.below (bel_next BB.out hS2)) HMS.out (DS.nil _ _) ⟨Nat.le_refl _, by decide, fun _ => rfl⟩ D5.out C5.out HNE.out HDD.out hlt).mono ?_
  rintro e w6 ⟨p6, c6, rfl, hn6, hc6, hb⟩
  have HN6 := hide hn6
  have HC6 := hide hc6
  clear hn6 hc6
  refine hK.out _ _ ?hs11 (fun hS3 => ?_)
  case hs11 => exact bel_next hS2 hb
  clear hK K hb
  try simp only [Act.put, List.setIfInBounds_toArray, List.set_cons_zero, List.set_cons_succ]
  refine takeInH 11 27 ?v12 rfl rfl (by kernel_rfl) (by kernel_rfl) (by kernel_rfl) (fun _ _ _ h => h) (by kernel_rfl) hS3 ?hy12 ?_
  case hy12 => (intro W hW; clear hW; go_simp; try rfl)
  simp only [Act.put, List.setIfInBounds_toArray, List.set_cons_zero, List.set_cons_succ]
  refine takeInH 12 28 ?v13 rfl rfl (by kernel_rfl) (by kernel_rfl) (by kernel_rfl) (fun _ _ _ h => h) (by kernel_rfl) hS3 ?hy13 ?_
  case hy13 => (intro W hW; clear hW; go_simp; try rfl)
  simp only [Act.put, List.setIfInBounds_toArray, List.set_cons_zero, List.set_cons_succ]
  refine takeInH 13 8 ?v14 rfl rfl (by kernel_rfl) (by kernel_rfl) (by kernel_rfl) (fun _ _ _ h => h) (by kernel_rfl) hS3 ?hy14 ?_
  case hy14 => (intro W hW; clear hW; go_simp; try rfl)
  simp only [Act.put, List.setIfInBounds_toArray, List.set_cons_zero, List.set_cons_succ]
  refine takeInH 14 9 ?v15 rfl rfl (by kernel_rfl) (by kernel_rfl) (by kernel_rfl) (fun _ _ _ h => h) (by kernel_rfl) hS3 ?hy15 ?_
  case hy15 => (intro W hW; clear hW; go_simp; try rfl)
  simp only [Act.put, List.setIfInBounds_toArray, List.set_cons_zero, List.set_cons_succ]
  refine wpAnyH_done (by kernel_rfl) ?_ _
  go_wp2
  go_ret2
  exact ⟨p6, c6, rfl, HN6.out, HC6.out, bel_next BB.out hS3⟩
set_option maxHeartbeats 2000000 in
set_option maxRecDepth 2000 in
theorem Clean9_bad (a : Option Addr) (n cap : Nat) (s : List En) (pa : Option Addr) (na ca : Nat) (c : List Int) (w : World) (hA : NSS w a n s) (hP : NS w pa na c) (hno : (mayS9 s && mayC c) = false) : Calls Try.prog 21 #[.slice a n cap, .slice pa na ca] w fun e w' => e = .returned (.tuple #[.slice none 0 0, .int .i64 1]) ∧ Below w.heap.size w w' := by
  have HV := hide hA
  have HP := hide hP
  clear hA hP
  have BB := hide (bel1 w (.cells #[.slice pa na ca] 26))
  have d0 := cell_new w #[.slice pa na ca] 26 _ rfl 0 _ rfl
  rcases hx : mayS9 s with _ | _
  · have HC1 := hide (chk9_no hx)
    clear hx
    go_enter Try.func21, Try.ntmps21
    go_wp2_with (go_at_call 11; refine (chk9_any a n cap s _ (HV.out.below BB.out)).mono ?_; rintro e w1 ⟨rfl, hb⟩; rw [HC1.out]; replace BB := hide (bel_next BB.out hb); replace d0 := bcell hb d0; clear hb)
    go_ret2
    exact ⟨rfl, BB.out⟩
  · have HC1 := hide (chk9_yes hx)
    rw [hx, Bool.true_and] at hno
    have HQ1 : Hid (chk c = 1) := by unfold Hid chk; rw [hno]; rfl
    clear hx hno
    go_enter Try.func21, Try.ntmps21
    go_wp2_with (first | (go_at_call 11; refine (chk9_any a n cap s _ (HV.out.below BB.out)).mono ?_; rintro e w1 ⟨rfl, hb⟩; rw [HC1.out]; replace BB := hide (bel_next BB.out hb); replace d0 := bcell hb d0; clear hb) | (go_at_call 44; refine (check_any pa na ca c _ (HP.out.below BB.out)).mono ?_; rintro e w9 ⟨rfl, rfl⟩; rw [show chk c = _ from HQ1.out]))
    go_ret2
    exact ⟨rfl, BB.out⟩
set_option maxHeartbeats 2000000 in
set_option maxRecDepth 2000 in
theorem Clean9_good (a : Option Addr) (n cap : Nat) (s : List En) (pa : Option Addr) (na ca : Nat) (c : List Int) (w : World) (hA : NSS w a n s) (hP : NS w pa na c) (h1 : mayS9 s = true) (h2 : mayC c = true) (hd : ∀ x ∈ s, x.2.1.length ≤ 900000 ∧ x.2.2.length ≤ 900000) : Calls Try.prog 21 #[.slice a n cap, .slice pa na ca] w fun e w' => ∃ p cp, e = .returned (.tuple #[.slice p (mapP (cleanF c) s).length cp, .int .i64 0]) ∧ NSS w' p (mapP (cleanF c) s).length (mapP (cleanF c) s) ∧ CP p (mapP (cleanF c) s).length cp ∧ Below w.heap.size w w' := by
  have hn4 : n ≤ 4000 := by rw [← hA.len]; exact (mayS9_iff.1 h1).2.2
  have HV := hide hA
  have HP := hide hP
  clear hA hP
  have BB := hide (bel1 w (.cells #[.slice pa na ca] 26))
  have d0 := cell_new w #[.slice pa na ca] 26 _ rfl 0 _ rfl
  have HC1 := hide (chk9_yes h1)
  have HQ1 : Hid (chk c = 0) := by unfold Hid chk; rw [h2]; rfl
  have HDD := hide hd
  clear h1 h2 hd
  go_enter Try.func21, Try.ntmps21
  go_wp2_with (first | (go_at_call 11; refine (chk9_any a n cap s _ (HV.out.below BB.out)).mono ?_; rintro e w1 ⟨rfl, hb⟩; rw [HC1.out]; replace BB := hide (bel_next BB.out hb); replace d0 := bcell hb d0; clear hb) | (go_at_call 44; refine (check_any pa na ca c _ (HP.out.below BB.out)).mono ?_; rintro e w9 ⟨rfl, rfl⟩; rw [show chk c = _ from HQ1.out]) | (go_at_call 42; refine (eachC9_any a n cap s w.heap.size pa na ca c _ (HV.out.below BB.out) hn4 HDD.out d0 (HP.out.below BB.out)).mono ?_; rintro e w3 ⟨v3, rfl, ho3, hb⟩; obtain ⟨p3, c3, rfl, hn3, hc3⟩ := ho3.open; have HN3 := hide hn3; have HC3 := hide hc3; replace BB := hide (bel_next BB.out hb); clear hb ho3 hn3 hc3))
  go_ret2
  exact ⟨p3, c3, rfl, HN3.out, HC3.out, BB.out⟩
set_option maxHeartbeats 2000000 in
set_option maxRecDepth 2000 in
theorem Has9_any (a : Option Addr) (n cap : Nat) (s : List En) (t : ByteArray) (w : World) (hA : NSS w a n s) (hd : ∀ x ∈ s, x.2.1.length ≤ 900000 ∧ x.2.2.length ≤ 900000) : Calls Try.prog 22 #[.slice a n cap, .string t] w fun e w' => e = .returned (.bool (mayS9 s && decide ((getP s t).1 ≠ []))) ∧ Below w.heap.size w w' := by
  have HV := hide hA
  have HLEN := hide hA.len
  have HDD := hide hd
  clear hA hd
  have BB : Hid (Below w.heap.size w w) := Below.refl _ _
  rcases hx : mayS9 s with _ | _
  · have HC1 := hide (chk9_no hx)
    clear hx
    go_enter Try.func22, Try.ntmps22
    go_wp2_with (go_at_call 11; refine (chk9_any a n cap s _ (HV.out.below BB.out)).mono ?_; rintro e w1 ⟨rfl, hb⟩; rw [HC1.out]; replace BB := hide (bel_next BB.out hb); clear hb)
    go_ret
    exact ⟨rfl, BB.out⟩
  · have HC1 := hide (chk9_yes hx)
    have HRT := hide (mayS9_iff.1 hx).2.1
    have hn4 : n ≤ 4000 := by rw [← HLEN.out]; exact (mayS9_iff.1 hx).2.2
    clear hx
    have hfd := field9L
    go_enter Try.func22, Try.ntmps22
    go_wp2_with (first | (go_at_call 11; refine (chk9_any a n cap s _ (HV.out.below BB.out)).mono ?_; rintro e w1 ⟨rfl, hb⟩; rw [HC1.out]; replace BB := hide (bel_next BB.out hb); clear hb) | (go_at_call 33; refine (find9_any a n cap s t _ (HV.out.below BB.out) HRT.out hn4 HDD.out).mono ?_; rintro e w2 ⟨v2, rfl, ⟨p1, n1, c1, pd, nd, cd, rfl, hl, hlc, hm, hmc⟩, hb⟩; have HL := hide hl.1; replace BB := hide (bel_next BB.out hb); clear hb hl hlc hm hmc))
    go_ret
    refine ⟨?_, BB.out⟩
    have hl := HL.out
    rcases hg : (getP s t).1 with _ | ⟨x, l⟩
    · rw [hg] at hl; simp at hl; subst hl; rfl
    · rw [hg] at hl; simp at hl; subst hl; simp
/-- A set without drops, or nothing. -/
def pl9 (s : List En) : List En := if mayS9 s = true then mapP plainF s else []
set_option maxHeartbeats 2000000 in
set_option maxRecDepth 2000 in
theorem Plain9_any (a : Option Addr) (n cap : Nat) (s : List En) (w : World) (hA : NSS w a n s) (hd : ∀ x ∈ s, x.2.1.length ≤ 900000 ∧ x.2.2.length ≤ 900000) : Calls Try.prog 20 #[.slice a n cap] w fun e w' => ∃ p cp, e = .returned (.slice p (pl9 s).length cp) ∧ NSS w' p (pl9 s).length (pl9 s) ∧ CP p (pl9 s).length cp ∧ Below w.heap.size w w' := by
  have HV := hide hA
  have HLEN := hide hA.len
  have HDD := hide hd
  clear hA hd
  have BB : Hid (Below w.heap.size w w) := Below.refl _ _
  rcases hx : mayS9 s with _ | _
  · have HC1 := hide (chk9_no hx)
    have HE : Hid (pl9 s = []) := by unfold Hid pl9; rw [hx]; rfl
    clear hx
    rw [HE.out]
    go_enter Try.func20, Try.ntmps20
    go_wp2_with (go_at_call 11; refine (chk9_any a n cap s _ (HV.out.below BB.out)).mono ?_; rintro e w1 ⟨rfl, hb⟩; rw [HC1.out]; replace BB := hide (bel_next BB.out hb); clear hb)
    go_ret
    exact ⟨none, 0, rfl, NSS.nil _ _, ⟨Nat.le_refl _, by decide, fun _ => rfl⟩, BB.out⟩
  · have HC1 := hide (chk9_yes hx)
    have HE : Hid (pl9 s = mapP plainF s) := by unfold Hid pl9; rw [if_pos hx]
    have hn4 : n ≤ 4000 := by rw [← HLEN.out]; exact (mayS9_iff.1 hx).2.2
    clear hx
    rw [HE.out]
    go_enter Try.func20, Try.ntmps20
    go_wp2_with (first | (go_at_call 11; refine (chk9_any a n cap s _ (HV.out.below BB.out)).mono ?_; rintro e w1 ⟨rfl, hb⟩; rw [HC1.out]; replace BB := hide (bel_next BB.out hb); clear hb) | (go_at_call 42; refine (eachP9_any a n cap s _ (HV.out.below BB.out) hn4 HDD.out).mono ?_; rintro e w3 ⟨v3, rfl, ho3, hb⟩; obtain ⟨p3, c3, rfl, hn3, hc3⟩ := ho3.open; have HN3 := hide hn3; have HC3 := hide hc3; replace BB := hide (bel_next BB.out hb); clear hb ho3 hn3 hc3))
    go_ret
    exact ⟨p3, c3, rfl, HN3.out, HC3.out, BB.out⟩
set_option maxHeartbeats 2000000 in
set_option maxRecDepth 2000 in
theorem Keys9_any (a : Option Addr) (n cap : Nat) (s : List En) (w : World) (hA : NSS w a n s) (hd : ∀ x ∈ s, x.2.1.length ≤ 900000 ∧ x.2.2.length ≤ 900000) (hn4 : n ≤ 4000) : Calls Try.prog 19 #[.slice a n cap] w fun e w' => ∃ p cp, e = .returned (.slice p (pl9 s).length cp) ∧ RS encS 1 w' p (pl9 s).length ((pl9 s).map (·.1)) ∧ CP p (pl9 s).length cp ∧ Below w.heap.size w w' := by
  have HPL := hide (Plain9_any a n cap s w hA hd)
  have HLE : Hid ((pl9 s).length ≤ 4000) := by
    unfold Hid pl9
    split
    · have := mapP_len plainF s; rw [hA.len] at this; omega
    · simp
  clear hA hd
  generalize pl9 s = P at *
  generalize hm : P.length = m at *
  have HLEN := hide hm
  have hm4 := HLE.out
  clear hm HLE
  go_enter Try.func19, Try.ntmps19
  go_wp2_with (go_at_call 20; refine HPL.out.mono ?_; rintro e w1 ⟨p1, c1, rfl, hn1, hc1, hb⟩)
  have HV := hide hn1
  have HB0 := hide hb
  clear hb hn1 hc1 HPL
  go_loopw [3, 9] (fun V i wr => ∃ k : Nat, k ≤ m ∧ i = .int .i64 k ∧ Hid (OwnR encS 1 9 w1.heap.size wr V ((P.take k).map (·.1))) ∧ Hid (Below w1.heap.size w1 wr)) (fun _ i _ => m - (intOf i).toNat)
  case atStart => exact ⟨0, by omega, rfl, OwnR.nil _ _, Below.refl _ _⟩
  case round =>
    obtain ⟨k0, hk, rfl, HO, HB⟩ := hrel
    by_cases hlt : k0 < m
    · obtain ⟨b, off, rfl⟩ := HV.out.addr (by omega)
      obtain ⟨k, pl, nl, cl, pd, nd, cd, ll, mm, hx, c0, e1, c2, _, _, _, _⟩ := (HV.out.below HB.out).at k0 hlt
      have HX := hide hx
      have hk0 : (0 : Int) ≤ (k0 : Int) := by omega
      have hk1 : (k0 : Int) < (m : Int) := by omega
      clear hx
      go_wp2_with (at_builtin; refine Stop.at ?_)
      unfold Stop
      have HB2 := hide (bel2 wr (.cells #[.string k, .slice pl nl cl, .slice pd nd cd] 48) (.cells #[.string k] 9))
      have HB3 := hide (bel_next HB.out HB2.out)
      refine append_rows rfl _ _ 41 rfl Try.underlying41 Try.infoStr rfl (by decide) (by decide) encS_len encS_one w1.heap.size u3 ((P.take k0).map (·.1)) [k] rfl (HO.out.below HB2.out) (some ⟨wr.heap.size + 1, 0, none⟩) 1 1 rfl (fun h => by cases h) (RS.new encS_len _ _ (by simp) [k] _ (by simp [encS]) _ _ 1 rfl (by decide)) (by simp; omega) HB3.out.size ?_
      intro v3 w3 ho3 hgr3 hbel3
      have HO3 : Hid (OwnR encS 1 9 w1.heap.size w3 v3 ((P.take (k0 + 1)).map (·.1))) := by
        unfold Hid
        rw [take_snocL HX.out, List.map_append]
        exact ho3
      have HB4 : Hid (Below w1.heap.size w1 w3) := hbel3 _ HB3.out
      clear ho3 hbel3 hgr3 HB2 HB3 HO HB
      go_wp2
      go_roundw
      case rel => exact ⟨k0 + 1, by omega, by go_num, HO3, HB4⟩
      case measure => simp [intOf]; omega
    · obtain rfl : k0 = m := by omega
      have HE : Hid (OwnR encS 1 9 w1.heap.size wr u3 (P.map (·.1))) := by have := HO.out; rwa [← HLEN.out, List.take_length] at this
      obtain ⟨p, c, rfl, h1, h2⟩ := HE.out.open encS_len
      rw [List.length_map, HLEN.out] at h1 h2 ⊢
      have H1 := hide h1
      have H2 := hide h2
      clear HO HE h1 h2
      go_wp2
      go_ret
      exact ⟨p, c, rfl, H1.out, H2.out, bel_next HB0.out HB.out⟩
end Go.Proofs.Ytiodlpoeifmldaa
