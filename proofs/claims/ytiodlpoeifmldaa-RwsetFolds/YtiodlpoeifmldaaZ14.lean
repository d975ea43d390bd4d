/- The program's mayBeDone, renewed, with (layer 9). -/
import Derived.Test.YtiodlpoeifmldaaZ13
namespace Go.Proofs.Ytiodlpoeifmldaa
open Go.RowKit Go.Lib
set_option linter.unusedVariables false
/-- May all be that an event is done by? -/
def done9 (s : List En) (t : ByteArray) (d : Dot) (c : List Int) : Bool := mayS9 s && mayK t && mayD d && mayC c
set_option maxHeartbeats 2000000 in
theorem done9_any (a : Option Addr) (n cap : Nat) (s : List En) (t : ByteArray) (r q : Int) (pa : Option Addr) (na ca : Nat) (c : List Int) (w : World) (hA : NSS w a n s) (hP : NS w pa na c) : Calls Try.prog 32 #[.slice a n cap, .string t, .agg #[.int .i64 r, .int .i64 q], .slice pa na ca] w fun e w' => e = .returned (.bool (done9 s t (r, q) c)) ∧ Below w.heap.size w w' := by
  have HV := hide hA
  have HP := hide hP
  clear hA hP
  have BB := hide (bel1 w (.cells #[.int .i64 r, .int .i64 q] 24))
  have d0 := cell_new w #[.int .i64 r, .int .i64 q] 24 _ rfl 0 _ rfl
  have d1 := cell_new w #[.int .i64 r, .int .i64 q] 24 _ rfl 1 _ rfl
  unfold done9
  rcases hx : mayS9 s with _ | _
  · have HC1 := hide (chk9_no hx)
    clear hx
    go_enter Try.func32, Try.ntmps32
    go_wp2_with (first | (go_at_call 11; refine (chk9_any a n cap s _ (HV.out.below BB.out)).mono ?_; rintro e w1 ⟨rfl, hb⟩; rw [HC1.out]; replace BB := hide (bel_next BB.out hb); replace d0 := bcell hb d0; replace d1 := bcell hb d1; clear hb))
    go_ret
    exact ⟨by simp, BB.out⟩
  · have HC1 := hide (chk9_yes hx)
    clear hx
    rcases hx : mayK t with _ | _
    · have HK1 := hide hx
      clear hx
      go_enter Try.func32, Try.ntmps32
      go_wp2_with (first | (go_at_call 11; refine (chk9_any a n cap s _ (HV.out.below BB.out)).mono ?_; rintro e w1 ⟨rfl, hb⟩; rw [HC1.out]; replace BB := hide (bel_next BB.out hb); replace d0 := bcell hb d0; replace d1 := bcell hb d1; clear hb) | (go_at_call 53; refine (key9_any t _).mono ?_; rintro e w1 ⟨rfl, hb⟩; rw [HK1.out]; replace BB := hide (bel_next BB.out hb); replace d0 := bcell hb d0; replace d1 := bcell hb d1; clear hb))
      go_ret
      exact ⟨by simp, BB.out⟩
    · have HK1 := hide hx
      clear hx
      rcases hx : mayD (r, q) with _ | _
      · have HM1 := hide hx
        clear hx
        go_enter Try.func32, Try.ntmps32
        go_wp2_with (first | (go_at_call 11; refine (chk9_any a n cap s _ (HV.out.below BB.out)).mono ?_; rintro e w1 ⟨rfl, hb⟩; rw [HC1.out]; replace BB := hide (bel_next BB.out hb); replace d0 := bcell hb d0; replace d1 := bcell hb d1; clear hb) | (go_at_call 53; refine (key9_any t _).mono ?_; rintro e w1 ⟨rfl, hb⟩; rw [HK1.out]; replace BB := hide (bel_next BB.out hb); replace d0 := bcell hb d0; replace d1 := bcell hb d1; clear hb) | (go_at_call 54; refine (May_any r q _).mono ?_; rintro e w1 ⟨rfl, hg⟩; rw [show mayD (r, q) = _ from HM1.out]; have hb := hg.bel; clear hg; replace BB := hide (bel_next BB.out hb); replace d0 := bcell hb d0; replace d1 := bcell hb d1; clear hb))
        go_ret
        exact ⟨by simp, BB.out⟩
      · have HM1 := hide hx
        clear hx
        rcases hx : mayC c with _ | _
        · have HQ1 : Hid (chk c = 1) := by unfold Hid chk; rw [hx]; rfl
          clear hx
          go_enter Try.func32, Try.ntmps32
          go_wp2_with (first | (go_at_call 11; refine (chk9_any a n cap s _ (HV.out.below BB.out)).mono ?_; rintro e w1 ⟨rfl, hb⟩; rw [HC1.out]; replace BB := hide (bel_next BB.out hb); replace d0 := bcell hb d0; replace d1 := bcell hb d1; clear hb) | (go_at_call 53; refine (key9_any t _).mono ?_; rintro e w1 ⟨rfl, hb⟩; rw [HK1.out]; replace BB := hide (bel_next BB.out hb); replace d0 := bcell hb d0; replace d1 := bcell hb d1; clear hb) | (go_at_call 54; refine (May_any r q _).mono ?_; rintro e w1 ⟨rfl, hg⟩; rw [show mayD (r, q) = _ from HM1.out]; have hb := hg.bel; clear hg; replace BB := hide (bel_next BB.out hb); replace d0 := bcell hb d0; replace d1 := bcell hb d1; clear hb) | (go_at_call 44; refine (check_any pa na ca c _ (HP.out.below BB.out)).mono ?_; rintro e w1 ⟨rfl, rfl⟩; rw [show chk c = _ from HQ1.out]))
          go_ret
          exact ⟨by simp, BB.out⟩
        · have HQ1 : Hid (chk c = 0) := by unfold Hid chk; rw [hx]; rfl
          clear hx
          go_enter Try.func32, Try.ntmps32
          go_wp2_with (first | (go_at_call 11; refine (chk9_any a n cap s _ (HV.out.below BB.out)).mono ?_; rintro e w1 ⟨rfl, hb⟩; rw [HC1.out]; replace BB := hide (bel_next BB.out hb); replace d0 := bcell hb d0; replace d1 := bcell hb d1; clear hb) | (go_at_call 53; refine (key9_any t _).mono ?_; rintro e w1 ⟨rfl, hb⟩; rw [HK1.out]; replace BB := hide (bel_next BB.out hb); replace d0 := bcell hb d0; replace d1 := bcell hb d1; clear hb) | (go_at_call 54; refine (May_any r q _).mono ?_; rintro e w1 ⟨rfl, hg⟩; rw [show mayD (r, q) = _ from HM1.out]; have hb := hg.bel; clear hg; replace BB := hide (bel_next BB.out hb); replace d0 := bcell hb d0; replace d1 := bcell hb d1; clear hb) | (go_at_call 44; refine (check_any pa na ca c _ (HP.out.below BB.out)).mono ?_; rintro e w1 ⟨rfl, rfl⟩; rw [show chk c = _ from HQ1.out]))
          go_ret
          exact ⟨by simp, BB.out⟩
set_option maxHeartbeats 2000000 in
set_option maxRecDepth 2000 in
theorem ren9_any (p : Option Addr) (n cap : Nat) (l : List Dot) (pa : Option Addr) (na ca : Nat) (c : List Int) (r q : Int) (w : World) (hA : DS w p n l) (hl : SrtD l) (hP : NS w pa na c) (hn : n ≤ 900000) : Calls Try.prog 35 #[.slice p n cap, .slice pa na ca, .agg #[.int .i64 r, .int .i64 q]] w fun e w' => ∃ p' c', e = .returned (.slice p' (putD (leftD l c) (r, q)).length c') ∧ DS w' p' (putD (leftD l c) (r, q)).length (putD (leftD l c) (r, q)) ∧ CP p' (putD (leftD l c) (r, q)).length c' ∧ Below w.heap.size w w' := by
  have HB0 := hide (bel1 w (.cells #[.int .i64 r, .int .i64 q] 24))
  have d0 := cell_new w #[.int .i64 r, .int .i64 q] 24 _ rfl 0 _ rfl
  have d1 := cell_new w #[.int .i64 r, .int .i64 q] 24 _ rfl 1 _ rfl
  have HV := hide (hA.below HB0.out)
  have HP := hide (hP.below HB0.out)
  have HLL : Hid ((leftD l c).length ≤ n) := by
    unfold Hid
    rw [← hA.1]
    exact List.length_filter_le _ _
  have HE := hide (ordD_snoc (List.Pairwise.filter (fun d => decide (getZ c d.1 < d.2)) hl) (r, q))
  clear hA hP hl
  change Hid (ordD (leftD l c ++ [(r, q)]) = putD (leftD l c) (r, q)) at HE
  go_enter Try.func35, Try.ntmps35
  go_upto_region 1 with fail
  generalize hgb : w.heap.size = gb at d0 d1 ⊢
  generalize w.alloc (.cells #[.int .i64 r, .int .i64 q] 24) = u at *
  refine wp_region_held_drew (S := fun W => Below u.heap.size u W) (by kernel_rfl) ((Below.refl _ u).drew) (fun hS0 => ?_)
  refine takeInH 0 7 ?v1 rfl rfl (by kernel_rfl) (by kernel_rfl) (by kernel_rfl) (fun _ _ _ h => h) (by kernel_rfl) hS0 ?hy1 ?_
  case hy1 => (intro W hW; clear hW; go_simp; try rfl)
  simp only [Act.put, List.setIfInBounds_toArray, List.set_cons_zero, List.set_cons_succ]
  refine takeInH 1 8 ?v2 rfl rfl (by kernel_rfl) (by kernel_rfl) (by kernel_rfl) (fun _ _ _ h => h) (by kernel_rfl) hS0 ?hy2 ?_
  case hy2 => (intro W hW; clear hW; go_simp; try rfl)
  simp only [Act.put, List.setIfInBounds_toArray, List.set_cons_zero, List.set_cons_succ]
  refine takeInH 3 10 ?v3 rfl rfl (by kernel_rfl) (by kernel_rfl) (by kernel_rfl) (fun _ _ _ h => h) (by kernel_rfl) hS0 ?hy3 ?_
  case hy3 => (intro W hW; have e0 := bcell hW d0; have e1 := bcell hW d1; clear hW; go_simp; try rfl)
  simp only [Act.put, List.setIfInBounds_toArray, List.set_cons_zero, List.set_cons_succ]
  refine wpAnyH_ready (rs := [2, 4]) (by kernel_rfl) (by simp) ?_
  refine AllReadyH.cons rfl (fun K hK => ?_) (AllReadyH.cons rfl (fun K hK => ?_) AllReadyH.nil)
  · go_simp
    refine (unk9_any p n cap l pa na ca c _ (HV.out.below hS0) (HP.out.below hS0) hn).mono ?_
    rintro e w3 ⟨v3, rfl, ho3, hb⟩
    have O3 := hide (ho3.mono hS0.size)
    try replace DB := hide (DB.out.below hb)
    clear ho3
    refine hK.out _ _ ?hs4 (fun hS1 => ?_)
    case hs4 => exact bel_next hS0 hb
    clear hK K hb
    try simp only [Act.put, List.setIfInBounds_toArray, List.set_cons_zero, List.set_cons_succ]
    refine wpAnyH_ready (rs := [4]) (by kernel_rfl) (by simp) ?_
    refine AllReadyH.cons rfl (fun K hK => ?_) AllReadyH.nil
    go_simp
    have BW := bel_next hS1 (bel1 w3 (.cells #[.int .i64 r, .int .i64 q] 24))
    have DB := hide (DS.new w3 _ rfl [(r, q)] #[.int .i64 r, .int .i64 q] (by simp [flatD, encD]) 24 (0, 0) 1 rfl (by decide))
    replace O3 := hide (O3.out.below (bel1 w3 (.cells #[.int .i64 r, .int .i64 q] 24)))
    generalize w3.heap.size = gw at DB ⊢
    generalize w3.alloc (.cells #[.int .i64 r, .int .i64 q] 24) = wb at DB O3 BW ⊢
    refine hK.out _ _ ?hs5 (fun hS2 => ?_)
    case hs5 => exact BW
    clear hK K
    try simp only [Act.put, List.setIfInBounds_toArray, List.set_cons_zero, List.set_cons_succ]
    refine wpAnyH_ready (rs := [5]) (by kernel_rfl) (by simp) ?_
    refine AllReadyH.cons rfl (fun K hK => ?_) AllReadyH.nil
    rw [if_pos (by kernel_rfl)]
    refine append_wp _ _ rfl u.heap.size _ (leftD l c) [(r, q)] rfl O3.out (some ⟨gw, 0, none⟩) 1 1 rfl (fun h => by cases h) DB.out (by have := HLL.out; rw [List.length_singleton]; omega) hS2.size ?_
    intro v5 w5 ho5 hbel5
    have BS5 := hbel5 _ hS2
    obtain ⟨p5, c5, hv5, hd5, hc5⟩ := ho5.open
    have HN5 : Hid (((leftD l c) ++ [(r, q)]).length ≤ 1000000) := by have := HLL.out; unfold Hid; rw [List.length_append, List.length_singleton]; omega
    generalize ((leftD l c) ++ [(r, q)]).length = n5 at hv5 hd5 HN5
    subst hv5
    have HD5 := hide hd5
    clear ho5 hbel5 hd5 hc5
    change K (Act.put _ (some 12) _) _
    refine hK.out _ _ ?hs6 (fun hS3 => ?_)
    case hs6 => exact BS5
    clear hK K
    try simp only [Act.put, List.setIfInBounds_toArray, List.set_cons_zero, List.set_cons_succ]
    refine wpAnyH_ready (rs := [6]) (by kernel_rfl) (by simp) ?_
    refine AllReadyH.cons rfl (fun K hK => ?_) AllReadyH.nil
    go_simp
    refine (Order_dots p5 _ c5 ((leftD l c) ++ [(r, q)]) _ HD5.out HN5.out).mono ?_
    rw [HE.out]
    rintro e w6 ⟨p9, c9, rfl, hd6, hc6, hb⟩
    have D9 := hide hd6
    have C9 := hide hc6
    clear hd6 hc6
    refine hK.out _ _ ?hs7 (fun hS4 => ?_)
    case hs7 => exact bel_next hS3 hb
    clear hK K hb
    try simp only [Act.put, List.setIfInBounds_toArray, List.set_cons_zero, List.set_cons_succ]
    refine takeInH 7 6 ?v8 rfl rfl (by kernel_rfl) (by kernel_rfl) (by kernel_rfl) (fun _ _ _ h => h) (by kernel_rfl) hS4 ?hy8 ?_
    case hy8 => (intro W hW; clear hW; go_simp; try rfl)
    simp only [Act.put, List.setIfInBounds_toArray, List.set_cons_zero, List.set_cons_succ]
    refine wpAnyH_done (by kernel_rfl) ?_ _
    go_wp2
    go_ret
    exact ⟨p9, c9, rfl, D9.out, C9.out, bel_next HB0.out hS4⟩
  · go_simp
    have BW : Below u.heap.size u (u.alloc (.cells #[.int .i64 r, .int .i64 q] 24)).drew := (bel1 u (.cells #[.int .i64 r, .int .i64 q] 24)).drew
    have DB := hide (DS.new u _ rfl [(r, q)] #[.int .i64 r, .int .i64 q] (by simp [flatD, encD]) 24 (0, 0) 1 rfl (by decide)).drew
    generalize u.heap.size = gw at DB ⊢
    generalize (u.alloc (.cells #[.int .i64 r, .int .i64 q] 24)).drew = wb at DB BW ⊢
    refine hK.out _ _ ?hs9 (fun hS1 => ?_)
    case hs9 => exact BW
    clear hK K
    try simp only [Act.put, List.setIfInBounds_toArray, List.set_cons_zero, List.set_cons_succ]
    refine wpAnyH_ready (rs := [2]) (by kernel_rfl) (by simp) ?_
    refine AllReadyH.cons rfl (fun K hK => ?_) AllReadyH.nil
    go_simp
    refine (unk9_any p n cap l pa na ca c _ (HV.out.below hS1) (HP.out.below hS1) hn).mono ?_
    rintro e w3 ⟨v3, rfl, ho3, hb⟩
    have O3 := hide (ho3.mono hS1.size)
    try replace DB := hide (DB.out.below hb)
    clear ho3
    refine hK.out _ _ ?hs10 (fun hS2 => ?_)
    case hs10 => exact bel_next hS1 hb
    clear hK K hb
    try simp only [Act.put, List.setIfInBounds_toArray, List.set_cons_zero, List.set_cons_succ]
    refine wpAnyH_ready (rs := [5]) (by kernel_rfl) (by simp) ?_
    refine AllReadyH.cons rfl (fun K hK => ?_) AllReadyH.nil
    rw [if_pos (by kernel_rfl)]
    refine append_wp _ _ rfl u.heap.size _ (leftD l c) [(r, q)] rfl O3.out (some ⟨gw, 0, none⟩) 1 1 rfl (fun h => by cases h) DB.out (by have := HLL.out; rw [List.length_singleton]; omega) hS2.size ?_
    intro v5 w5 ho5 hbel5
    have BS5 := hbel5 _ hS2
    obtain ⟨p5, c5, hv5, hd5, hc5⟩ := ho5.open
    have HN5 : Hid (((leftD l c) ++ [(r, q)]).length ≤ 1000000) := by have := HLL.out; unfold Hid; rw [List.length_append, List.length_singleton]; omega
    generalize ((leftD l c) ++ [(r, q)]).length = n5 at hv5 hd5 HN5
    subst hv5
    have HD5 := hide hd5
    clear ho5 hbel5 hd5 hc5
    change K (Act.put _ (some 12) _) _
    refine hK.out _ _ ?hs11 (fun hS3 => ?_)
    case hs11 => exact BS5
    clear hK K
    try simp only [Act.put, List.setIfInBounds_toArray, List.set_cons_zero, List.set_cons_succ]
    refine wpAnyH_ready (rs := [6]) (by kernel_rfl) (by simp) ?_
    refine AllReadyH.cons rfl (fun K hK => ?_) AllReadyH.nil
    go_simp
    refine (Order_dots p5 _ c5 ((leftD l c) ++ [(r, q)]) _ HD5.out HN5.out).mono ?_
    rw [HE.out]
    rintro e w6 ⟨p9, c9, rfl, hd6, hc6, hb⟩
    have D9 := hide hd6
    have C9 := hide hc6
    clear hd6 hc6
    refine hK.out _ _ ?hs12 (fun hS4 => ?_)
    case hs12 => exact bel_next hS3 hb
    clear hK K hb
    try simp only [Act.put, List.setIfInBounds_toArray, List.set_cons_zero, List.set_cons_succ]
    refine takeInH 7 6 ?v13 rfl rfl (by kernel_rfl) (by kernel_rfl) (by kernel_rfl) (fun _ _ _ h => h) (by kernel_rfl) hS4 ?hy13 ?_
    case hy13 => (intro W hW; clear hW; go_simp; try rfl)
    simp only [Act.put, List.setIfInBounds_toArray, List.set_cons_zero, List.set_cons_succ]
    refine wpAnyH_done (by kernel_rfl) ?_ _
    go_wp2
    go_ret
    exact ⟨p9, c9, rfl, D9.out, C9.out, bel_next HB0.out hS4⟩
theorem put_there {s : List En} {i : Nat} (e : En) (hi : i < s.length) : s.set i e = s.take i ++ [e] ++ s.drop (i + 1) := by
  rw [List.append_assoc, List.set_eq_take_append_cons_drop, if_pos hi]
  rfl
set_option maxHeartbeats 4000000 in
set_option maxRecDepth 2000 in
theorem with9_any (a : Option Addr) (n cap : Nat) (s : List En) (t : ByteArray) (pv : Option Addr) (nv cv : Nat) (l : List Dot) (pm : Option Addr) (nm cm : Nat) (m : List Dot) (w : World) (hA : NSS w a n s) (hm : mayS9 s = true) (hL : DS w pv nv l) (hC : CP pv nv cv) (hM : DS w pm nm m) (hCM : CP pm nm cm) (hne : ((l, m) : Pr) ≠ ([], [])) (hd : ∀ x ∈ s, x.2.1.length ≤ 900000 ∧ x.2.2.length ≤ 900000) (hlt : n < 4000) :
    Calls Try.prog 36 #[.slice a n cap, .agg #[.string t, .slice pv nv cv, .slice pm nm cm]] w fun e w' => ∃ p cp, e = .returned (.tuple #[.slice p (putP s t (l, m)).length cp, .int .i64 0]) ∧ NSS w' p (putP s t (l, m)).length (putP s t (l, m)) ∧ CP p (putP s t (l, m)).length cp ∧ Below w.heap.size w w' := by
  obtain ⟨hm1, hm2, hm3⟩ := mayS9_iff.1 hm
  have B0 := hide (bel1 w (.cells #[.string t, .slice pv nv cv, .slice pm nm cm] 48))
  have HX0 := hide (BX.new w _ rfl #[.string t, .slice pv nv cv, .slice pm nm cm] 48)
  have HV := hide (hA.below B0.out)
  have HLEN := hide hA.len
  have HS := hide hm2
  have hn : n ≤ 4000 := by omega
  have HDD := hide hd
  have HID := hide (map_id9 (fun x hx => (mayN9_iff.1 (hm1 x hx)).2.1))
  have HR0 := hide (show RelN w (t, (pv, nv, cv), (pm, nm, cm)) (t, l, m) from ⟨rfl, ⟨hL, hC⟩, hM, hCM⟩)
  have HPL := hide (plc9w_any a n cap s t _ HV.out hm2 hn)
  have hn4 : ¬ ((n : Int) = 4000) := by omega
  have hn5 : ¬ (n = 4000) := by omega
  have HNE := hide hne
  have HLO : Hid (∀ N W, w.heap.size ≤ N → w.heap.size ≤ W.heap.size → Lo N W (pv, nv, cv) ∧ Lo N W (pm, nm, cm)) := fun N W h1 h2 => ⟨Lo.old (w0 := w) hL h1 h2, Lo.old (w0 := w) hM h1 h2⟩
  clear hA hm1 hm2 hm3 hm hL hC hM hCM hne hd
  go_enter Try.func36, Try.ntmps36
  go_upto_region 1 with fail
  generalize w.alloc (.cells #[.string t, .slice pv nv cv, .slice pm nm cm] 48) = u at *
  have d0 := HX0.out.cell 0 _ rfl
  go_upto_region 2 with (go_at_call 55; refine HPL.out.mono ?_; rintro e w1 ⟨⟨i, rfl, hp⟩, hb⟩)
  have HP := hide hp
  have HB1 := hide hb
  have HBW := hide (bel_next B0.out hb)
  have HX1 := hide (HX0.out.below hb)
  have hin : i ≤ n := by rw [← HLEN.out]; exact hp.1
  clear hp hb HPL HX0 d0
  have hsz : Hid (w.heap.size ≤ w1.heap.size) := HBW.out.size
  rcases ht : thereB s t i with _ | _
  · have HG : Hid (putP s t (l, m) = s.take i ++ (t, l, m) :: s.drop i) := by
      have := (placeP_not HS.out HP.out (there_no ht) (l, m)).2
      rw [if_neg HNE.out, List.append_assoc] at this
      exact this
    clear ht
    go_upto_region 8 with (go_at_call 42; refine (eachI9_any a n cap s _ (HV.out.below HB1.out) hn (fun x hx => HDD.out x hx)).mono ?_; rintro e w2 ⟨V, rfl, ho2, hb2⟩)
    rw [HID.out] at ho2
    have HO2 := hide ho2
    have X2 := hide (HX1.out.below hb2)
    have HB2 := hide (bel_next HBW.out hb2)
    have HR2 := hide (HR0.out.below HB2.out)
    have HB12 := hide hb2
    clear ho2 hb2 HX1 HR0
    have d0 := X2.out.cell 0 _ rfl
    have d1 := X2.out.cell 1 _ rfl
    have d2 := X2.out.cell 2 _ rfl
    have BA := hide (bel1 w2 (.cells #[.string t, .slice pv nv cv, .slice pm nm cm] 48))
    have XA := hide (BX.new w2 _ rfl #[.string t, .slice pv nv cv, .slice pm nm cm] 48)
    have HI := hide (ins9_any w1.heap.size V s i (t, (pv, nv, cv), (pm, nm, cm)) (t, l, m) w2.heap.size (w2.alloc (.cells #[.string t, .slice pv nv cv, .slice pm nm cm] 48)) (HO2.out.below BA.out) (by rw [HLEN.out]; exact hin) XA.out (fun q => by have := HO2.out.blk _ q; omega) (HR2.out.below BA.out) (HLO.out _ _ hsz.out (Nat.le_trans HB2.out.size BA.out.size)) (by rw [HLEN.out]; exact hn) (Nat.le_trans HB12.out.size BA.out.size))
    go_wp2_with (go_at_call 60; refine HI.out.mono ?_; rintro e w5 ⟨v5, rfl, ho5, hb5⟩)
    rw [← HG.out] at ho5
    obtain ⟨p5, c5, rfl, hn5', hc5⟩ := ho5.open
    have HN5 := hide hn5'
    have HC5 := hide hc5
    have HBE : Hid (Below w.heap.size w w5) := HBW.out.trans ((hb5 _ (HB12.out.trans (BA.out.mono HB12.out.size))).mono hsz.out)
    clear hn5' hc5 hb5 ho5 HI
    go_ret2
    exact ⟨p5, c5, rfl, HN5.out, HC5.out, HBE.out⟩
  · obtain ⟨x, hx, he⟩ := there_yes ht
    have hil : i < s.length := (List.getElem?_eq_some_iff.1 hx).1
    have hin2 : i < n := by rw [← HLEN.out]; exact hil
    have HG : Hid (putP s t (l, m) = s.set i (t, l, m)) := by
      have := (placeP_there HS.out HP.out hx he (l, m)).2
      rw [if_neg HNE.out, ← put_there _ hil] at this
      exact this
    clear ht hx he x hil
    go_upto_region 6 with (go_at_call 42; refine (eachI9_any a n cap s _ (HV.out.below HB1.out) hn (fun x hx => HDD.out x hx)).mono ?_; rintro e w2 ⟨V, rfl, ho2, hb2⟩)
    rw [HID.out] at ho2
    obtain ⟨g, nn, cc, rfl⟩ : ∃ g n cap, V = .slice (some ⟨g, 0, none⟩) n cap := by
      obtain ⟨xs, ⟨_, h⟩, h2, _⟩ := ho2
      rcases h with ⟨_, h⟩ | ⟨g, cap, _, h, _⟩
      · rw [h2.1, HLEN.out] at h; omega
      · exact ⟨g, _, cap, h⟩
    obtain ⟨xs, C, k0, k0', k1, k2, k3, k4, k5, k6, k7, k8, k9⟩ := ho2.row
    rw [HLEN.out] at k0'
    subst k0'
    have HR2 := hide (HR0.out.below (bel_next HBW.out hb2))
    obtain ⟨ho3, hb3⟩ := ho2.put i hin2 HR2.out (HLO.out _ _ hsz.out (Nat.le_trans hsz.out hb2.size))
    have HN3 := hide ho3
    have HB3 := hide (hb3 _ hb2)
    have X2 := hide (HX1.out.below hb2)
    obtain ⟨y0, q0⟩ : ∃ y, w2.cell? ⟨g, i * 3, none⟩ = some y := ⟨C[i * 3]'(by omega), k2.cell _ _ (Array.getElem?_eq_getElem (by omega))⟩
    obtain ⟨y1, q1⟩ : ∃ y, w2.cell? ⟨g, i * 3 + 1, none⟩ = some y := ⟨C[i * 3 + 1]'(by omega), k2.cell _ _ (Array.getElem?_eq_getElem (by omega))⟩
    obtain ⟨y2, q2⟩ : ∃ y, w2.cell? ⟨g, i * 3 + 2, none⟩ = some y := ⟨C[i * 3 + 2]'(by omega), k2.cell _ _ (Array.getElem?_eq_getElem (by omega))⟩
    have f0 := k2.free (i * 3)
    have f1 := k2.free (i * 3 + 1)
    have f2 := k2.free (i * 3 + 2)
    clear ho2 hb2 hb3 ho3 k0 k1 k2 k3 k4 k5 k6 k7 k8 k9 HX1
    have d0 := X2.out.cell 0 _ rfl
    have d1 := X2.out.cell 1 _ rfl
    have d2 := X2.out.cell 2 _ rfl
    have hi0 : (0 : Int) ≤ (i : Int) := by omega
    have hi1 : (i : Int) < (n : Int) := by omega
    go_wp2
    rw [← HG.out] at HN3
    have HLN : Hid ((putP s t (l, m)).length = n) := by unfold Hid; rw [HG.out, List.length_set, HLEN.out]
    obtain ⟨p5, c5, e5, hn5', hc5⟩ := HN3.out.open
    go_ret2
    refine ⟨p5, c5, ?_, hn5', hc5, HBW.out.trans (HB3.out.mono hsz.out)⟩
    rw [← e5]
    rfl
end Go.Proofs.Ytiodlpoeifmldaa
