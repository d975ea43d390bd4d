/- Two registers put together (layer 12): what the program's loop makes. -/
import Derived.Test.YtohkopjacpendaaGNb
import Derived.Test.YtohkopjacpendaaGAp
namespace Go.Proofs.Ytohkopjacpendaa
open Go.RowKit Go.Lib Go.Sort
set_option linter.unusedVariables false
theorem NN.rest {w : World} {b off n cap : Nat} {s : List Nt} (h : NN w (some ⟨b, off, none⟩) n s) (i : Nat) (hi : i ≤ n) (hc : n ≤ cap) : NN w (if cap = i then some ⟨b, off, none⟩ else some ⟨b, off + i * 4, none⟩) (n - i) (s.drop i) := by
  rcases Nat.lt_or_ge i n with hlt | hge
  · rw [if_neg (by omega)]
    exact RS.mid (k := 4) h i hi
  · have e : n - i = 0 := by omega
    rw [e, List.drop_eq_nil_of_le (by rw [h.1]; exact hge)]
    exact NN.nil _ _
def slN : Value → Nat
  | .slice _ n _ => n
  | _ => 0
set_option maxHeartbeats 8000000 in
theorem merged_any (a : Option Addr) (n cpa : Nat) (s : List Nt) (b : Option Addr) (m cpb : Nat) (t : List Nt) (w : World) (hA : NN w a n s) (hCA : CP a n cpa) (hB : NN w b m t) (hCB : CP b m cpb) (hn : n ≤ 4000) (hm : m ≤ 4000) :
    Calls Try.prog 25 #[.slice a n cpa, .slice b m cpb] w fun e w' => ∃ v, e = .returned v ∧ OwnR encN 4 24 w.heap.size w' v (mrgN s t) ∧ Below w.heap.size w w' := by
  obtain ⟨Fin, hF⟩ : ∃ F, mrgN s t = F := ⟨_, rfl⟩
  rw [hF]
  have HA0 := hide hA
  have HB0 := hide hB
  have HCA0 := hide hCA
  have HCB0 := hide hCB
  have HF := hide hF
  clear hA hB hCA hCB hF
  go_enter Try.func25, Try.ntmps25
  go_wp2
  go_loopw [0, 1, 5] (fun va vb vo wr => ∃ (pa : Option Addr) (na ca : Nat) (la : List Nt) (pb : Option Addr) (nb cb : Nat) (lb out : List Nt), va = .slice pa na ca ∧ vb = .slice pb nb cb ∧ na ≤ 4000 ∧ nb ≤ 4000 ∧ Hid (NN w pa na la) ∧ Hid (CP pa na ca) ∧ Hid (NN w pb nb lb) ∧ Hid (CP pb nb cb) ∧ Hid (OwnR encN 4 24 w.heap.size wr vo out) ∧ Hid (out ++ mrgN la lb = Fin) ∧ Hid (out.length + na + nb ≤ 8000) ∧ Hid (Below w.heap.size w wr)) (fun va vb _ _ => slN va + slN vb)
  case atStart => exact ⟨a, n, cpa, s, b, m, cpb, t, [], rfl, rfl, hn, hm, HA0, HCA0, HB0, HCB0, (show Hid _ from OwnR.nil _ _), HF, (show _ ≤ _ by simp; omega), Below.refl _ _⟩
  case round =>
    clear HA0 HB0 HCA0 HCB0 HF
    obtain ⟨pa, na, ca, la, pb, nb, cb, lb, out, rfl, rfl, hna, hnb, HNA, HCA, HNB, HCB, HO, HG, HOL, HB⟩ := hrel
    by_cases ha0 : na = 0
    · subst ha0
      have HLA : Hid (la = []) := List.eq_nil_of_length_eq_zero HNA.out.1
      have HLE : Hid (mrgN la lb = la ++ lb) := by unfold Hid; rw [HLA.out, mrgN]; rfl
      obtain ⟨po, co, rfl, ho, hco⟩ := HO.out.open encN_len
      have HNO := hide ho
      have HCO := hide hco
      have hol := HOL.out
      clear ho hco
      generalize out.length = no at *
      have BQ := hide (bel1 wr (.cells #[.slice po no co, .slice pa 0 ca, .slice pb nb cb] 22))
      have x0 := cell_new wr #[.slice po no co, .slice pa 0 ca, .slice pb nb cb] 22 _ rfl 0 _ rfl
      have x1 := cell_new wr #[.slice po no co, .slice pa 0 ca, .slice pb nb cb] 22 _ rfl 1 _ rfl
      have x2 := cell_new wr #[.slice po no co, .slice pa 0 ca, .slice pb nb cb] 22 _ rfl 2 _ rfl
      have HBW := hide (bel_next HB.out BQ.out)
      have HC := hide (concatN_any wr.heap.size po pa pb no co 0 ca nb cb out la lb _ x0 x1 x2 (HNO.out.below BQ.out) (HNA.out.below HBW.out) (HNB.out.below HBW.out) HCO.out.2.2 HCA.out.2.2 HCB.out.2.2 (by omega))
      clear x0 x1 x2
      go_wp2_with (go_at_call 29; refine HC.out.mono ?_; rintro e w9 ⟨v9, rfl, ho9, hb⟩; have HO9 := hide ho9; have HB9 := hide hb; clear ho9 hb)
      go_ret
      refine ⟨_, rfl, ?_, bel_next HBW.out HB9.out⟩
      rw [← HG.out, HLE.out, ← List.append_assoc]
      exact OwnR.mono HO9.out HBW.out.size
    · by_cases hb0 : nb = 0
      · subst hb0
        have HLB : Hid (lb = []) := List.eq_nil_of_length_eq_zero HNB.out.1
        have HLE : Hid (mrgN la lb = la ++ lb) := by unfold Hid; rw [HLB.out, mrgN_nil, List.append_nil]
        have ha1 : (0 : Int) < (na : Int) := by omega
        obtain ⟨po, co, rfl, ho, hco⟩ := HO.out.open encN_len
        have HNO := hide ho
        have HCO := hide hco
        have hol := HOL.out
        clear ho hco
        generalize out.length = no at *
        have BQ := hide (bel1 wr (.cells #[.slice po no co, .slice pa na ca, .slice pb 0 cb] 22))
        have x0 := cell_new wr #[.slice po no co, .slice pa na ca, .slice pb 0 cb] 22 _ rfl 0 _ rfl
        have x1 := cell_new wr #[.slice po no co, .slice pa na ca, .slice pb 0 cb] 22 _ rfl 1 _ rfl
        have x2 := cell_new wr #[.slice po no co, .slice pa na ca, .slice pb 0 cb] 22 _ rfl 2 _ rfl
        have HBW := hide (bel_next HB.out BQ.out)
        have HC := hide (concatN_any wr.heap.size po pa pb no co na ca 0 cb out la lb _ x0 x1 x2 (HNO.out.below BQ.out) (HNA.out.below HBW.out) (HNB.out.below HBW.out) HCO.out.2.2 HCA.out.2.2 HCB.out.2.2 (by omega))
        clear x0 x1 x2
        go_wp2_with (go_at_call 29; refine HC.out.mono ?_; rintro e w9 ⟨v9, rfl, ho9, hb⟩; have HO9 := hide ho9; have HB9 := hide hb; clear ho9 hb)
        go_ret
        refine ⟨_, rfl, ?_, bel_next HBW.out HB9.out⟩
        rw [← HG.out, HLE.out, ← List.append_assoc]
        exact OwnR.mono HO9.out HBW.out.size
      · obtain ⟨ba, oa, rfl⟩ := HNA.out.addr (by omega)
        obtain ⟨bb, ob, rfl⟩ := HNB.out.addr (by omega)
        obtain ⟨ka, aa, ra, wa, hx, c0, c1, c2, c3⟩ := HNA.out.at 0 (by omega)
        obtain ⟨kb, ab, rb, wb, hy, d0, d1, d2, d3⟩ := HNB.out.at 0 (by omega)
        simp only [Nat.zero_mul, Nat.add_zero] at c0 c1 c2 c3 d0 d1 d2 d3
        have HLA : Hid (la = (ka, aa, ra, wa) :: la.drop 1) := drop_cons hx
        have HLB : Hid (lb = (kb, ab, rb, wb) :: lb.drop 1) := drop_cons hy
        have hca := HCA.out.1
        have hcb := HCB.out.1
        have hcam := HCA.out.2.1
        have hcbm := HCB.out.2.1
        unfold maxLen at hcam hcbm
        have ha1 : (0 : Int) < (na : Int) := by omega
        have hb1 : (0 : Int) < (nb : Int) := by omega
        have ha2 : (1 : Int) ≤ (na : Int) := by omega
        have hb2 : (1 : Int) ≤ (nb : Int) := by omega
        have ha3 : (na : Int) ≤ (ca : Int) := by omega
        have hb3 : (nb : Int) ≤ (cb : Int) := by omega
        obtain ⟨RA, hRA⟩ : ∃ R : Option Addr, (if ca = 1 then (some ⟨ba, oa, none⟩ : Option Addr) else some ⟨ba, oa + 4, none⟩) = R := ⟨_, rfl⟩
        obtain ⟨RB, hRB⟩ : ∃ R : Option Addr, (if cb = 1 then (some ⟨bb, ob, none⟩ : Option Addr) else some ⟨bb, ob + 4, none⟩) = R := ⟨_, rfl⟩
        have HRA : Hid (NN w RA (na - 1) (la.drop 1)) := by unfold Hid; rw [← hRA]; exact HNA.out.rest 1 (by omega) (by omega)
        have HRB : Hid (NN w RB (nb - 1) (lb.drop 1)) := by unfold Hid; rw [← hRB]; exact HNB.out.rest 1 (by omega) (by omega)
        have HKA : Hid (CP RA (na - 1) (ca - 1)) := ⟨by omega, by unfold maxLen; omega, fun h => by rw [← hRA] at h; split at h <;> cases h⟩
        have HKB : Hid (CP RB (nb - 1) (cb - 1)) := ⟨by omega, by unfold maxLen; omega, fun h => by rw [← hRB] at h; split at h <;> cases h⟩
        clear hx hy
        rcases h1 : ltK ka kb with _ | _
        · have hc1 : ¬ cmpK ka kb < 0 := by rw [cmpK_lt, h1]; simp
          rcases h2 : ltK kb ka with _ | _
          · have hc2 : ¬ 0 < cmpK ka kb := by
              obtain rfl := ltK_tri h1 h2
              rw [(cmpK_eq _ _).2 rfl]
              omega
            have HG2 : Hid ((out ++ [lofN (ka, aa, ra, wa) (kb, ab, rb, wb)]) ++ mrgN (la.drop 1) (lb.drop 1) = Fin) := by
              have h := HG.out
              rw [HLA.out, HLB.out, mrgN_eq h1 h2] at h
              unfold Hid
              rw [List.append_assoc]
              exact h
            clear h1 h2 HG HLA HLB
            have HCM := hide (Compare_any ka kb)
            generalize cmpK ka kb = z at *
            go_upto_region 3 with fail
            refine wp_region_held_drew (S := fun W => Below w.heap.size w W) (by kernel_rfl) (HB.out.drew) (fun hS0 => ?_)
            refine takeInH 0 15 ?v1 rfl rfl (by kernel_rfl) (by kernel_rfl) (by kernel_rfl) (fun _ _ _ h => h) (by kernel_rfl) hS0 ?hy1 ?_
            case hy1 => (intro W hW; clear hW; go_simp; try rfl)
            simp only [Act.put, List.setIfInBounds_toArray, List.set_cons_zero, List.set_cons_succ]
            refine takeInH 1 16 ?v2 rfl rfl (by kernel_rfl) (by kernel_rfl) (by kernel_rfl) (fun _ _ _ h => h) (by kernel_rfl) hS0 ?hy2 ?_
            case hy2 => (intro W hW; clear hW; go_simp; try rfl)
            simp only [Act.put, List.setIfInBounds_toArray, List.set_cons_zero, List.set_cons_succ]
            refine takeInH 2 17 ?v3 rfl rfl (by kernel_rfl) (by kernel_rfl) (by kernel_rfl) (fun _ _ _ h => h) (by kernel_rfl) hS0 ?hy3 ?_
            case hy3 => (intro W hW; clear hW; go_simp; try rfl)
            simp only [Act.put, List.setIfInBounds_toArray, List.set_cons_zero, List.set_cons_succ]
            refine takeInH 3 18 ?v4 rfl rfl (by kernel_rfl) (by kernel_rfl) (by kernel_rfl) (fun _ _ _ h => h) (by kernel_rfl) hS0 ?hy4 ?_
            case hy4 => (intro W hW; have e0 := bcell hW c0; have e1 := bcell hW d0; clear hW; go_simp; try rfl)
            simp only [Act.put, List.setIfInBounds_toArray, List.set_cons_zero, List.set_cons_succ]
            refine takeInH 4 19 ?v5 rfl rfl (by kernel_rfl) (by kernel_rfl) (by kernel_rfl) (fun _ _ _ h => h) (by kernel_rfl) hS0 ?hy5 ?_
            case hy5 => (intro W hW; clear hW; go_simp; try rfl)
            simp only [Act.put, List.setIfInBounds_toArray, List.set_cons_zero, List.set_cons_succ]
            refine takeInH 5 20 ?v6 rfl rfl (by kernel_rfl) (by kernel_rfl) (by kernel_rfl) (fun _ _ _ h => h) (by kernel_rfl) hS0 ?hy6 ?_
            case hy6 => (intro W hW; clear hW; go_simp; try rfl)
            simp only [Act.put, List.setIfInBounds_toArray, List.set_cons_zero, List.set_cons_succ]
            refine takeInH 6 21 ?v7 rfl rfl (by kernel_rfl) (by kernel_rfl) (by kernel_rfl) (fun _ _ _ h => h) (by kernel_rfl) hS0 ?hy7 ?_
            case hy7 => (intro W hW; clear hW; go_simp; try rfl)
            simp only [Act.put, List.setIfInBounds_toArray, List.set_cons_zero, List.set_cons_succ]
            refine takeInH 7 22 ?v8 rfl rfl (by kernel_rfl) (by kernel_rfl) (by kernel_rfl) (fun _ _ _ h => h) (by kernel_rfl) hS0 ?hy8 ?_
            case hy8 => (intro W hW; have e0 := bcell hW c0; have e1 := bcell hW d0; clear hW; go_simp; try rfl)
            simp only [Act.put, List.setIfInBounds_toArray, List.set_cons_zero, List.set_cons_succ]
            refine wpAnyH_ready (rs := [8]) (by kernel_rfl) (by simp) ?_
            refine AllReadyH.cons rfl (fun K hK => ?_) AllReadyH.nil
            go_simp
            refine (HCM.out _).mono ?_
            rintro e w' ⟨rfl, rfl⟩
            refine hK.out _ _ ?hs9 (fun hS1 => ?_)
            case hs9 => exact hS0
            clear hK K
            try simp only [Act.put, List.setIfInBounds_toArray, List.set_cons_zero, List.set_cons_succ]
            refine takeInH 9 6 ?v10 rfl rfl (by kernel_rfl) (by kernel_rfl) (by kernel_rfl) (fun _ _ _ h => h) (by kernel_rfl) hS1 ?hy10 ?_
            case hy10 => (intro W hW; clear hW; go_simp; try rfl)
            simp only [Act.put, List.setIfInBounds_toArray, List.set_cons_zero, List.set_cons_succ]
            refine wpAnyH_done (by kernel_rfl) ?_ _
            replace HO := hide HO.out.drew
            replace HB := hide hS1
            clear hS1
            generalize wr.drew = x1 at *
            go_upto_region 4 with fail
            refine wp_region_held_drew (S := fun W => Below w.heap.size w W) (by kernel_rfl) (HB.out.drew) (fun hS0 => ?_)
            refine takeInH 0 24 ?v11 rfl rfl (by kernel_rfl) (by kernel_rfl) (by kernel_rfl) (fun _ _ _ h => h) (by kernel_rfl) hS0 ?hy11 ?_
            case hy11 => (intro W hW; clear hW; go_simp; try rfl)
            simp only [Act.put, List.setIfInBounds_toArray, List.set_cons_zero, List.set_cons_succ]
            refine takeInH 1 25 ?v12 rfl rfl (by kernel_rfl) (by kernel_rfl) (by kernel_rfl) (fun _ _ _ h => h) (by kernel_rfl) hS0 ?hy12 ?_
            case hy12 => (intro W hW; clear hW; go_simp; try rfl)
            simp only [Act.put, List.setIfInBounds_toArray, List.set_cons_zero, List.set_cons_succ]
            refine takeInH 2 26 ?v13 rfl rfl (by kernel_rfl) (by kernel_rfl) (by kernel_rfl) (fun _ _ _ h => h) (by kernel_rfl) hS0 ?hy13 ?_
            case hy13 => (intro W hW; clear hW; go_simp; try rfl)
            simp only [Act.put, List.setIfInBounds_toArray, List.set_cons_zero, List.set_cons_succ]
            refine takeInH 3 27 ?v14 rfl rfl (by kernel_rfl) (by kernel_rfl) (by kernel_rfl) (fun _ _ _ h => h) (by kernel_rfl) hS0 ?hy14 ?_
            case hy14 => (intro W hW; have e0 := bcell hW c0; have e1 := bcell hW c1; have e2 := bcell hW c2; have e3 := bcell hW c3; have e4 := bcell hW d0; have e5 := bcell hW d1; have e6 := bcell hW d2; have e7 := bcell hW d3; clear hW; go_simp; try rfl)
            simp only [Act.put, List.setIfInBounds_toArray, List.set_cons_zero, List.set_cons_succ]
            refine takeInH 4 28 ?v15 rfl rfl (by kernel_rfl) (by kernel_rfl) (by kernel_rfl) (fun _ _ _ h => h) (by kernel_rfl) hS0 ?hy15 ?_
            case hy15 => (intro W hW; clear hW; go_simp; try rfl)
            simp only [Act.put, List.setIfInBounds_toArray, List.set_cons_zero, List.set_cons_succ]
            refine takeInH 5 29 ?v16 rfl rfl (by kernel_rfl) (by kernel_rfl) (by kernel_rfl) (fun _ _ _ h => h) (by kernel_rfl) hS0 ?hy16 ?_
            case hy16 => (intro W hW; clear hW; go_simp; try rfl)
            simp only [Act.put, List.setIfInBounds_toArray, List.set_cons_zero, List.set_cons_succ]
            refine takeInH 6 30 ?v17 rfl rfl (by kernel_rfl) (by kernel_rfl) (by kernel_rfl) (fun _ _ _ h => h) (by kernel_rfl) hS0 ?hy17 ?_
            case hy17 => (intro W hW; have e0 := bcell hW c0; have e1 := bcell hW c1; have e2 := bcell hW c2; have e3 := bcell hW c3; have e4 := bcell hW d0; have e5 := bcell hW d1; have e6 := bcell hW d2; have e7 := bcell hW d3; clear hW; go_simp; try rfl)
            simp only [Act.put, List.setIfInBounds_toArray, List.set_cons_zero, List.set_cons_succ]
            refine takeInH 10 34 ?v18 rfl rfl (by kernel_rfl) (by kernel_rfl) (by kernel_rfl) (fun _ _ _ h => h) (by kernel_rfl) hS0 ?hy18 ?_
            case hy18 => (intro W hW; clear hW; go_simp; try rfl)
            simp only [Act.put, List.setIfInBounds_toArray, List.set_cons_zero, List.set_cons_succ]
            refine takeInH 11 35 ?v19 rfl rfl (by kernel_rfl) (by kernel_rfl) (by kernel_rfl) (fun _ _ _ h => h) (by kernel_rfl) hS0 ?hy19 ?_
            case hy19 => (intro W hW; clear hW; go_simp; try rfl)
            simp only [Act.put, List.setIfInBounds_toArray, List.set_cons_zero, List.set_cons_succ]
            refine takeInH 12 36 ?v20 rfl rfl (by kernel_rfl) (by kernel_rfl) (by kernel_rfl) (fun _ _ _ h => h) (by kernel_rfl) hS0 ?hy20 ?_
            case hy20 => (intro W hW; clear hW; go_simp; try rfl)
            simp only [Act.put, List.setIfInBounds_toArray, List.set_cons_zero, List.set_cons_succ]
            refine takeInH 13 37 ?v21 rfl rfl (by kernel_rfl) (by kernel_rfl) (by kernel_rfl) (fun _ _ _ h => h) (by kernel_rfl) hS0 ?hy21 ?_
            case hy21 => (intro W hW; clear hW; go_simp; try rfl)
            simp only [Act.put, List.setIfInBounds_toArray, List.set_cons_zero, List.set_cons_succ]
            refine wpAnyH_ready (rs := [7]) (by kernel_rfl) (by simp) ?_
            refine AllReadyH.cons rfl (fun K hK => ?_) AllReadyH.nil
            go_simp
            refine (laterOf_any ka kb aa ab ra rb wa wb _).mono ?_
            rintro e wl ⟨rfl, hb⟩
            have BL := bel_next hS0 hb
            replace HO := hide ((HO.out.drew).below hb)
            obtain ⟨kz, tz, rz, wz, hz⟩ : ∃ kz tz rz wz, lofN (ka, aa, ra, wa) (kb, ab, rb, wb) = (kz, tz, rz, wz) := ⟨_, _, _, _, rfl⟩
            rw [hz] at HG2 ⊢
            unfold vNt
            clear hb
            refine hK.out _ _ ?hs22 (fun hS1 => ?_)
            case hs22 => exact BL
            clear hK K
            refine wpAnyH_ready (rs := [8]) (by kernel_rfl) (by simp) ?_
            refine AllReadyH.cons rfl (fun K hK => ?_) AllReadyH.nil
            go_simp
            have BW : Below w.heap.size w (wl.alloc (.cells #[.string kz, .int .i64 tz, .int .i64 rz, .string wz] 24)) := (hS1.alloc hS1.size _)
            have O1 := hide (HO.out.alloc (.cells #[.string kz, .int .i64 tz, .int .i64 rz, .string wz] 24))
            have DB : Hid (NN (wl.alloc (.cells #[.string kz, .int .i64 tz, .int .i64 rz, .string wz] 24)) (some ⟨wl.heap.size, 0, none⟩) 1 [(kz, tz, rz, wz)]) := (RS.new encN_len wl _ rfl [(kz, tz, rz, wz)] _ (by simp [encN]) 24 (0, 0) 1 rfl (by decide))
            generalize wl.heap.size = gw at DB ⊢
            generalize (wl.alloc (.cells #[.string kz, .int .i64 tz, .int .i64 rz, .string wz] 24)) = wk at DB O1 BW ⊢
            refine hK.out _ _ ?hs23 (fun hS2 => ?_)
            case hs23 => exact BW
            clear hK K
            try simp only [Act.put, List.setIfInBounds_toArray, List.set_cons_zero, List.set_cons_succ]
            refine wpAnyH_ready (rs := [9]) (by kernel_rfl) (by simp) ?_
            refine AllReadyH.cons rfl (fun K hK => ?_) AllReadyH.nil
            rw [if_pos (by kernel_rfl)]
            refine append_rg _ _ 22 rfl Try.underlying22 Try.infoNot rfl (by decide) (by decide) encN_len encN_one w.heap.size _ out [(kz, tz, rz, wz)] rfl O1.out (some ⟨gw, 0, none⟩) 1 1 rfl (fun h => by cases h) DB.out (by have h9 := HOL.out; rw [List.length_singleton]; omega) hS2.size ?_
            intro v5 w5 ho5 hg5 hbel5
            have BS5 := hbel5 _ hS2
            have O5 := hide ho5
            clear ho5 hbel5 hg5
            change K (Act.put _ (some 33) _) _
            refine hK.out _ _ ?hs24 (fun hS3 => ?_)
            case hs24 => exact BS5
            clear hK K
            try simp only [Act.put, List.setIfInBounds_toArray, List.set_cons_zero, List.set_cons_succ]
            refine takeInH 14 5 ?v25 rfl rfl (by kernel_rfl) (by kernel_rfl) (by kernel_rfl) (fun _ _ _ h => h) (by kernel_rfl) hS3 ?hy25 ?_
            case hy25 => (intro W hW; clear hW; go_simp; try rfl)
            simp only [Act.put, List.setIfInBounds_toArray, List.set_cons_zero, List.set_cons_succ]
            refine takeInH 15 0 ?v26 rfl rfl (by kernel_rfl) (by kernel_rfl) (by kernel_rfl) (fun _ _ _ h => h) (by kernel_rfl) hS3 ?hy26 ?_
            case hy26 => (intro W hW; clear hW; go_simp; try rfl)
            simp only [Act.put, List.setIfInBounds_toArray, List.set_cons_zero]
            refine takeInH 16 1 ?v27 rfl rfl (by kernel_rfl) (by kernel_rfl) (by kernel_rfl) (fun _ _ _ h => h) (by kernel_rfl) hS3 ?hy27 ?_
            case hy27 => (intro W hW; clear hW; go_simp; try rfl)
            simp only [Act.put, List.setIfInBounds_toArray, List.set_cons_zero, List.set_cons_succ]
            refine wpAnyH_done (by kernel_rfl) ?_ _
            go_wp2
            go_roundw
            case rel => exact ⟨RA, (na - 1), (ca - 1), (la.drop 1), RB, (nb - 1), (cb - 1), (lb.drop 1), out ++ [(kz, tz, rz, wz)], rfl, rfl, by omega, by omega, HRA, HKA, HRB, HKB, O5, HG2, (show _ ≤ _ by have h9 := HOL.out; rw [List.length_append, List.length_singleton]; omega), (show Hid _ from hS3)⟩
            case measure => simp only [slN]; omega
          · have hc2 : 0 < cmpK ka kb := by
              have q : ¬ cmpK ka kb = 0 := fun q => by
                rw [(cmpK_eq _ _).1 q, ltK_irr] at h2
                cases h2
              omega
            have HG2 : Hid ((out ++ [(kb, ab, rb, wb)]) ++ mrgN la (lb.drop 1) = Fin) := by
              have h := HG.out
              rw [HLB.out, HLA.out, mrgN_gt h1 h2, ← HLA.out] at h
              unfold Hid
              rw [List.append_assoc]
              exact h
            clear h1 h2 HG HLA HLB
            have HCM := hide (Compare_any ka kb)
            generalize cmpK ka kb = z at *
            go_upto_region 3 with fail
            refine wp_region_held_drew (S := fun W => Below w.heap.size w W) (by kernel_rfl) (HB.out.drew) (fun hS0 => ?_)
            refine takeInH 0 15 ?v28 rfl rfl (by kernel_rfl) (by kernel_rfl) (by kernel_rfl) (fun _ _ _ h => h) (by kernel_rfl) hS0 ?hy28 ?_
            case hy28 => (intro W hW; clear hW; go_simp; try rfl)
            simp only [Act.put, List.setIfInBounds_toArray, List.set_cons_zero, List.set_cons_succ]
            refine takeInH 1 16 ?v29 rfl rfl (by kernel_rfl) (by kernel_rfl) (by kernel_rfl) (fun _ _ _ h => h) (by kernel_rfl) hS0 ?hy29 ?_
            case hy29 => (intro W hW; clear hW; go_simp; try rfl)
            simp only [Act.put, List.setIfInBounds_toArray, List.set_cons_zero, List.set_cons_succ]
            refine takeInH 2 17 ?v30 rfl rfl (by kernel_rfl) (by kernel_rfl) (by kernel_rfl) (fun _ _ _ h => h) (by kernel_rfl) hS0 ?hy30 ?_
            case hy30 => (intro W hW; clear hW; go_simp; try rfl)
            simp only [Act.put, List.setIfInBounds_toArray, List.set_cons_zero, List.set_cons_succ]
            refine takeInH 3 18 ?v31 rfl rfl (by kernel_rfl) (by kernel_rfl) (by kernel_rfl) (fun _ _ _ h => h) (by kernel_rfl) hS0 ?hy31 ?_
            case hy31 => (intro W hW; have e0 := bcell hW c0; have e1 := bcell hW d0; clear hW; go_simp; try rfl)
            simp only [Act.put, List.setIfInBounds_toArray, List.set_cons_zero, List.set_cons_succ]
            refine takeInH 4 19 ?v32 rfl rfl (by kernel_rfl) (by kernel_rfl) (by kernel_rfl) (fun _ _ _ h => h) (by kernel_rfl) hS0 ?hy32 ?_
            case hy32 => (intro W hW; clear hW; go_simp; try rfl)
            simp only [Act.put, List.setIfInBounds_toArray, List.set_cons_zero, List.set_cons_succ]
            refine takeInH 5 20 ?v33 rfl rfl (by kernel_rfl) (by kernel_rfl) (by kernel_rfl) (fun _ _ _ h => h) (by kernel_rfl) hS0 ?hy33 ?_
            case hy33 => (intro W hW; clear hW; go_simp; try rfl)
            simp only [Act.put, List.setIfInBounds_toArray, List.set_cons_zero, List.set_cons_succ]
            refine takeInH 6 21 ?v34 rfl rfl (by kernel_rfl) (by kernel_rfl) (by kernel_rfl) (fun _ _ _ h => h) (by kernel_rfl) hS0 ?hy34 ?_
            case hy34 => (intro W hW; clear hW; go_simp; try rfl)
            simp only [Act.put, List.setIfInBounds_toArray, List.set_cons_zero, List.set_cons_succ]
            refine takeInH 7 22 ?v35 rfl rfl (by kernel_rfl) (by kernel_rfl) (by kernel_rfl) (fun _ _ _ h => h) (by kernel_rfl) hS0 ?hy35 ?_
            case hy35 => (intro W hW; have e0 := bcell hW c0; have e1 := bcell hW d0; clear hW; go_simp; try rfl)
            simp only [Act.put, List.setIfInBounds_toArray, List.set_cons_zero, List.set_cons_succ]
            refine wpAnyH_ready (rs := [8]) (by kernel_rfl) (by simp) ?_
            refine AllReadyH.cons rfl (fun K hK => ?_) AllReadyH.nil
            go_simp
            refine (HCM.out _).mono ?_
            rintro e w' ⟨rfl, rfl⟩
            refine hK.out _ _ ?hs36 (fun hS1 => ?_)
            case hs36 => exact hS0
            clear hK K
            try simp only [Act.put, List.setIfInBounds_toArray, List.set_cons_zero, List.set_cons_succ]
            refine takeInH 9 6 ?v37 rfl rfl (by kernel_rfl) (by kernel_rfl) (by kernel_rfl) (fun _ _ _ h => h) (by kernel_rfl) hS1 ?hy37 ?_
            case hy37 => (intro W hW; clear hW; go_simp; try rfl)
            simp only [Act.put, List.setIfInBounds_toArray, List.set_cons_zero, List.set_cons_succ]
            refine wpAnyH_done (by kernel_rfl) ?_ _
            replace HO := hide HO.out.drew
            replace HB := hide hS1
            clear hS1
            generalize wr.drew = x1 at *
            go_upto_region 8 with fail
            refine wp_region_held_drew (S := fun W => Below w.heap.size w W) (by kernel_rfl) (HB.out.drew) (fun hS0 => ?_)
            refine takeInH 0 52 ?v38 rfl rfl (by kernel_rfl) (by kernel_rfl) (by kernel_rfl) (fun _ _ _ h => h) (by kernel_rfl) hS0 ?hy38 ?_
            case hy38 => (intro W hW; clear hW; go_simp; try rfl)
            simp only [Act.put, List.setIfInBounds_toArray, List.set_cons_zero, List.set_cons_succ]
            refine takeInH 1 53 ?v39 rfl rfl (by kernel_rfl) (by kernel_rfl) (by kernel_rfl) (fun _ _ _ h => h) (by kernel_rfl) hS0 ?hy39 ?_
            case hy39 => (intro W hW; clear hW; go_simp; try rfl)
            simp only [Act.put, List.setIfInBounds_toArray, List.set_cons_zero, List.set_cons_succ]
            refine takeInH 2 54 ?v40 rfl rfl (by kernel_rfl) (by kernel_rfl) (by kernel_rfl) (fun _ _ _ h => h) (by kernel_rfl) hS0 ?hy40 ?_
            case hy40 => (intro W hW; clear hW; go_simp; try rfl)
            simp only [Act.put, List.setIfInBounds_toArray, List.set_cons_zero, List.set_cons_succ]
            refine takeInH 3 55 ?v41 rfl rfl (by kernel_rfl) (by kernel_rfl) (by kernel_rfl) (fun _ _ _ h => h) (by kernel_rfl) hS0 ?hy41 ?_
            case hy41 => (intro W hW; have e0 := bcell hW d0; have e1 := bcell hW d1; have e2 := bcell hW d2; have e3 := bcell hW d3; clear hW; go_simp; try rfl)
            simp only [Act.put, List.setIfInBounds_toArray, List.set_cons_zero, List.set_cons_succ]
            refine takeInH 6 58 ?v42 rfl rfl (by kernel_rfl) (by kernel_rfl) (by kernel_rfl) (fun _ _ _ h => h) (by kernel_rfl) hS0 ?hy42 ?_
            case hy42 => (intro W hW; clear hW; go_simp; try rfl)
            simp only [Act.put, List.setIfInBounds_toArray, List.set_cons_zero, List.set_cons_succ]
            refine takeInH 7 59 ?v43 rfl rfl (by kernel_rfl) (by kernel_rfl) (by kernel_rfl) (fun _ _ _ h => h) (by kernel_rfl) hS0 ?hy43 ?_
            case hy43 => (intro W hW; clear hW; go_simp; try rfl)
            simp only [Act.put, List.setIfInBounds_toArray, List.set_cons_zero, List.set_cons_succ]
            refine wpAnyH_ready (rs := [4]) (by kernel_rfl) (by simp) ?_
            refine AllReadyH.cons rfl (fun K hK => ?_) AllReadyH.nil
            go_simp
            have BW : Below w.heap.size w (x1.alloc (.cells #[.string kb, .int .i64 ab, .int .i64 rb, .string wb] 24)).drew := (HB.out.alloc HB.out.size _).drew
            have O1 := hide ((HO.out.alloc (.cells #[.string kb, .int .i64 ab, .int .i64 rb, .string wb] 24)).drew)
            have DB : Hid (NN (x1.alloc (.cells #[.string kb, .int .i64 ab, .int .i64 rb, .string wb] 24)).drew (some ⟨x1.heap.size, 0, none⟩) 1 [(kb, ab, rb, wb)]) := (RS.new encN_len x1 _ rfl [(kb, ab, rb, wb)] _ (by simp [encN]) 24 (0, 0) 1 rfl (by decide)).below (Below.refl _ _).drew
            generalize x1.heap.size = gw at DB ⊢
            generalize (x1.alloc (.cells #[.string kb, .int .i64 ab, .int .i64 rb, .string wb] 24)).drew = wk at DB O1 BW ⊢
            refine hK.out _ _ ?hs44 (fun hS1 => ?_)
            case hs44 => exact BW
            clear hK K
            try simp only [Act.put, List.setIfInBounds_toArray, List.set_cons_zero, List.set_cons_succ]
            refine wpAnyH_ready (rs := [5]) (by kernel_rfl) (by simp) ?_
            refine AllReadyH.cons rfl (fun K hK => ?_) AllReadyH.nil
            rw [if_pos (by kernel_rfl)]
            refine append_rg _ _ 22 rfl Try.underlying22 Try.infoNot rfl (by decide) (by decide) encN_len encN_one w.heap.size _ out [(kb, ab, rb, wb)] rfl O1.out (some ⟨gw, 0, none⟩) 1 1 rfl (fun h => by cases h) DB.out (by have h9 := HOL.out; rw [List.length_singleton]; omega) hS1.size ?_
            intro v5 w5 ho5 hg5 hbel5
            have BS5 := hbel5 _ hS1
            have O5 := hide ho5
            clear ho5 hbel5 hg5
            change K (Act.put _ (some 57) _) _
            refine hK.out _ _ ?hs45 (fun hS2 => ?_)
            case hs45 => exact BS5
            clear hK K
            try simp only [Act.put, List.setIfInBounds_toArray, List.set_cons_zero, List.set_cons_succ]
            refine takeInH 8 5 ?v46 rfl rfl (by kernel_rfl) (by kernel_rfl) (by kernel_rfl) (fun _ _ _ h => h) (by kernel_rfl) hS2 ?hy46 ?_
            case hy46 => (intro W hW; clear hW; go_simp; try rfl)
            simp only [Act.put, List.setIfInBounds_toArray, List.set_cons_zero, List.set_cons_succ]
            refine takeInH 9 1 ?v47 rfl rfl (by kernel_rfl) (by kernel_rfl) (by kernel_rfl) (fun _ _ _ h => h) (by kernel_rfl) hS2 ?hy47 ?_
            case hy47 => (intro W hW; clear hW; go_simp; try rfl)
            simp only [Act.put, List.setIfInBounds_toArray, List.set_cons_zero, List.set_cons_succ]
            refine wpAnyH_done (by kernel_rfl) ?_ _
            go_wp2
            go_roundw
            case rel => exact ⟨(some ⟨ba, oa, none⟩), na, ca, la, RB, (nb - 1), (cb - 1), (lb.drop 1), out ++ [(kb, ab, rb, wb)], rfl, rfl, by omega, by omega, HNA, HCA, HRB, HKB, O5, HG2, (show _ ≤ _ by have h9 := HOL.out; rw [List.length_append, List.length_singleton]; omega), (show Hid _ from hS2)⟩
            case measure => simp only [slN]; omega
        · have hc1 : cmpK ka kb < 0 := by rw [cmpK_lt, h1]
          have HG2 : Hid ((out ++ [(ka, aa, ra, wa)]) ++ mrgN (la.drop 1) lb = Fin) := by
            have h := HG.out
            rw [HLA.out, HLB.out, mrgN_lt h1, ← HLB.out] at h
            unfold Hid
            rw [List.append_assoc]
            exact h
          clear h1 HG HLA HLB
          have HCM := hide (Compare_any ka kb)
          generalize cmpK ka kb = z at *
          go_upto_region 3 with fail
          refine wp_region_held_drew (S := fun W => Below w.heap.size w W) (by kernel_rfl) (HB.out.drew) (fun hS0 => ?_)
          refine takeInH 0 15 ?v48 rfl rfl (by kernel_rfl) (by kernel_rfl) (by kernel_rfl) (fun _ _ _ h => h) (by kernel_rfl) hS0 ?hy48 ?_
          case hy48 => (intro W hW; clear hW; go_simp; try rfl)
          simp only [Act.put, List.setIfInBounds_toArray, List.set_cons_zero, List.set_cons_succ]
          refine takeInH 1 16 ?v49 rfl rfl (by kernel_rfl) (by kernel_rfl) (by kernel_rfl) (fun _ _ _ h => h) (by kernel_rfl) hS0 ?hy49 ?_
          case hy49 => (intro W hW; clear hW; go_simp; try rfl)
          simp only [Act.put, List.setIfInBounds_toArray, List.set_cons_zero, List.set_cons_succ]
          refine takeInH 2 17 ?v50 rfl rfl (by kernel_rfl) (by kernel_rfl) (by kernel_rfl) (fun _ _ _ h => h) (by kernel_rfl) hS0 ?hy50 ?_
          case hy50 => (intro W hW; clear hW; go_simp; try rfl)
          simp only [Act.put, List.setIfInBounds_toArray, List.set_cons_zero, List.set_cons_succ]
          refine takeInH 3 18 ?v51 rfl rfl (by kernel_rfl) (by kernel_rfl) (by kernel_rfl) (fun _ _ _ h => h) (by kernel_rfl) hS0 ?hy51 ?_
          case hy51 => (intro W hW; have e0 := bcell hW c0; have e1 := bcell hW d0; clear hW; go_simp; try rfl)
          simp only [Act.put, List.setIfInBounds_toArray, List.set_cons_zero, List.set_cons_succ]
          refine takeInH 4 19 ?v52 rfl rfl (by kernel_rfl) (by kernel_rfl) (by kernel_rfl) (fun _ _ _ h => h) (by kernel_rfl) hS0 ?hy52 ?_
          case hy52 => (intro W hW; clear hW; go_simp; try rfl)
          simp only [Act.put, List.setIfInBounds_toArray, List.set_cons_zero, List.set_cons_succ]
          refine takeInH 5 20 ?v53 rfl rfl (by kernel_rfl) (by kernel_rfl) (by kernel_rfl) (fun _ _ _ h => h) (by kernel_rfl) hS0 ?hy53 ?_
          case hy53 => (intro W hW; clear hW; go_simp; try rfl)
          simp only [Act.put, List.setIfInBounds_toArray, List.set_cons_zero, List.set_cons_succ]
          refine takeInH 6 21 ?v54 rfl rfl (by kernel_rfl) (by kernel_rfl) (by kernel_rfl) (fun _ _ _ h => h) (by kernel_rfl) hS0 ?hy54 ?_
          case hy54 => (intro W hW; clear hW; go_simp; try rfl)
          simp only [Act.put, List.setIfInBounds_toArray, List.set_cons_zero, List.set_cons_succ]
          refine takeInH 7 22 ?v55 rfl rfl (by kernel_rfl) (by kernel_rfl) (by kernel_rfl) (fun _ _ _ h => h) (by kernel_rfl) hS0 ?hy55 ?_
          case hy55 => (intro W hW; have e0 := bcell hW c0; have e1 := bcell hW d0; clear hW; go_simp; try rfl)
          simp only [Act.put, List.setIfInBounds_toArray, List.set_cons_zero, List.set_cons_succ]
          refine wpAnyH_ready (rs := [8]) (by kernel_rfl) (by simp) ?_
          refine AllReadyH.cons rfl (fun K hK => ?_) AllReadyH.nil
          go_simp
          refine (HCM.out _).mono ?_
          rintro e w' ⟨rfl, rfl⟩
          refine hK.out _ _ ?hs56 (fun hS1 => ?_)
          case hs56 => exact hS0
          clear hK K
          try simp only [Act.put, List.setIfInBounds_toArray, List.set_cons_zero, List.set_cons_succ]
          refine takeInH 9 6 ?v57 rfl rfl (by kernel_rfl) (by kernel_rfl) (by kernel_rfl) (fun _ _ _ h => h) (by kernel_rfl) hS1 ?hy57 ?_
          case hy57 => (intro W hW; clear hW; go_simp; try rfl)
          simp only [Act.put, List.setIfInBounds_toArray, List.set_cons_zero, List.set_cons_succ]
          refine wpAnyH_done (by kernel_rfl) ?_ _
          replace HO := hide HO.out.drew
          replace HB := hide hS1
          clear hS1
          generalize wr.drew = x1 at *
          go_upto_region 6 with fail
          refine wp_region_held_drew (S := fun W => Below w.heap.size w W) (by kernel_rfl) (HB.out.drew) (fun hS0 => ?_)
          refine takeInH 0 41 ?v58 rfl rfl (by kernel_rfl) (by kernel_rfl) (by kernel_rfl) (fun _ _ _ h => h) (by kernel_rfl) hS0 ?hy58 ?_
          case hy58 => (intro W hW; clear hW; go_simp; try rfl)
          simp only [Act.put, List.setIfInBounds_toArray, List.set_cons_zero, List.set_cons_succ]
          refine takeInH 1 42 ?v59 rfl rfl (by kernel_rfl) (by kernel_rfl) (by kernel_rfl) (fun _ _ _ h => h) (by kernel_rfl) hS0 ?hy59 ?_
          case hy59 => (intro W hW; clear hW; go_simp; try rfl)
          simp only [Act.put, List.setIfInBounds_toArray, List.set_cons_zero, List.set_cons_succ]
          refine takeInH 2 43 ?v60 rfl rfl (by kernel_rfl) (by kernel_rfl) (by kernel_rfl) (fun _ _ _ h => h) (by kernel_rfl) hS0 ?hy60 ?_
          case hy60 => (intro W hW; clear hW; go_simp; try rfl)
          simp only [Act.put, List.setIfInBounds_toArray, List.set_cons_zero, List.set_cons_succ]
          refine takeInH 3 44 ?v61 rfl rfl (by kernel_rfl) (by kernel_rfl) (by kernel_rfl) (fun _ _ _ h => h) (by kernel_rfl) hS0 ?hy61 ?_
          case hy61 => (intro W hW; have e0 := bcell hW c0; have e1 := bcell hW c1; have e2 := bcell hW c2; have e3 := bcell hW c3; clear hW; go_simp; try rfl)
          simp only [Act.put, List.setIfInBounds_toArray, List.set_cons_zero, List.set_cons_succ]
          refine takeInH 6 47 ?v62 rfl rfl (by kernel_rfl) (by kernel_rfl) (by kernel_rfl) (fun _ _ _ h => h) (by kernel_rfl) hS0 ?hy62 ?_
          case hy62 => (intro W hW; clear hW; go_simp; try rfl)
          simp only [Act.put, List.setIfInBounds_toArray, List.set_cons_zero, List.set_cons_succ]
          refine takeInH 7 48 ?v63 rfl rfl (by kernel_rfl) (by kernel_rfl) (by kernel_rfl) (fun _ _ _ h => h) (by kernel_rfl) hS0 ?hy63 ?_
          case hy63 => (intro W hW; clear hW; go_simp; try rfl)
          simp only [Act.put, List.setIfInBounds_toArray, List.set_cons_zero, List.set_cons_succ]
          refine wpAnyH_ready (rs := [4]) (by kernel_rfl) (by simp) ?_
          refine AllReadyH.cons rfl (fun K hK => ?_) AllReadyH.nil
          go_simp
          have BW : Below w.heap.size w (x1.alloc (.cells #[.string ka, .int .i64 aa, .int .i64 ra, .string wa] 24)).drew := (HB.out.alloc HB.out.size _).drew
          have O1 := hide ((HO.out.alloc (.cells #[.string ka, .int .i64 aa, .int .i64 ra, .string wa] 24)).drew)
          have DB : Hid (NN (x1.alloc (.cells #[.string ka, .int .i64 aa, .int .i64 ra, .string wa] 24)).drew (some ⟨x1.heap.size, 0, none⟩) 1 [(ka, aa, ra, wa)]) := (RS.new encN_len x1 _ rfl [(ka, aa, ra, wa)] _ (by simp [encN]) 24 (0, 0) 1 rfl (by decide)).below (Below.refl _ _).drew
          generalize x1.heap.size = gw at DB ⊢
          generalize (x1.alloc (.cells #[.string ka, .int .i64 aa, .int .i64 ra, .string wa] 24)).drew = wk at DB O1 BW ⊢
          refine hK.out _ _ ?hs64 (fun hS1 => ?_)
          case hs64 => exact BW
          clear hK K
          try simp only [Act.put, List.setIfInBounds_toArray, List.set_cons_zero, List.set_cons_succ]
          refine wpAnyH_ready (rs := [5]) (by kernel_rfl) (by simp) ?_
          refine AllReadyH.cons rfl (fun K hK => ?_) AllReadyH.nil
          rw [if_pos (by kernel_rfl)]
          refine append_rg _ _ 22 rfl Try.underlying22 Try.infoNot rfl (by decide) (by decide) encN_len encN_one w.heap.size _ out [(ka, aa, ra, wa)] rfl O1.out (some ⟨gw, 0, none⟩) 1 1 rfl (fun h => by cases h) DB.out (by have h9 := HOL.out; rw [List.length_singleton]; omega) hS1.size ?_
          intro v5 w5 ho5 hg5 hbel5
          have BS5 := hbel5 _ hS1
          have O5 := hide ho5
          clear ho5 hbel5 hg5
          change K (Act.put _ (some 46) _) _
          refine hK.out _ _ ?hs65 (fun hS2 => ?_)
          case hs65 => exact BS5
          clear hK K
          try simp only [Act.put, List.setIfInBounds_toArray, List.set_cons_zero, List.set_cons_succ]
          refine takeInH 8 5 ?v66 rfl rfl (by kernel_rfl) (by kernel_rfl) (by kernel_rfl) (fun _ _ _ h => h) (by kernel_rfl) hS2 ?hy66 ?_
          case hy66 => (intro W hW; clear hW; go_simp; try rfl)
          simp only [Act.put, List.setIfInBounds_toArray, List.set_cons_zero, List.set_cons_succ]
          refine takeInH 9 0 ?v67 rfl rfl (by kernel_rfl) (by kernel_rfl) (by kernel_rfl) (fun _ _ _ h => h) (by kernel_rfl) hS2 ?hy67 ?_
          case hy67 => (intro W hW; clear hW; go_simp; try rfl)
          simp only [Act.put, List.setIfInBounds_toArray, List.set_cons_zero]
          refine wpAnyH_done (by kernel_rfl) ?_ _
          go_wp2
          go_roundw
          case rel => exact ⟨RA, (na - 1), (ca - 1), (la.drop 1), (some ⟨bb, ob, none⟩), nb, cb, lb, out ++ [(ka, aa, ra, wa)], rfl, rfl, by omega, by omega, HRA, HKA, HNB, HCB, O5, HG2, (show _ ≤ _ by have h9 := HOL.out; rw [List.length_append, List.length_singleton]; omega), (show Hid _ from hS2)⟩
          case measure => simp only [slN]; omega
end Go.Proofs.Ytohkopjacpendaa
