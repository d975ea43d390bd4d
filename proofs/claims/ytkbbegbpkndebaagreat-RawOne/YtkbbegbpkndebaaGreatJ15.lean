/- Texts of this claim, joined: B5. -/
import Derived.Test.YtkbbegbpkndebaaGreatJ10
/- Are sets alike: the document's answer and the program's (layer 8). -/
namespace Go.Proofs.YtkbbegbpkndebaaGreat
open Go.RowKit Go.Lib
set_option linter.unusedVariables false
theorem same_step {s t : List En} {k : Nat} {x : En} (hx : s[k]? = some x) (hy : t[k]? = some x) (h : s.take k = t.take k) : s.take (k + 1) = t.take (k + 1) := by rw [take_snocL hx, take_snocL hy, h]
theorem same_no {s t : List En} {k : Nat} {x y : En} (hx : s[k]? = some x) (hy : t[k]? = some y) (h : x ≠ y) : decide (s = t) = false := by
  rw [decide_eq_false_iff_not]
  rintro rfl
  rw [hx] at hy
  cases hy
  exact h rfl
theorem same_len {s t : List En} (h : s.length ≠ t.length) : decide (s = t) = false := by
  rw [decide_eq_false_iff_not]
  rintro rfl
  exact h rfl
set_option maxHeartbeats 8000000 in
theorem SameS_ref (a : Option Addr) (n cap : Nat) (s : List En) (a' : Option Addr) (n' cap' : Nat) (t : List En) (w : World) (hA : NSS w a n s) (hA' : NSS w a' n' t) : Calls Tryz.prog 71 #[.slice a n cap, .slice a' n' cap'] w fun e w' => e = .returned (.bool (decide (s = t))) ∧ Below w.heap.size w w' := by
  have HV := hide hA
  have HV' := hide hA'
  have HLEN := hide hA.len
  have HLEN' := hide hA'.len
  have hmx := hA.max
  unfold maxLen at hmx
  clear hA hA'
  by_cases hnn : n = n'
  · subst hnn
    go_enter Tryz.func71, Tryz.ntmps71
    go_wp2
    go_loopw [5] (fun i wr => ∃ k : Nat, k ≤ n ∧ i = .int .i64 k ∧ Hid (s.take k = t.take k) ∧ Hid (Below w.heap.size w wr)) (fun i _ => n - (intOf i).toNat)
    case atStart => exact ⟨0, by omega, rfl, (show s.take 0 = t.take 0 by simp), Below.refl _ _⟩
    case round =>
      obtain ⟨k0, hk, rfl, HF, HB⟩ := hrel
      by_cases hlt : k0 < n
      · obtain ⟨b, off, rfl⟩ := HV.out.addr (by omega)
        obtain ⟨b', off', rfl⟩ := HV'.out.addr (by omega)
        obtain ⟨k, pl, nl, cl, pd, nd, cd, ll, mm, hx, c0, c1, c2, h1, _, h3, _⟩ := (HV.out.below HB.out).at k0 hlt
        obtain ⟨k', pl', nl', cl', pd', nd', cd', ll', mm', hx', d0, d1, d2, h1', _, h3', _⟩ := (HV'.out.below HB.out).at k0 hlt
        have HX := hide hx
        have HX' := hide hx'
        have HL := hide h1
        have HD := hide h3
        have HL' := hide h1'
        have HD' := hide h3'
        have hk0 : (0 : Int) ≤ (k0 : Int) := by omega
        have hk1 : (k0 : Int) < (n : Int) := by omega
        have hq := eqK k k'
        clear hx hx' h1 h3 h1' h3'
        by_cases he : k = k'
        · rw [decide_eq_true he] at hq
          rcases he1 : decide (ll = ll') with _ | _
          · have HE1 := hide he1
            have HNO := hide (same_no HX.out HX'.out (fun e => by rw [decide_eq_false_iff_not] at he1; exact he1 (congrArg (fun x => x.2.1) e)))
            clear he he1
            go_upto_region 6 with fail
            refine wp_region_held_drew (S := fun W => Below wr.heap.size wr W) (by kernel_rfl) ((Below.refl _ wr).drew) (fun hS0 => ?_)
            refine tkI 0 17 ?v16 rfl rfl hS0 ?hy16 ?_
            case hy16 => (intro W hW; clear hW; go_simp; try rfl)
            simp only [ly]
            refine tkI 1 18 ?v17 rfl rfl hS0 ?hy17 ?_
            case hy17 => (intro W hW; clear hW; go_simp; try rfl)
            simp only [ly]
            refine tkI 2 19 ?v18 rfl rfl hS0 ?hy18 ?_
            case hy18 => (intro W hW; clear hW; go_simp; try rfl)
            simp only [ly]
            refine tkI 3 20 ?v19 rfl rfl hS0 ?hy19 ?_
            case hy19 => (intro W hW; clear hW; go_simp; try rfl)
            simp only [ly]
            refine tkI 4 21 ?v20 rfl rfl hS0 ?hy20 ?_
            case hy20 => (intro W hW; have e0 := bcell hW c0; have e1 := bcell hW c1; have e2 := bcell hW c2; have e3 := bcell hW d0; have e4 := bcell hW d1; have e5 := bcell hW d2; clear hW; go_simp; try rfl)
            simp only [ly]
            refine tkI 5 22 ?v21 rfl rfl hS0 ?hy21 ?_
            case hy21 => (intro W hW; clear hW; go_simp; try rfl)
            simp only [ly]
            refine tkI 6 23 ?v22 rfl rfl hS0 ?hy22 ?_
            case hy22 => (intro W hW; clear hW; go_simp; try rfl)
            simp only [ly]
            refine tkI 7 24 ?v23 rfl rfl hS0 ?hy23 ?_
            case hy23 => (intro W hW; clear hW; go_simp; try rfl)
            simp only [ly]
            refine tkI 8 25 ?v24 rfl rfl hS0 ?hy24 ?_
            case hy24 => (intro W hW; clear hW; go_simp; try rfl)
            simp only [ly]
            refine tkI 9 26 ?v25 rfl rfl hS0 ?hy25 ?_
            case hy25 => (intro W hW; have e0 := bcell hW c0; have e1 := bcell hW c1; have e2 := bcell hW c2; have e3 := bcell hW d0; have e4 := bcell hW d1; have e5 := bcell hW d2; clear hW; go_simp; try rfl)
            simp only [ly]
            refine tkI 10 27 ?v26 rfl rfl hS0 ?hy26 ?_
            case hy26 => (intro W hW; clear hW; go_simp; try rfl)
            simp only [ly]
            refine tkI 11 28 ?v27 rfl rfl hS0 ?hy27 ?_
            case hy27 => (intro W hW; clear hW; go_simp; try rfl)
            simp only [ly]
            refine tkI 12 29 ?v28 rfl rfl hS0 ?hy28 ?_
            case hy28 => (intro W hW; clear hW; go_simp; try rfl)
            simp only [ly]
            refine tkI 13 30 ?v29 rfl rfl hS0 ?hy29 ?_
            case hy29 => (intro W hW; clear hW; go_simp; try rfl)
            simp only [ly]
            refine tkI 14 31 ?v30 rfl rfl hS0 ?hy30 ?_
            case hy30 => (intro W hW; clear hW; go_simp; try rfl)
            simp only [ly]
            refine tkI 15 32 ?v31 rfl rfl hS0 ?hy31 ?_
            case hy31 => (intro W hW; clear hW; go_simp; try rfl)
            simp only [ly]
            refine tkI 16 33 ?v32 rfl rfl hS0 ?hy32 ?_
            case hy32 => (intro W hW; have e0 := bcell hW c0; have e1 := bcell hW c1; have e2 := bcell hW c2; have e3 := bcell hW d0; have e4 := bcell hW d1; have e5 := bcell hW d2; clear hW; go_simp; try rfl)
            simp only [ly]
            refine tkI 17 34 ?v33 rfl rfl hS0 ?hy33 ?_
            case hy33 => (intro W hW; clear hW; go_simp; try rfl)
            simp only [ly]
            refine tkI 18 35 ?v34 rfl rfl hS0 ?hy34 ?_
            case hy34 => (intro W hW; clear hW; go_simp; try rfl)
            simp only [ly]
            refine tkI 19 36 ?v35 rfl rfl hS0 ?hy35 ?_
            case hy35 => (intro W hW; clear hW; go_simp; try rfl)
            simp only [ly]
            refine tkI 20 37 ?v36 rfl rfl hS0 ?hy36 ?_
            case hy36 => (intro W hW; clear hW; go_simp; try rfl)
            simp only [ly]
            refine tkI 21 38 ?v37 rfl rfl hS0 ?hy37 ?_
            case hy37 => (intro W hW; have e0 := bcell hW c0; have e1 := bcell hW c1; have e2 := bcell hW c2; have e3 := bcell hW d0; have e4 := bcell hW d1; have e5 := bcell hW d2; clear hW; go_simp; try rfl)
            simp only [ly]
            refine wpAnyH_ready (rs := [22]) (by kernel_rfl) (by simp) ?_
            refine AllReadyH.cons rfl (fun K hK => ?_) AllReadyH.nil
            go_simp
            refine (Dots_any pl pl' nl cl nl' cl' ll ll' _ (HL.out.below hS0) (HL'.out.below hS0)).mono ?_
            rintro e w' ⟨rfl, hb⟩
            rw [show decide (ll = ll') = false from HE1.out]
            refine hK.out _ _ ?hs38 (fun hS1 => ?_)
            case hs38 => exact bel_next hS0 hb
            clear hK K hb
            try simp only [ly]
            refine tkI 23 40 ?v39 rfl rfl hS1 ?hy39 ?_
            case hy39 => (intro W hW; clear hW; go_simp; try rfl)
            simp only [ly]
            refine tkI 24 41 ?v40 rfl rfl hS1 ?hy40 ?_
            case hy40 => (intro W hW; clear hW; go_simp; try rfl)
            simp only [ly]
            refine tkI 25 42 ?v41 rfl rfl hS1 ?hy41 ?_
            case hy41 => (intro W hW; clear hW; go_simp; try rfl)
            simp only [ly]
            refine tkN 26 43 rfl rfl hS1 ?_
            simp only [ly]
            refine tkN 27 44 rfl rfl hS1 ?_
            simp only [ly]
            refine tkN 28 45 rfl rfl hS1 ?_
            simp only [ly]
            refine tkN 29 46 rfl rfl hS1 ?_
            simp only [ly]
            refine tkN 30 47 rfl rfl hS1 ?_
            simp only [ly]
            refine tkN 31 48 rfl rfl hS1 ?_
            simp only [ly]
            refine tkN 32 49 rfl rfl hS1 ?_
            simp only [ly]
            refine tkN 33 50 rfl rfl hS1 ?_
            simp only [ly]
            refine tkN 34 51 rfl rfl hS1 ?_
            simp only [ly]
            refine tkN 35 52 rfl rfl hS1 ?_
            simp only [ly]
            refine tkN 36 53 rfl rfl hS1 ?_
            simp only [ly]
            refine tkN 37 54 rfl rfl hS1 ?_
            simp only [ly]
            refine tkI 38 55 ?v42 rfl rfl hS1 ?hy42 ?_
            case hy42 => (intro W hW; clear hW; go_simp; try rfl)
            simp only [ly]
            refine wpAnyH_done (by kernel_rfl) ?_ _
            go_wp2
            go_ret
            exact ⟨by rw [HNO.out]; rfl, bel_next HB.out hS1⟩
          · have HE1 := hide he1
            rcases he2 : decide (mm = mm') with _ | _
            · have HE2 := hide he2
              have HNO := hide (same_no HX.out HX'.out (fun e => by rw [decide_eq_false_iff_not] at he2; exact he2 (congrArg (fun x => x.2.2) e)))
              clear he he1 he2
              go_upto_region 6 with fail
              refine wp_region_held_drew (S := fun W => Below wr.heap.size wr W) (by kernel_rfl) ((Below.refl _ wr).drew) (fun hS0 => ?_)
              refine tkI 0 17 ?v43 rfl rfl hS0 ?hy43 ?_
              case hy43 => (intro W hW; clear hW; go_simp; try rfl)
              simp only [ly]
              refine tkI 1 18 ?v44 rfl rfl hS0 ?hy44 ?_
              case hy44 => (intro W hW; clear hW; go_simp; try rfl)
              simp only [ly]
              refine tkI 2 19 ?v45 rfl rfl hS0 ?hy45 ?_
              case hy45 => (intro W hW; clear hW; go_simp; try rfl)
              simp only [ly]
              refine tkI 3 20 ?v46 rfl rfl hS0 ?hy46 ?_
              case hy46 => (intro W hW; clear hW; go_simp; try rfl)
              simp only [ly]
              refine tkI 4 21 ?v47 rfl rfl hS0 ?hy47 ?_
              case hy47 => (intro W hW; have e0 := bcell hW c0; have e1 := bcell hW c1; have e2 := bcell hW c2; have e3 := bcell hW d0; have e4 := bcell hW d1; have e5 := bcell hW d2; clear hW; go_simp; try rfl)
              simp only [ly]
              refine tkI 5 22 ?v48 rfl rfl hS0 ?hy48 ?_
              case hy48 => (intro W hW; clear hW; go_simp; try rfl)
              simp only [ly]
              refine tkI 6 23 ?v49 rfl rfl hS0 ?hy49 ?_
              case hy49 => (intro W hW; clear hW; go_simp; try rfl)
              simp only [ly]
              refine tkI 7 24 ?v50 rfl rfl hS0 ?hy50 ?_
              case hy50 => (intro W hW; clear hW; go_simp; try rfl)
              simp only [ly]
              refine tkI 8 25 ?v51 rfl rfl hS0 ?hy51 ?_
              case hy51 => (intro W hW; clear hW; go_simp; try rfl)
              simp only [ly]
              refine tkI 9 26 ?v52 rfl rfl hS0 ?hy52 ?_
              case hy52 => (intro W hW; have e0 := bcell hW c0; have e1 := bcell hW c1; have e2 := bcell hW c2; have e3 := bcell hW d0; have e4 := bcell hW d1; have e5 := bcell hW d2; clear hW; go_simp; try rfl)
              simp only [ly]
              refine tkI 10 27 ?v53 rfl rfl hS0 ?hy53 ?_
              case hy53 => (intro W hW; clear hW; go_simp; try rfl)
              simp only [ly]
              refine tkI 11 28 ?v54 rfl rfl hS0 ?hy54 ?_
              case hy54 => (intro W hW; clear hW; go_simp; try rfl)
              simp only [ly]
              refine tkI 12 29 ?v55 rfl rfl hS0 ?hy55 ?_
              case hy55 => (intro W hW; clear hW; go_simp; try rfl)
              simp only [ly]
              refine tkI 13 30 ?v56 rfl rfl hS0 ?hy56 ?_
              case hy56 => (intro W hW; clear hW; go_simp; try rfl)
              simp only [ly]
              refine tkI 14 31 ?v57 rfl rfl hS0 ?hy57 ?_
              case hy57 => (intro W hW; clear hW; go_simp; try rfl)
              simp only [ly]
              refine tkI 15 32 ?v58 rfl rfl hS0 ?hy58 ?_
              case hy58 => (intro W hW; clear hW; go_simp; try rfl)
              simp only [ly]
              refine tkI 16 33 ?v59 rfl rfl hS0 ?hy59 ?_
              case hy59 => (intro W hW; have e0 := bcell hW c0; have e1 := bcell hW c1; have e2 := bcell hW c2; have e3 := bcell hW d0; have e4 := bcell hW d1; have e5 := bcell hW d2; clear hW; go_simp; try rfl)
              simp only [ly]
              refine tkI 17 34 ?v60 rfl rfl hS0 ?hy60 ?_
              case hy60 => (intro W hW; clear hW; go_simp; try rfl)
              simp only [ly]
              refine tkI 18 35 ?v61 rfl rfl hS0 ?hy61 ?_
              case hy61 => (intro W hW; clear hW; go_simp; try rfl)
              simp only [ly]
              refine tkI 19 36 ?v62 rfl rfl hS0 ?hy62 ?_
              case hy62 => (intro W hW; clear hW; go_simp; try rfl)
              simp only [ly]
              refine tkI 20 37 ?v63 rfl rfl hS0 ?hy63 ?_
              case hy63 => (intro W hW; clear hW; go_simp; try rfl)
              simp only [ly]
              refine tkI 21 38 ?v64 rfl rfl hS0 ?hy64 ?_
              case hy64 => (intro W hW; have e0 := bcell hW c0; have e1 := bcell hW c1; have e2 := bcell hW c2; have e3 := bcell hW d0; have e4 := bcell hW d1; have e5 := bcell hW d2; clear hW; go_simp; try rfl)
              simp only [ly]
              refine wpAnyH_ready (rs := [22]) (by kernel_rfl) (by simp) ?_
              refine AllReadyH.cons rfl (fun K hK => ?_) AllReadyH.nil
              go_simp
              refine (Dots_any pl pl' nl cl nl' cl' ll ll' _ (HL.out.below hS0) (HL'.out.below hS0)).mono ?_
              rintro e w' ⟨rfl, hb⟩
              rw [show decide (ll = ll') = true from HE1.out]
              refine hK.out _ _ ?hs65 (fun hS1 => ?_)
              case hs65 => exact bel_next hS0 hb
              clear hK K hb
              try simp only [ly]
              refine tkI 23 40 ?v66 rfl rfl hS1 ?hy66 ?_
              case hy66 => (intro W hW; clear hW; go_simp; try rfl)
              simp only [ly]
              refine tkI 24 41 ?v67 rfl rfl hS1 ?hy67 ?_
              case hy67 => (intro W hW; clear hW; go_simp; try rfl)
              simp only [ly]
              refine tkI 25 42 ?v68 rfl rfl hS1 ?hy68 ?_
              case hy68 => (intro W hW; clear hW; go_simp; try rfl)
              simp only [ly]
              refine tkI 26 43 ?v69 rfl rfl hS1 ?hy69 ?_
              case hy69 => (intro W hW; clear hW; go_simp; try rfl)
              simp only [ly]
              refine tkI 27 44 ?v70 rfl rfl hS1 ?hy70 ?_
              case hy70 => (intro W hW; clear hW; go_simp; try rfl)
              simp only [ly]
              refine tkI 28 45 ?v71 rfl rfl hS1 ?hy71 ?_
              case hy71 => (intro W hW; clear hW; go_simp; try rfl)
              simp only [ly]
              refine tkI 29 46 ?v72 rfl rfl hS1 ?hy72 ?_
              case hy72 => (intro W hW; clear hW; go_simp; try rfl)
              simp only [ly]
              refine tkI 30 47 ?v73 rfl rfl hS1 ?hy73 ?_
              case hy73 => (intro W hW; have e0 := bcell hW c0; have e1 := bcell hW c1; have e2 := bcell hW c2; have e3 := bcell hW d0; have e4 := bcell hW d1; have e5 := bcell hW d2; clear hW; go_simp; try rfl)
              simp only [ly]
              refine tkI 31 48 ?v74 rfl rfl hS1 ?hy74 ?_
              case hy74 => (intro W hW; clear hW; go_simp; try rfl)
              simp only [ly]
              refine tkI 32 49 ?v75 rfl rfl hS1 ?hy75 ?_
              case hy75 => (intro W hW; clear hW; go_simp; try rfl)
              simp only [ly]
              refine tkI 33 50 ?v76 rfl rfl hS1 ?hy76 ?_
              case hy76 => (intro W hW; clear hW; go_simp; try rfl)
              simp only [ly]
              refine tkI 34 51 ?v77 rfl rfl hS1 ?hy77 ?_
              case hy77 => (intro W hW; clear hW; go_simp; try rfl)
              simp only [ly]
              refine tkI 35 52 ?v78 rfl rfl hS1 ?hy78 ?_
              case hy78 => (intro W hW; have e0 := bcell hW c0; have e1 := bcell hW c1; have e2 := bcell hW c2; have e3 := bcell hW d0; have e4 := bcell hW d1; have e5 := bcell hW d2; clear hW; go_simp; try rfl)
              simp only [ly]
              refine wpAnyH_ready (rs := [36]) (by kernel_rfl) (by simp) ?_
              refine AllReadyH.cons rfl (fun K hK => ?_) AllReadyH.nil
              go_simp
              refine (Dots_any pd pd' nd cd nd' cd' mm mm' _ (HD.out.below hS1) (HD'.out.below hS1)).mono ?_
              rintro e w' ⟨rfl, hb⟩
              rw [show decide (mm = mm') = false from HE2.out]
              refine hK.out _ _ ?hs79 (fun hS2 => ?_)
              case hs79 => exact bel_next hS1 hb
              clear hK K hb
              try simp only [ly]
              refine tkI 37 54 ?v80 rfl rfl hS2 ?hy80 ?_
              case hy80 => (intro W hW; clear hW; go_simp; try rfl)
              simp only [ly]
              refine tkI 38 55 ?v81 rfl rfl hS2 ?hy81 ?_
              case hy81 => (intro W hW; clear hW; go_simp; try rfl)
              simp only [ly]
              refine wpAnyH_done (by kernel_rfl) ?_ _
              go_wp2
              go_ret
              exact ⟨by rw [HNO.out]; rfl, bel_next HB.out hS2⟩
            · have HE2 := hide he2
              have HF2 : Hid (s.take (k0 + 1) = t.take (k0 + 1)) := by
                rw [decide_eq_true_iff] at he1 he2
                refine same_step HX.out ?_ HF.out
                rw [HX'.out, he, he1, he2]
              clear he he1 he2
              go_upto_region 6 with fail
              refine wp_region_held_drew (S := fun W => Below wr.heap.size wr W) (by kernel_rfl) ((Below.refl _ wr).drew) (fun hS0 => ?_)
              refine tkI 0 17 ?v82 rfl rfl hS0 ?hy82 ?_
              case hy82 => (intro W hW; clear hW; go_simp; try rfl)
              simp only [ly]
              refine tkI 1 18 ?v83 rfl rfl hS0 ?hy83 ?_
              case hy83 => (intro W hW; clear hW; go_simp; try rfl)
              simp only [ly]
              refine tkI 2 19 ?v84 rfl rfl hS0 ?hy84 ?_
              case hy84 => (intro W hW; clear hW; go_simp; try rfl)
              simp only [ly]
              refine tkI 3 20 ?v85 rfl rfl hS0 ?hy85 ?_
              case hy85 => (intro W hW; clear hW; go_simp; try rfl)
              simp only [ly]
              refine tkI 4 21 ?v86 rfl rfl hS0 ?hy86 ?_
              case hy86 => (intro W hW; have e0 := bcell hW c0; have e1 := bcell hW c1; have e2 := bcell hW c2; have e3 := bcell hW d0; have e4 := bcell hW d1; have e5 := bcell hW d2; clear hW; go_simp; try rfl)
              simp only [ly]
              refine tkI 5 22 ?v87 rfl rfl hS0 ?hy87 ?_
              case hy87 => (intro W hW; clear hW; go_simp; try rfl)
              simp only [ly]
              refine tkI 6 23 ?v88 rfl rfl hS0 ?hy88 ?_
              case hy88 => (intro W hW; clear hW; go_simp; try rfl)
              simp only [ly]
              refine tkI 7 24 ?v89 rfl rfl hS0 ?hy89 ?_
              case hy89 => (intro W hW; clear hW; go_simp; try rfl)
              simp only [ly]
              refine tkI 8 25 ?v90 rfl rfl hS0 ?hy90 ?_
              case hy90 => (intro W hW; clear hW; go_simp; try rfl)
              simp only [ly]
              refine tkI 9 26 ?v91 rfl rfl hS0 ?hy91 ?_
              case hy91 => (intro W hW; have e0 := bcell hW c0; have e1 := bcell hW c1; have e2 := bcell hW c2; have e3 := bcell hW d0; have e4 := bcell hW d1; have e5 := bcell hW d2; clear hW; go_simp; try rfl)
              simp only [ly]
              refine tkI 10 27 ?v92 rfl rfl hS0 ?hy92 ?_
              case hy92 => (intro W hW; clear hW; go_simp; try rfl)
              simp only [ly]
              refine tkI 11 28 ?v93 rfl rfl hS0 ?hy93 ?_
              case hy93 => (intro W hW; clear hW; go_simp; try rfl)
              simp only [ly]
              refine tkI 12 29 ?v94 rfl rfl hS0 ?hy94 ?_
              case hy94 => (intro W hW; clear hW; go_simp; try rfl)
              simp only [ly]
              refine tkI 13 30 ?v95 rfl rfl hS0 ?hy95 ?_
              case hy95 => (intro W hW; clear hW; go_simp; try rfl)
              simp only [ly]
              refine tkI 14 31 ?v96 rfl rfl hS0 ?hy96 ?_
              case hy96 => (intro W hW; clear hW; go_simp; try rfl)
              simp only [ly]
              refine tkI 15 32 ?v97 rfl rfl hS0 ?hy97 ?_
              case hy97 => (intro W hW; clear hW; go_simp; try rfl)
              simp only [ly]
              refine tkI 16 33 ?v98 rfl rfl hS0 ?hy98 ?_
              case hy98 => (intro W hW; have e0 := bcell hW c0; have e1 := bcell hW c1; have e2 := bcell hW c2; have e3 := bcell hW d0; have e4 := bcell hW d1; have e5 := bcell hW d2; clear hW; go_simp; try rfl)
              simp only [ly]
              refine tkI 17 34 ?v99 rfl rfl hS0 ?hy99 ?_
              case hy99 => (intro W hW; clear hW; go_simp; try rfl)
              simp only [ly]
              refine tkI 18 35 ?v100 rfl rfl hS0 ?hy100 ?_
              case hy100 => (intro W hW; clear hW; go_simp; try rfl)
              simp only [ly]
              refine tkI 19 36 ?v101 rfl rfl hS0 ?hy101 ?_
              case hy101 => (intro W hW; clear hW; go_simp; try rfl)
              simp only [ly]
              refine tkI 20 37 ?v102 rfl rfl hS0 ?hy102 ?_
              case hy102 => (intro W hW; clear hW; go_simp; try rfl)
              simp only [ly]
              refine tkI 21 38 ?v103 rfl rfl hS0 ?hy103 ?_
              case hy103 => (intro W hW; have e0 := bcell hW c0; have e1 := bcell hW c1; have e2 := bcell hW c2; have e3 := bcell hW d0; have e4 := bcell hW d1; have e5 := bcell hW d2; clear hW; go_simp; try rfl)
              simp only [ly]
              refine wpAnyH_ready (rs := [22]) (by kernel_rfl) (by simp) ?_
              refine AllReadyH.cons rfl (fun K hK => ?_) AllReadyH.nil
              go_simp
              refine (Dots_any pl pl' nl cl nl' cl' ll ll' _ (HL.out.below hS0) (HL'.out.below hS0)).mono ?_
              rintro e w' ⟨rfl, hb⟩
              rw [show decide (ll = ll') = true from HE1.out]
              refine hK.out _ _ ?hs104 (fun hS1 => ?_)
              case hs104 => exact bel_next hS0 hb
              clear hK K hb
              try simp only [ly]
              refine tkI 23 40 ?v105 rfl rfl hS1 ?hy105 ?_
              case hy105 => (intro W hW; clear hW; go_simp; try rfl)
              simp only [ly]
              refine tkI 24 41 ?v106 rfl rfl hS1 ?hy106 ?_
              case hy106 => (intro W hW; clear hW; go_simp; try rfl)
              simp only [ly]
              refine tkI 25 42 ?v107 rfl rfl hS1 ?hy107 ?_
              case hy107 => (intro W hW; clear hW; go_simp; try rfl)
              simp only [ly]
              refine tkI 26 43 ?v108 rfl rfl hS1 ?hy108 ?_
              case hy108 => (intro W hW; clear hW; go_simp; try rfl)
              simp only [ly]
              refine tkI 27 44 ?v109 rfl rfl hS1 ?hy109 ?_
              case hy109 => (intro W hW; clear hW; go_simp; try rfl)
              simp only [ly]
              refine tkI 28 45 ?v110 rfl rfl hS1 ?hy110 ?_
              case hy110 => (intro W hW; clear hW; go_simp; try rfl)
              simp only [ly]
              refine tkI 29 46 ?v111 rfl rfl hS1 ?hy111 ?_
              case hy111 => (intro W hW; clear hW; go_simp; try rfl)
              simp only [ly]
              refine tkI 30 47 ?v112 rfl rfl hS1 ?hy112 ?_
              case hy112 => (intro W hW; have e0 := bcell hW c0; have e1 := bcell hW c1; have e2 := bcell hW c2; have e3 := bcell hW d0; have e4 := bcell hW d1; have e5 := bcell hW d2; clear hW; go_simp; try rfl)
              simp only [ly]
              refine tkI 31 48 ?v113 rfl rfl hS1 ?hy113 ?_
              case hy113 => (intro W hW; clear hW; go_simp; try rfl)
              simp only [ly]
              refine tkI 32 49 ?v114 rfl rfl hS1 ?hy114 ?_
              case hy114 => (intro W hW; clear hW; go_simp; try rfl)
              simp only [ly]
              refine tkI 33 50 ?v115 rfl rfl hS1 ?hy115 ?_
              case hy115 => (intro W hW; clear hW; go_simp; try rfl)
              simp only [ly]
              refine tkI 34 51 ?v116 rfl rfl hS1 ?hy116 ?_
              case hy116 => (intro W hW; clear hW; go_simp; try rfl)
              simp only [ly]
              refine tkI 35 52 ?v117 rfl rfl hS1 ?hy117 ?_
              case hy117 => (intro W hW; have e0 := bcell hW c0; have e1 := bcell hW c1; have e2 := bcell hW c2; have e3 := bcell hW d0; have e4 := bcell hW d1; have e5 := bcell hW d2; clear hW; go_simp; try rfl)
              simp only [ly]
              refine wpAnyH_ready (rs := [36]) (by kernel_rfl) (by simp) ?_
              refine AllReadyH.cons rfl (fun K hK => ?_) AllReadyH.nil
              go_simp
              refine (Dots_any pd pd' nd cd nd' cd' mm mm' _ (HD.out.below hS1) (HD'.out.below hS1)).mono ?_
              rintro e w' ⟨rfl, hb⟩
              rw [show decide (mm = mm') = true from HE2.out]
              refine hK.out _ _ ?hs118 (fun hS2 => ?_)
              case hs118 => exact bel_next hS1 hb
              clear hK K hb
              try simp only [ly]
              refine tkI 37 54 ?v119 rfl rfl hS2 ?hy119 ?_
              case hy119 => (intro W hW; clear hW; go_simp; try rfl)
              simp only [ly]
              refine tkI 38 55 ?v120 rfl rfl hS2 ?hy120 ?_
              case hy120 => (intro W hW; clear hW; go_simp; try rfl)
              simp only [ly]
              refine wpAnyH_done (by kernel_rfl) ?_ _
              go_wp2
              go_roundw
              case rel => exact ⟨k0 + 1, by omega, by go_num, HF2, (show Hid _ from bel_next HB.out hS2)⟩
              case measure => simp [intOf]; omega
        · rw [decide_eq_false he] at hq
          have HNO := hide (same_no HX.out HX'.out (fun e => he (congrArg (fun x => x.1) e)))
          clear he
          go_upto_region 6 with fail
          refine wp_region_held_drew (S := fun W => Below wr.heap.size wr W) (by kernel_rfl) ((Below.refl _ wr).drew) (fun hS0 => ?_)
          refine tkI 0 17 ?v1 rfl rfl hS0 ?hy1 ?_
          case hy1 => (intro W hW; clear hW; go_simp; try rfl)
          simp only [ly]
          refine tkI 1 18 ?v2 rfl rfl hS0 ?hy2 ?_
          case hy2 => (intro W hW; clear hW; go_simp; try rfl)
          simp only [ly]
          refine tkI 2 19 ?v3 rfl rfl hS0 ?hy3 ?_
          case hy3 => (intro W hW; clear hW; go_simp; try rfl)
          simp only [ly]
          refine tkI 3 20 ?v4 rfl rfl hS0 ?hy4 ?_
          case hy4 => (intro W hW; clear hW; go_simp; try rfl)
          simp only [ly]
          refine tkI 4 21 ?v5 rfl rfl hS0 ?hy5 ?_
          case hy5 => (intro W hW; have e0 := bcell hW c0; have e1 := bcell hW c1; have e2 := bcell hW c2; have e3 := bcell hW d0; have e4 := bcell hW d1; have e5 := bcell hW d2; clear hW; go_simp; try rfl)
          simp only [ly]
          refine tkI 5 22 ?v6 rfl rfl hS0 ?hy6 ?_
          case hy6 => (intro W hW; clear hW; go_simp; try rfl)
          simp only [ly]
          refine tkI 6 23 ?v7 rfl rfl hS0 ?hy7 ?_
          case hy7 => (intro W hW; clear hW; go_simp; try rfl)
          simp only [ly]
          refine tkI 7 24 ?v8 rfl rfl hS0 ?hy8 ?_
          case hy8 => (intro W hW; clear hW; go_simp; try rfl)
          simp only [ly]
          refine tkI 8 25 ?v9 rfl rfl hS0 ?hy9 ?_
          case hy9 => (intro W hW; clear hW; go_simp; try rfl)
          simp only [ly]
          refine tkI 9 26 ?v10 rfl rfl hS0 ?hy10 ?_
          case hy10 => (intro W hW; have e0 := bcell hW c0; have e1 := bcell hW c1; have e2 := bcell hW c2; have e3 := bcell hW d0; have e4 := bcell hW d1; have e5 := bcell hW d2; clear hW; go_simp; try rfl)
          simp only [ly]
          refine tkI 10 27 ?v11 rfl rfl hS0 ?hy11 ?_
          case hy11 => (intro W hW; clear hW; go_simp; try rfl)
          simp only [ly]
          refine tkI 11 28 ?v12 rfl rfl hS0 ?hy12 ?_
          case hy12 => (intro W hW; clear hW; go_simp; try rfl)
          simp only [ly]
          refine tkN 12 29 rfl rfl hS0 ?_
          simp only [ly]
          refine tkN 13 30 rfl rfl hS0 ?_
          simp only [ly]
          refine tkN 14 31 rfl rfl hS0 ?_
          simp only [ly]
          refine tkN 15 32 rfl rfl hS0 ?_
          simp only [ly]
          refine tkN 16 33 rfl rfl hS0 ?_
          simp only [ly]
          refine tkN 17 34 rfl rfl hS0 ?_
          simp only [ly]
          refine tkN 18 35 rfl rfl hS0 ?_
          simp only [ly]
          refine tkN 19 36 rfl rfl hS0 ?_
          simp only [ly]
          refine tkN 20 37 rfl rfl hS0 ?_
          simp only [ly]
          refine tkN 21 38 rfl rfl hS0 ?_
          simp only [ly]
          refine tkN 22 39 rfl rfl hS0 ?_
          simp only [ly]
          refine tkN 23 40 rfl rfl hS0 ?_
          simp only [ly]
          refine tkI 24 41 ?v13 rfl rfl hS0 ?hy13 ?_
          case hy13 => (intro W hW; clear hW; go_simp; try rfl)
          simp only [ly]
          refine tkI 25 42 ?v14 rfl rfl hS0 ?hy14 ?_
          case hy14 => (intro W hW; clear hW; go_simp; try rfl)
          simp only [ly]
          refine tkN 26 43 rfl rfl hS0 ?_
          simp only [ly]
          refine tkN 27 44 rfl rfl hS0 ?_
          simp only [ly]
          refine tkN 28 45 rfl rfl hS0 ?_
          simp only [ly]
          refine tkN 29 46 rfl rfl hS0 ?_
          simp only [ly]
          refine tkN 30 47 rfl rfl hS0 ?_
          simp only [ly]
          refine tkN 31 48 rfl rfl hS0 ?_
          simp only [ly]
          refine tkN 32 49 rfl rfl hS0 ?_
          simp only [ly]
          refine tkN 33 50 rfl rfl hS0 ?_
          simp only [ly]
          refine tkN 34 51 rfl rfl hS0 ?_
          simp only [ly]
          refine tkN 35 52 rfl rfl hS0 ?_
          simp only [ly]
          refine tkN 36 53 rfl rfl hS0 ?_
          simp only [ly]
          refine tkN 37 54 rfl rfl hS0 ?_
          simp only [ly]
          refine tkI 38 55 ?v15 rfl rfl hS0 ?hy15 ?_
          case hy15 => (intro W hW; clear hW; go_simp; try rfl)
          simp only [ly]
          refine wpAnyH_done (by kernel_rfl) ?_ _
          go_wp2
          go_ret
          exact ⟨by rw [HNO.out]; rfl, bel_next HB.out hS0⟩
      · obtain rfl : k0 = n := by omega
        have HE : Hid (decide (s = t) = true) := by
          have h := HF.out
          rw [← HLEN.out, List.take_length, HLEN.out, ← HLEN'.out, List.take_length] at h
          exact decide_eq_true h
        clear HF
        go_wp2
        go_ret
        exact ⟨by rw [HE.out]; rfl, HB.out⟩
  · have HNO := hide (same_len (s := s) (t := t) (by rw [HLEN.out, HLEN'.out]; exact hnn))
    have hn2 : ((n : Int) == (n' : Int)) = false := by rw [beq_eq_false_iff_ne]; omega
    have hn3 : ¬ ((n : Int) = (n' : Int)) := by omega
    go_enter Tryz.func71, Tryz.ntmps71
    go_wp2
    go_ret
    exact ⟨by rw [HNO.out]; rfl, Below.refl _ _⟩
end Go.Proofs.YtkbbegbpkndebaaGreat

