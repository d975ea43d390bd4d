/- Texts of this claim, joined: SRef3. -/
import Derived.Test.YtooggheoaglbeaaJ14
import Derived.Test.YtooggheoaglbeaaJ11
/- The document's 'Closed'. -/
namespace Go.Proofs.Ytooggheoaglbeaa
open Go.RowKit
set_option linter.unusedVariables false
theorem EVS.head {w : World} {a : Option Addr} {n : Nat} {es : List Evt} (h : EVS w a n es) (k : Nat) (hk : k ≤ n) : EVS w a k (es.take k) := by
  obtain ⟨xs, h1, h2, h3⟩ := h
  refine ⟨xs.take k, ⟨by rw [List.length_take, h1.1]; omega, by have := h1.2.1; omega, ?_⟩, by rw [List.length_take, h2]; omega, fun i x e hx he => ?_⟩
  · rcases h1.2.2 with h0 | ⟨b, off, hh, hc⟩
    · exact .inl (by omega)
    · refine .inr ⟨b, off, hh, fun i x hx j v hj => ?_⟩
      rw [List.getElem?_take] at hx
      split at hx
      · exact hc i x hx j v hj
      · cases hx
  · rw [List.getElem?_take] at hx he
    split at hx
    · next hlt =>
      rw [if_pos hlt] at he
      exact h3 i x e hx he
    · cases hx
set_option maxHeartbeats 8000000 in
/-- The document's 'Closed'. -/
theorem ClosedR_any (a : Option Addr) (n cap : Nat) (es : List Evt) (w : World) (hE : EVS w a n es) (hn : n ≤ 1000) (hcap : n ≤ cap) :
    Calls Try.prog 28 #[.slice a n cap] w fun e w' => e = .returned (.bool (closedB es)) ∧ Below w.heap.size w w' := by
  have HV := hide hE
  have hlen := hide hE.len
  have hen : es.length ≤ 1000 := by rw [hE.len]; exact hn
  clear hE
  go_enter Try.func28, Try.ntmps28
  go_wp2
  go_loopw [3] (fun i wr => ∃ k : Nat, k ≤ n ∧ i = .int .i64 k ∧ Hid (∀ (i : Nat) x, i < k → es[i]? = some x → ok1 es i x) ∧ Hid (Below w.heap.size w wr)) (fun i _ => n - (intOf i).toNat)
  case atStart => exact ⟨0, by omega, rfl, (fun i x hi => absurd hi (Nat.not_lt_zero _)), Below.refl _ _⟩
  case round =>
    obtain ⟨k, hk, rfl, HA, hB⟩ := hrel
    by_cases hlt : k < n
    · obtain ⟨b, off, rfl⟩ := HV.out.addr (by omega)
      obtain ⟨r, s, pa, na, ca, pe, ne, ce, c, fs, hx, x0, x1, x2, x3, hns, hca, hes, hce⟩ := HV.out.at k hlt
      replace x0 := bcell hB.out x0
      replace x1 := bcell hB.out x1
      replace x2 := bcell hB.out x2
      replace x3 := bcell hB.out x3
      have NX := hide (hns.below hB.out)
      have EX := hide (hes.below hB.out)
      have VX := hide ((HV.out.head k hk).below hB.out)
      have HX := hide hx
      have hkc : k ≤ cap := by omega
      have hkn : (k : Int) < (n : Int) := by omega
      have HME := hide (fun W (h1 : NS W pa na c) (h2 : ES W pe ne fs) => MayE_ref r s pa na ca pe ne ce c fs W h1 h2)
      have HUU := hide (fun W (h1 : NS W pa na c) => sum_ref pa na ca c W h1)
      clear hns hca hes hce hx
      rcases hm : mayE ((r, s), c, fs) with _ | _
      · have HE : Hid (false = closedB es) := by
          unfold Hid
          cases hcl : closedB es with
          | false => rfl
          | true => exact absurd (closed_ok1 hen hcl k _ HX.out) (fun q => by have h := q.1; rw [hm] at h; cases h)
        rw [hm] at HME
        clear hm
        go_wp2
        refine wp_region_held_drew (S := fun W => Below wr.heap.size wr W) (by kernel_rfl) ((Below.refl _ wr).drew) (fun hS0 => ?_)
        refine takeInH 0 13 ?v1 rfl rfl (by kernel_rfl) (by kernel_rfl) (by kernel_rfl) (fun _ _ _ h => h) (by kernel_rfl) hS0 ?hy1 ?_
        case hy1 => (intro W hW; clear hW; go_simp; try rfl)
        simp only [Act.put, List.setIfInBounds_toArray, List.set_cons_zero, List.set_cons_succ]
        refine takeInH 1 14 ?v2 rfl rfl (by kernel_rfl) (by kernel_rfl) (by kernel_rfl) (fun _ _ _ h => h) (by kernel_rfl) hS0 ?hy2 ?_
        case hy2 => (intro W hW; clear hW; go_simp; try rfl)
        simp only [Act.put, List.setIfInBounds_toArray, List.set_cons_zero, List.set_cons_succ]
        refine takeInH 2 15 ?v3 rfl rfl (by kernel_rfl) (by kernel_rfl) (by kernel_rfl) (fun _ _ _ h => h) (by kernel_rfl) hS0 ?hy3 ?_
        case hy3 => (intro W hW; clear hW; go_simp; try rfl)
        simp only [Act.put, List.setIfInBounds_toArray, List.set_cons_zero, List.set_cons_succ]
        refine takeInH 3 16 ?v4 rfl rfl (by kernel_rfl) (by kernel_rfl) (by kernel_rfl) (fun _ _ _ h => h) (by kernel_rfl) hS0 ?hy4 ?_
        case hy4 => (intro W hW; have e0 := bcell hW x0; have e1 := bcell hW x1; have e2 := bcell hW x2; have e3 := bcell hW x3; clear hW; go_simp; try rfl)
        simp only [Act.put, List.setIfInBounds_toArray, List.set_cons_zero, List.set_cons_succ]
        refine wpAnyH_ready (rs := [4]) (by kernel_rfl) (by simp) ?_
        refine AllReadyH.cons rfl (fun K hK => ?_) AllReadyH.nil
        go_simp
        refine (HME.out _ (NX.out.below hS0) (EX.out.below hS0)).mono ?_
        rintro e w' ⟨rfl, hb⟩
        try go_wp2_with fail
        refine hK.out _ _ ?hs5 (fun hS1 => ?_)
        case hs5 => exact bel_next hS0 hb
        clear hK K
        try simp only [Act.put, List.setIfInBounds_toArray, List.set_cons_zero, List.set_cons_succ]
        refine takeInH 5 18 ?v6 rfl rfl (by kernel_rfl) (by kernel_rfl) (by kernel_rfl) (fun _ _ _ h => h) (by kernel_rfl) hS1 ?hy6 ?_
        case hy6 => (intro W hW; clear hW; go_simp; try rfl)
        simp only [Act.put, List.setIfInBounds_toArray, List.set_cons_zero, List.set_cons_succ]
        refine takeInH 6 19 ?v7 rfl rfl (by kernel_rfl) (by kernel_rfl) (by kernel_rfl) (fun _ _ _ h => h) (by kernel_rfl) hS1 ?hy7 ?_
        case hy7 => (intro W hW; clear hW; go_simp; try rfl)
        simp only [Act.put, List.setIfInBounds_toArray, List.set_cons_zero, List.set_cons_succ]
        refine takeNoH 7 20 rfl rfl (by kernel_rfl) (by kernel_rfl) (by kernel_rfl) (fun _ _ _ h => h) (by kernel_rfl) hS1 ?_
        simp only [Act.put, List.setIfInBounds_toArray, List.set_cons_zero, List.set_cons_succ]
        refine takeNoH 8 21 rfl rfl (by kernel_rfl) (by kernel_rfl) (by kernel_rfl) (fun _ _ _ h => h) (by kernel_rfl) hS1 ?_
        simp only [Act.put, List.setIfInBounds_toArray, List.set_cons_zero, List.set_cons_succ]
        refine takeNoH 9 22 rfl rfl (by kernel_rfl) (by kernel_rfl) (by kernel_rfl) (fun _ _ _ h => h) (by kernel_rfl) hS1 ?_
        simp only [Act.put, List.setIfInBounds_toArray, List.set_cons_zero, List.set_cons_succ]
        refine takeNoH 10 23 rfl rfl (by kernel_rfl) (by kernel_rfl) (by kernel_rfl) (fun _ _ _ h => h) (by kernel_rfl) hS1 ?_
        simp only [Act.put, List.setIfInBounds_toArray, List.set_cons_zero, List.set_cons_succ]
        refine takeNoH 11 24 rfl rfl (by kernel_rfl) (by kernel_rfl) (by kernel_rfl) (fun _ _ _ h => h) (by kernel_rfl) hS1 ?_
        simp only [Act.put, List.setIfInBounds_toArray, List.set_cons_zero, List.set_cons_succ]
        refine takeNoH 12 25 rfl rfl (by kernel_rfl) (by kernel_rfl) (by kernel_rfl) (fun _ _ _ h => h) (by kernel_rfl) hS1 ?_
        simp only [Act.put, List.setIfInBounds_toArray, List.set_cons_zero, List.set_cons_succ]
        refine takeNoH 13 26 rfl rfl (by kernel_rfl) (by kernel_rfl) (by kernel_rfl) (fun _ _ _ h => h) (by kernel_rfl) hS1 ?_
        simp only [Act.put, List.setIfInBounds_toArray, List.set_cons_zero, List.set_cons_succ]
        refine takeNoH 14 27 rfl rfl (by kernel_rfl) (by kernel_rfl) (by kernel_rfl) (fun _ _ _ h => h) (by kernel_rfl) hS1 ?_
        simp only [Act.put, List.setIfInBounds_toArray, List.set_cons_zero, List.set_cons_succ]
        refine takeNoH 15 28 rfl rfl (by kernel_rfl) (by kernel_rfl) (by kernel_rfl) (fun _ _ _ h => h) (by kernel_rfl) hS1 ?_
        simp only [Act.put, List.setIfInBounds_toArray, List.set_cons_zero, List.set_cons_succ]
        refine takeInH 16 29 ?v8 rfl rfl (by kernel_rfl) (by kernel_rfl) (by kernel_rfl) (fun _ _ _ h => h) (by kernel_rfl) hS1 ?hy8 ?_
        case hy8 => (intro W hW; clear hW; go_simp; try rfl)
        simp only [Act.put, List.setIfInBounds_toArray, List.set_cons_zero, List.set_cons_succ]
        refine takeInH 17 30 ?v9 rfl rfl (by kernel_rfl) (by kernel_rfl) (by kernel_rfl) (fun _ _ _ h => h) (by kernel_rfl) hS1 ?hy9 ?_
        case hy9 => (intro W hW; clear hW; go_simp; try rfl)
        simp only [Act.put, List.setIfInBounds_toArray, List.set_cons_zero, List.set_cons_succ]
        refine takeNoH 18 31 rfl rfl (by kernel_rfl) (by kernel_rfl) (by kernel_rfl) (fun _ _ _ h => h) (by kernel_rfl) hS1 ?_
        simp only [Act.put, List.setIfInBounds_toArray, List.set_cons_zero, List.set_cons_succ]
        refine takeNoH 19 32 rfl rfl (by kernel_rfl) (by kernel_rfl) (by kernel_rfl) (fun _ _ _ h => h) (by kernel_rfl) hS1 ?_
        simp only [Act.put, List.setIfInBounds_toArray, List.set_cons_zero, List.set_cons_succ]
        refine takeNoH 20 33 rfl rfl (by kernel_rfl) (by kernel_rfl) (by kernel_rfl) (fun _ _ _ h => h) (by kernel_rfl) hS1 ?_
        simp only [Act.put, List.setIfInBounds_toArray, List.set_cons_zero, List.set_cons_succ]
        refine takeNoH 21 34 rfl rfl (by kernel_rfl) (by kernel_rfl) (by kernel_rfl) (fun _ _ _ h => h) (by kernel_rfl) hS1 ?_
        simp only [Act.put, List.setIfInBounds_toArray, List.set_cons_zero, List.set_cons_succ]
        refine takeNoH 22 35 rfl rfl (by kernel_rfl) (by kernel_rfl) (by kernel_rfl) (fun _ _ _ h => h) (by kernel_rfl) hS1 ?_
        simp only [Act.put, List.setIfInBounds_toArray, List.set_cons_zero, List.set_cons_succ]
        refine takeNoH 23 36 rfl rfl (by kernel_rfl) (by kernel_rfl) (by kernel_rfl) (fun _ _ _ h => h) (by kernel_rfl) hS1 ?_
        simp only [Act.put, List.setIfInBounds_toArray, List.set_cons_zero, List.set_cons_succ]
        refine takeNoH 24 37 rfl rfl (by kernel_rfl) (by kernel_rfl) (by kernel_rfl) (fun _ _ _ h => h) (by kernel_rfl) hS1 ?_
        simp only [Act.put, List.setIfInBounds_toArray, List.set_cons_zero, List.set_cons_succ]
        refine takeNoH 25 38 rfl rfl (by kernel_rfl) (by kernel_rfl) (by kernel_rfl) (fun _ _ _ h => h) (by kernel_rfl) hS1 ?_
        simp only [Act.put, List.setIfInBounds_toArray, List.set_cons_zero, List.set_cons_succ]
        refine takeNoH 26 39 rfl rfl (by kernel_rfl) (by kernel_rfl) (by kernel_rfl) (fun _ _ _ h => h) (by kernel_rfl) hS1 ?_
        simp only [Act.put, List.setIfInBounds_toArray, List.set_cons_zero, List.set_cons_succ]
        refine takeInH 27 40 ?v10 rfl rfl (by kernel_rfl) (by kernel_rfl) (by kernel_rfl) (fun _ _ _ h => h) (by kernel_rfl) hS1 ?hy10 ?_
        case hy10 => (intro W hW; clear hW; go_simp; try rfl)
        simp only [Act.put, List.setIfInBounds_toArray, List.set_cons_zero, List.set_cons_succ]
        refine wpAnyH_done (by kernel_rfl) ?_ _
        go_wp2
        go_ret
        exact ⟨retB HE.out, bel_next hB.out hS1⟩
      · rw [hm] at HME
        rcases hf : findB (es.take k) (r, s) with _ | _
        · have HFI := hide (fun W (h : EVS W (some ⟨b, off, none⟩) k (es.take k)) => find_any (some ⟨b, off, none⟩) k cap (es.take k) r s W h false hf.symm)
          by_cases hsm : sumL c < (n : Int)
          · have HA2 : Hid (∀ (i : Nat) x, i < k + 1 → es[i]? = some x → ok1 es i x) := by
              intro i x hi hx
              rcases Nat.lt_or_ge i k with h | h
              · exact HA.out i x h hx
              · have e : i = k := by omega
                subst e
                rw [HX.out] at hx
                cases hx
                exact ⟨hm, hf, by rw [hlen.out]; exact hsm⟩
            clear hm hf
            generalize sumL c = z at HUU hsm
            go_wp2
            refine wp_region_held_drew (S := fun W => Below wr.heap.size wr W) (by kernel_rfl) ((Below.refl _ wr).drew) (fun hS0 => ?_)
            refine takeInH 0 13 ?v11 rfl rfl (by kernel_rfl) (by kernel_rfl) (by kernel_rfl) (fun _ _ _ h => h) (by kernel_rfl) hS0 ?hy11 ?_
            case hy11 => (intro W hW; clear hW; go_simp; try rfl)
            simp only [Act.put, List.setIfInBounds_toArray, List.set_cons_zero, List.set_cons_succ]
            refine takeInH 1 14 ?v12 rfl rfl (by kernel_rfl) (by kernel_rfl) (by kernel_rfl) (fun _ _ _ h => h) (by kernel_rfl) hS0 ?hy12 ?_
            case hy12 => (intro W hW; clear hW; go_simp; try rfl)
            simp only [Act.put, List.setIfInBounds_toArray, List.set_cons_zero, List.set_cons_succ]
            refine takeInH 2 15 ?v13 rfl rfl (by kernel_rfl) (by kernel_rfl) (by kernel_rfl) (fun _ _ _ h => h) (by kernel_rfl) hS0 ?hy13 ?_
            case hy13 => (intro W hW; clear hW; go_simp; try rfl)
            simp only [Act.put, List.setIfInBounds_toArray, List.set_cons_zero, List.set_cons_succ]
            refine takeInH 3 16 ?v14 rfl rfl (by kernel_rfl) (by kernel_rfl) (by kernel_rfl) (fun _ _ _ h => h) (by kernel_rfl) hS0 ?hy14 ?_
            case hy14 => (intro W hW; have e0 := bcell hW x0; have e1 := bcell hW x1; have e2 := bcell hW x2; have e3 := bcell hW x3; clear hW; go_simp; try rfl)
            simp only [Act.put, List.setIfInBounds_toArray, List.set_cons_zero, List.set_cons_succ]
            refine wpAnyH_ready (rs := [4]) (by kernel_rfl) (by simp) ?_
            refine AllReadyH.cons rfl (fun K hK => ?_) AllReadyH.nil
            go_simp
            refine (HME.out _ (NX.out.below hS0) (EX.out.below hS0)).mono ?_
            rintro e w' ⟨rfl, hb⟩
            try go_wp2_with fail
            refine hK.out _ _ ?hs15 (fun hS1 => ?_)
            case hs15 => exact bel_next hS0 hb
            clear hK K
            try simp only [Act.put, List.setIfInBounds_toArray, List.set_cons_zero, List.set_cons_succ]
            refine takeInH 5 18 ?v16 rfl rfl (by kernel_rfl) (by kernel_rfl) (by kernel_rfl) (fun _ _ _ h => h) (by kernel_rfl) hS1 ?hy16 ?_
            case hy16 => (intro W hW; clear hW; go_simp; try rfl)
            simp only [Act.put, List.setIfInBounds_toArray, List.set_cons_zero, List.set_cons_succ]
            refine takeInH 6 19 ?v17 rfl rfl (by kernel_rfl) (by kernel_rfl) (by kernel_rfl) (fun _ _ _ h => h) (by kernel_rfl) hS1 ?hy17 ?_
            case hy17 => (intro W hW; clear hW; go_simp; try rfl)
            simp only [Act.put, List.setIfInBounds_toArray, List.set_cons_zero, List.set_cons_succ]
            refine takeInH 7 20 ?v18 rfl rfl (by kernel_rfl) (by kernel_rfl) (by kernel_rfl) (fun _ _ _ h => h) (by kernel_rfl) hS1 ?hy18 ?_
            case hy18 => (intro W hW; clear hW; go_simp; try rfl)
            simp only [Act.put, List.setIfInBounds_toArray, List.set_cons_zero, List.set_cons_succ]
            refine takeInH 8 21 ?v19 rfl rfl (by kernel_rfl) (by kernel_rfl) (by kernel_rfl) (fun _ _ _ h => h) (by kernel_rfl) hS1 ?hy19 ?_
            case hy19 => (intro W hW; clear hW; go_simp; try rfl)
            simp only [Act.put, List.setIfInBounds_toArray, List.set_cons_zero, List.set_cons_succ]
            refine takeInH 9 22 ?v20 rfl rfl (by kernel_rfl) (by kernel_rfl) (by kernel_rfl) (fun _ _ _ h => h) (by kernel_rfl) hS1 ?hy20 ?_
            case hy20 => (intro W hW; clear hW; go_simp; try rfl)
            simp only [Act.put, List.setIfInBounds_toArray, List.set_cons_zero, List.set_cons_succ]
            refine takeInH 10 23 ?v21 rfl rfl (by kernel_rfl) (by kernel_rfl) (by kernel_rfl) (fun _ _ _ h => h) (by kernel_rfl) hS1 ?hy21 ?_
            case hy21 => (intro W hW; clear hW; go_simp; try rfl)
            simp only [Act.put, List.setIfInBounds_toArray, List.set_cons_zero, List.set_cons_succ]
            refine takeInH 11 24 ?v22 rfl rfl (by kernel_rfl) (by kernel_rfl) (by kernel_rfl) (fun _ _ _ h => h) (by kernel_rfl) hS1 ?hy22 ?_
            case hy22 => (intro W hW; clear hW; go_simp; try rfl)
            simp only [Act.put, List.setIfInBounds_toArray, List.set_cons_zero, List.set_cons_succ]
            refine takeInH 12 25 ?v23 rfl rfl (by kernel_rfl) (by kernel_rfl) (by kernel_rfl) (fun _ _ _ h => h) (by kernel_rfl) hS1 ?hy23 ?_
            case hy23 => (intro W hW; clear hW; go_simp; try rfl)
            simp only [Act.put, List.setIfInBounds_toArray, List.set_cons_zero, List.set_cons_succ]
            refine takeInH 13 26 ?v24 rfl rfl (by kernel_rfl) (by kernel_rfl) (by kernel_rfl) (fun _ _ _ h => h) (by kernel_rfl) hS1 ?hy24 ?_
            case hy24 => (intro W hW; clear hW; go_simp; try rfl)
            simp only [Act.put, List.setIfInBounds_toArray, List.set_cons_zero, List.set_cons_succ]
            refine takeInH 14 27 ?v25 rfl rfl (by kernel_rfl) (by kernel_rfl) (by kernel_rfl) (fun _ _ _ h => h) (by kernel_rfl) hS1 ?hy25 ?_
            case hy25 => (intro W hW; have e0 := bcell hW x0; have e1 := bcell hW x1; have e2 := bcell hW x2; have e3 := bcell hW x3; clear hW; go_simp; try rfl)
            simp only [Act.put, List.setIfInBounds_toArray, List.set_cons_zero, List.set_cons_succ]
            refine wpAnyH_ready (rs := [15]) (by kernel_rfl) (by simp) ?_
            refine AllReadyH.cons rfl (fun K hK => ?_) AllReadyH.nil
            go_simp
            refine (HFI.out _ (VX.out.below hS1)).mono ?_
            rintro e w' ⟨rfl, hb⟩
            try go_wp2_with fail
            refine hK.out _ _ ?hs26 (fun hS2 => ?_)
            case hs26 => exact bel_next hS1 hb
            clear hK K
            try simp only [Act.put, List.setIfInBounds_toArray, List.set_cons_zero, List.set_cons_succ]
            refine takeInH 16 29 ?v27 rfl rfl (by kernel_rfl) (by kernel_rfl) (by kernel_rfl) (fun _ _ _ h => h) (by kernel_rfl) hS2 ?hy27 ?_
            case hy27 => (intro W hW; clear hW; go_simp; try rfl)
            simp only [Act.put, List.setIfInBounds_toArray, List.set_cons_zero, List.set_cons_succ]
            refine takeInH 17 30 ?v28 rfl rfl (by kernel_rfl) (by kernel_rfl) (by kernel_rfl) (fun _ _ _ h => h) (by kernel_rfl) hS2 ?hy28 ?_
            case hy28 => (intro W hW; clear hW; go_simp; try rfl)
            simp only [Act.put, List.setIfInBounds_toArray, List.set_cons_zero, List.set_cons_succ]
            refine takeInH 18 31 ?v29 rfl rfl (by kernel_rfl) (by kernel_rfl) (by kernel_rfl) (fun _ _ _ h => h) (by kernel_rfl) hS2 ?hy29 ?_
            case hy29 => (intro W hW; clear hW; go_simp; try rfl)
            simp only [Act.put, List.setIfInBounds_toArray, List.set_cons_zero, List.set_cons_succ]
            refine takeInH 19 32 ?v30 rfl rfl (by kernel_rfl) (by kernel_rfl) (by kernel_rfl) (fun _ _ _ h => h) (by kernel_rfl) hS2 ?hy30 ?_
            case hy30 => (intro W hW; clear hW; go_simp; try rfl)
            simp only [Act.put, List.setIfInBounds_toArray, List.set_cons_zero, List.set_cons_succ]
            refine takeInH 20 33 ?v31 rfl rfl (by kernel_rfl) (by kernel_rfl) (by kernel_rfl) (fun _ _ _ h => h) (by kernel_rfl) hS2 ?hy31 ?_
            case hy31 => (intro W hW; clear hW; go_simp; try rfl)
            simp only [Act.put, List.setIfInBounds_toArray, List.set_cons_zero, List.set_cons_succ]
            refine takeInH 21 34 ?v32 rfl rfl (by kernel_rfl) (by kernel_rfl) (by kernel_rfl) (fun _ _ _ h => h) (by kernel_rfl) hS2 ?hy32 ?_
            case hy32 => (intro W hW; clear hW; go_simp; try rfl)
            simp only [Act.put, List.setIfInBounds_toArray, List.set_cons_zero, List.set_cons_succ]
            refine takeInH 22 35 ?v33 rfl rfl (by kernel_rfl) (by kernel_rfl) (by kernel_rfl) (fun _ _ _ h => h) (by kernel_rfl) hS2 ?hy33 ?_
            case hy33 => (intro W hW; have e0 := bcell hW x0; have e1 := bcell hW x1; have e2 := bcell hW x2; have e3 := bcell hW x3; clear hW; go_simp; try rfl)
            simp only [Act.put, List.setIfInBounds_toArray, List.set_cons_zero, List.set_cons_succ]
            refine takeInH 24 37 ?v34 rfl rfl (by kernel_rfl) (by kernel_rfl) (by kernel_rfl) (fun _ _ _ h => h) (by kernel_rfl) hS2 ?hy34 ?_
            case hy34 => (intro W hW; clear hW; go_simp; try rfl)
            simp only [Act.put, List.setIfInBounds_toArray, List.set_cons_zero, List.set_cons_succ]
            refine takeInH 25 38 ?v35 rfl rfl (by kernel_rfl) (by kernel_rfl) (by kernel_rfl) (fun _ _ _ h => h) (by kernel_rfl) hS2 ?hy35 ?_
            case hy35 => (intro W hW; clear hW; go_simp; try rfl)
            simp only [Act.put, List.setIfInBounds_toArray, List.set_cons_zero, List.set_cons_succ]
            refine wpAnyH_ready (rs := [23]) (by kernel_rfl) (by simp) ?_
            refine AllReadyH.cons rfl (fun K hK => ?_) AllReadyH.nil
            go_simp
            refine (HUU.out _ (NX.out.below hS2)).mono ?_
            rintro e w' ⟨rfl, hw⟩
            replace hw := hw.symm
            subst hw
            try go_wp2_with fail
            refine hK.out _ _ ?hs36 (fun hS3 => ?_)
            case hs36 => exact hS2
            clear hK K
            try simp only [Act.put, List.setIfInBounds_toArray, List.set_cons_zero, List.set_cons_succ]
            refine takeInH 26 39 ?v37 rfl rfl (by kernel_rfl) (by kernel_rfl) (by kernel_rfl) (fun _ _ _ h => h) (by kernel_rfl) hS3 ?hy37 ?_
            case hy37 => (intro W hW; clear hW; go_simp; try rfl)
            simp only [Act.put, List.setIfInBounds_toArray, List.set_cons_zero, List.set_cons_succ]
            refine takeInH 27 40 ?v38 rfl rfl (by kernel_rfl) (by kernel_rfl) (by kernel_rfl) (fun _ _ _ h => h) (by kernel_rfl) hS3 ?hy38 ?_
            case hy38 => (intro W hW; clear hW; go_simp; try rfl)
            simp only [Act.put, List.setIfInBounds_toArray, List.set_cons_zero, List.set_cons_succ]
            refine wpAnyH_done (by kernel_rfl) ?_ _
            go_wp2
            go_roundw
            case rel => exact ⟨k + 1, by omega, by go_num, HA2, (show Hid _ from bel_next hB.out hS3)⟩
            case measure => simp [intOf]; omega
          · have HE : Hid (false = closedB es) := by
              unfold Hid
              cases hcl : closedB es with
              | false => rfl
              | true => exact absurd (closed_ok1 hen hcl k _ HX.out) (fun q => by have h := q.2.2; rw [hlen.out] at h; exact hsm h)
            clear hm hf
            generalize sumL c = z at HUU hsm
            go_wp2
            refine wp_region_held_drew (S := fun W => Below wr.heap.size wr W) (by kernel_rfl) ((Below.refl _ wr).drew) (fun hS0 => ?_)
            refine takeInH 0 13 ?v39 rfl rfl (by kernel_rfl) (by kernel_rfl) (by kernel_rfl) (fun _ _ _ h => h) (by kernel_rfl) hS0 ?hy39 ?_
            case hy39 => (intro W hW; clear hW; go_simp; try rfl)
            simp only [Act.put, List.setIfInBounds_toArray, List.set_cons_zero, List.set_cons_succ]
            refine takeInH 1 14 ?v40 rfl rfl (by kernel_rfl) (by kernel_rfl) (by kernel_rfl) (fun _ _ _ h => h) (by kernel_rfl) hS0 ?hy40 ?_
            case hy40 => (intro W hW; clear hW; go_simp; try rfl)
            simp only [Act.put, List.setIfInBounds_toArray, List.set_cons_zero, List.set_cons_succ]
            refine takeInH 2 15 ?v41 rfl rfl (by kernel_rfl) (by kernel_rfl) (by kernel_rfl) (fun _ _ _ h => h) (by kernel_rfl) hS0 ?hy41 ?_
            case hy41 => (intro W hW; clear hW; go_simp; try rfl)
            simp only [Act.put, List.setIfInBounds_toArray, List.set_cons_zero, List.set_cons_succ]
            refine takeInH 3 16 ?v42 rfl rfl (by kernel_rfl) (by kernel_rfl) (by kernel_rfl) (fun _ _ _ h => h) (by kernel_rfl) hS0 ?hy42 ?_
            case hy42 => (intro W hW; have e0 := bcell hW x0; have e1 := bcell hW x1; have e2 := bcell hW x2; have e3 := bcell hW x3; clear hW; go_simp; try rfl)
            simp only [Act.put, List.setIfInBounds_toArray, List.set_cons_zero, List.set_cons_succ]
            refine wpAnyH_ready (rs := [4]) (by kernel_rfl) (by simp) ?_
            refine AllReadyH.cons rfl (fun K hK => ?_) AllReadyH.nil
            go_simp
            refine (HME.out _ (NX.out.below hS0) (EX.out.below hS0)).mono ?_
            rintro e w' ⟨rfl, hb⟩
            try go_wp2_with fail
            refine hK.out _ _ ?hs43 (fun hS1 => ?_)
            case hs43 => exact bel_next hS0 hb
            clear hK K
            try simp only [Act.put, List.setIfInBounds_toArray, List.set_cons_zero, List.set_cons_succ]
            refine takeInH 5 18 ?v44 rfl rfl (by kernel_rfl) (by kernel_rfl) (by kernel_rfl) (fun _ _ _ h => h) (by kernel_rfl) hS1 ?hy44 ?_
            case hy44 => (intro W hW; clear hW; go_simp; try rfl)
            simp only [Act.put, List.setIfInBounds_toArray, List.set_cons_zero, List.set_cons_succ]
            refine takeInH 6 19 ?v45 rfl rfl (by kernel_rfl) (by kernel_rfl) (by kernel_rfl) (fun _ _ _ h => h) (by kernel_rfl) hS1 ?hy45 ?_
            case hy45 => (intro W hW; clear hW; go_simp; try rfl)
            simp only [Act.put, List.setIfInBounds_toArray, List.set_cons_zero, List.set_cons_succ]
            refine takeInH 7 20 ?v46 rfl rfl (by kernel_rfl) (by kernel_rfl) (by kernel_rfl) (fun _ _ _ h => h) (by kernel_rfl) hS1 ?hy46 ?_
            case hy46 => (intro W hW; clear hW; go_simp; try rfl)
            simp only [Act.put, List.setIfInBounds_toArray, List.set_cons_zero, List.set_cons_succ]
            refine takeInH 8 21 ?v47 rfl rfl (by kernel_rfl) (by kernel_rfl) (by kernel_rfl) (fun _ _ _ h => h) (by kernel_rfl) hS1 ?hy47 ?_
            case hy47 => (intro W hW; clear hW; go_simp; try rfl)
            simp only [Act.put, List.setIfInBounds_toArray, List.set_cons_zero, List.set_cons_succ]
            refine takeInH 9 22 ?v48 rfl rfl (by kernel_rfl) (by kernel_rfl) (by kernel_rfl) (fun _ _ _ h => h) (by kernel_rfl) hS1 ?hy48 ?_
            case hy48 => (intro W hW; clear hW; go_simp; try rfl)
            simp only [Act.put, List.setIfInBounds_toArray, List.set_cons_zero, List.set_cons_succ]
            refine takeInH 10 23 ?v49 rfl rfl (by kernel_rfl) (by kernel_rfl) (by kernel_rfl) (fun _ _ _ h => h) (by kernel_rfl) hS1 ?hy49 ?_
            case hy49 => (intro W hW; clear hW; go_simp; try rfl)
            simp only [Act.put, List.setIfInBounds_toArray, List.set_cons_zero, List.set_cons_succ]
            refine takeInH 11 24 ?v50 rfl rfl (by kernel_rfl) (by kernel_rfl) (by kernel_rfl) (fun _ _ _ h => h) (by kernel_rfl) hS1 ?hy50 ?_
            case hy50 => (intro W hW; clear hW; go_simp; try rfl)
            simp only [Act.put, List.setIfInBounds_toArray, List.set_cons_zero, List.set_cons_succ]
            refine takeInH 12 25 ?v51 rfl rfl (by kernel_rfl) (by kernel_rfl) (by kernel_rfl) (fun _ _ _ h => h) (by kernel_rfl) hS1 ?hy51 ?_
            case hy51 => (intro W hW; clear hW; go_simp; try rfl)
            simp only [Act.put, List.setIfInBounds_toArray, List.set_cons_zero, List.set_cons_succ]
            refine takeInH 13 26 ?v52 rfl rfl (by kernel_rfl) (by kernel_rfl) (by kernel_rfl) (fun _ _ _ h => h) (by kernel_rfl) hS1 ?hy52 ?_
            case hy52 => (intro W hW; clear hW; go_simp; try rfl)
            simp only [Act.put, List.setIfInBounds_toArray, List.set_cons_zero, List.set_cons_succ]
            refine takeInH 14 27 ?v53 rfl rfl (by kernel_rfl) (by kernel_rfl) (by kernel_rfl) (fun _ _ _ h => h) (by kernel_rfl) hS1 ?hy53 ?_
            case hy53 => (intro W hW; have e0 := bcell hW x0; have e1 := bcell hW x1; have e2 := bcell hW x2; have e3 := bcell hW x3; clear hW; go_simp; try rfl)
            simp only [Act.put, List.setIfInBounds_toArray, List.set_cons_zero, List.set_cons_succ]
            refine wpAnyH_ready (rs := [15]) (by kernel_rfl) (by simp) ?_
            refine AllReadyH.cons rfl (fun K hK => ?_) AllReadyH.nil
            go_simp
            refine (HFI.out _ (VX.out.below hS1)).mono ?_
            rintro e w' ⟨rfl, hb⟩
            try go_wp2_with fail
            refine hK.out _ _ ?hs54 (fun hS2 => ?_)
            case hs54 => exact bel_next hS1 hb
            clear hK K
            try simp only [Act.put, List.setIfInBounds_toArray, List.set_cons_zero, List.set_cons_succ]
            refine takeInH 16 29 ?v55 rfl rfl (by kernel_rfl) (by kernel_rfl) (by kernel_rfl) (fun _ _ _ h => h) (by kernel_rfl) hS2 ?hy55 ?_
            case hy55 => (intro W hW; clear hW; go_simp; try rfl)
            simp only [Act.put, List.setIfInBounds_toArray, List.set_cons_zero, List.set_cons_succ]
            refine takeInH 17 30 ?v56 rfl rfl (by kernel_rfl) (by kernel_rfl) (by kernel_rfl) (fun _ _ _ h => h) (by kernel_rfl) hS2 ?hy56 ?_
            case hy56 => (intro W hW; clear hW; go_simp; try rfl)
            simp only [Act.put, List.setIfInBounds_toArray, List.set_cons_zero, List.set_cons_succ]
            refine takeInH 18 31 ?v57 rfl rfl (by kernel_rfl) (by kernel_rfl) (by kernel_rfl) (fun _ _ _ h => h) (by kernel_rfl) hS2 ?hy57 ?_
            case hy57 => (intro W hW; clear hW; go_simp; try rfl)
            simp only [Act.put, List.setIfInBounds_toArray, List.set_cons_zero, List.set_cons_succ]
            refine takeInH 19 32 ?v58 rfl rfl (by kernel_rfl) (by kernel_rfl) (by kernel_rfl) (fun _ _ _ h => h) (by kernel_rfl) hS2 ?hy58 ?_
            case hy58 => (intro W hW; clear hW; go_simp; try rfl)
            simp only [Act.put, List.setIfInBounds_toArray, List.set_cons_zero, List.set_cons_succ]
            refine takeInH 20 33 ?v59 rfl rfl (by kernel_rfl) (by kernel_rfl) (by kernel_rfl) (fun _ _ _ h => h) (by kernel_rfl) hS2 ?hy59 ?_
            case hy59 => (intro W hW; clear hW; go_simp; try rfl)
            simp only [Act.put, List.setIfInBounds_toArray, List.set_cons_zero, List.set_cons_succ]
            refine takeInH 21 34 ?v60 rfl rfl (by kernel_rfl) (by kernel_rfl) (by kernel_rfl) (fun _ _ _ h => h) (by kernel_rfl) hS2 ?hy60 ?_
            case hy60 => (intro W hW; clear hW; go_simp; try rfl)
            simp only [Act.put, List.setIfInBounds_toArray, List.set_cons_zero, List.set_cons_succ]
            refine takeInH 22 35 ?v61 rfl rfl (by kernel_rfl) (by kernel_rfl) (by kernel_rfl) (fun _ _ _ h => h) (by kernel_rfl) hS2 ?hy61 ?_
            case hy61 => (intro W hW; have e0 := bcell hW x0; have e1 := bcell hW x1; have e2 := bcell hW x2; have e3 := bcell hW x3; clear hW; go_simp; try rfl)
            simp only [Act.put, List.setIfInBounds_toArray, List.set_cons_zero, List.set_cons_succ]
            refine takeInH 24 37 ?v62 rfl rfl (by kernel_rfl) (by kernel_rfl) (by kernel_rfl) (fun _ _ _ h => h) (by kernel_rfl) hS2 ?hy62 ?_
            case hy62 => (intro W hW; clear hW; go_simp; try rfl)
            simp only [Act.put, List.setIfInBounds_toArray, List.set_cons_zero, List.set_cons_succ]
            refine takeInH 25 38 ?v63 rfl rfl (by kernel_rfl) (by kernel_rfl) (by kernel_rfl) (fun _ _ _ h => h) (by kernel_rfl) hS2 ?hy63 ?_
            case hy63 => (intro W hW; clear hW; go_simp; try rfl)
            simp only [Act.put, List.setIfInBounds_toArray, List.set_cons_zero, List.set_cons_succ]
            refine wpAnyH_ready (rs := [23]) (by kernel_rfl) (by simp) ?_
            refine AllReadyH.cons rfl (fun K hK => ?_) AllReadyH.nil
            go_simp
            refine (HUU.out _ (NX.out.below hS2)).mono ?_
            rintro e w' ⟨rfl, hw⟩
            replace hw := hw.symm
            subst hw
            try go_wp2_with fail
            refine hK.out _ _ ?hs64 (fun hS3 => ?_)
            case hs64 => exact hS2
            clear hK K
            try simp only [Act.put, List.setIfInBounds_toArray, List.set_cons_zero, List.set_cons_succ]
            refine takeInH 26 39 ?v65 rfl rfl (by kernel_rfl) (by kernel_rfl) (by kernel_rfl) (fun _ _ _ h => h) (by kernel_rfl) hS3 ?hy65 ?_
            case hy65 => (intro W hW; clear hW; go_simp; try rfl)
            simp only [Act.put, List.setIfInBounds_toArray, List.set_cons_zero, List.set_cons_succ]
            refine takeInH 27 40 ?v66 rfl rfl (by kernel_rfl) (by kernel_rfl) (by kernel_rfl) (fun _ _ _ h => h) (by kernel_rfl) hS3 ?hy66 ?_
            case hy66 => (intro W hW; clear hW; go_simp; try rfl)
            simp only [Act.put, List.setIfInBounds_toArray, List.set_cons_zero, List.set_cons_succ]
            refine wpAnyH_done (by kernel_rfl) ?_ _
            go_wp2
            go_ret
            exact ⟨retB HE.out, bel_next hB.out hS3⟩
        · have HE : Hid (false = closedB es) := by
            unfold Hid
            cases hcl : closedB es with
            | false => rfl
            | true => exact absurd (closed_ok1 hen hcl k _ HX.out) (fun q => by have h := q.2.1; simp only [] at h; rw [hf] at h; cases h)
          have HFI := hide (fun W (h : EVS W (some ⟨b, off, none⟩) k (es.take k)) => find_any (some ⟨b, off, none⟩) k cap (es.take k) r s W h true hf.symm)
          clear hm hf
          go_wp2
          refine wp_region_held_drew (S := fun W => Below wr.heap.size wr W) (by kernel_rfl) ((Below.refl _ wr).drew) (fun hS0 => ?_)
          refine takeInH 0 13 ?v67 rfl rfl (by kernel_rfl) (by kernel_rfl) (by kernel_rfl) (fun _ _ _ h => h) (by kernel_rfl) hS0 ?hy67 ?_
          case hy67 => (intro W hW; clear hW; go_simp; try rfl)
          simp only [Act.put, List.setIfInBounds_toArray, List.set_cons_zero, List.set_cons_succ]
          refine takeInH 1 14 ?v68 rfl rfl (by kernel_rfl) (by kernel_rfl) (by kernel_rfl) (fun _ _ _ h => h) (by kernel_rfl) hS0 ?hy68 ?_
          case hy68 => (intro W hW; clear hW; go_simp; try rfl)
          simp only [Act.put, List.setIfInBounds_toArray, List.set_cons_zero, List.set_cons_succ]
          refine takeInH 2 15 ?v69 rfl rfl (by kernel_rfl) (by kernel_rfl) (by kernel_rfl) (fun _ _ _ h => h) (by kernel_rfl) hS0 ?hy69 ?_
          case hy69 => (intro W hW; clear hW; go_simp; try rfl)
          simp only [Act.put, List.setIfInBounds_toArray, List.set_cons_zero, List.set_cons_succ]
          refine takeInH 3 16 ?v70 rfl rfl (by kernel_rfl) (by kernel_rfl) (by kernel_rfl) (fun _ _ _ h => h) (by kernel_rfl) hS0 ?hy70 ?_
          case hy70 => (intro W hW; have e0 := bcell hW x0; have e1 := bcell hW x1; have e2 := bcell hW x2; have e3 := bcell hW x3; clear hW; go_simp; try rfl)
          simp only [Act.put, List.setIfInBounds_toArray, List.set_cons_zero, List.set_cons_succ]
          refine wpAnyH_ready (rs := [4]) (by kernel_rfl) (by simp) ?_
          refine AllReadyH.cons rfl (fun K hK => ?_) AllReadyH.nil
          go_simp
          refine (HME.out _ (NX.out.below hS0) (EX.out.below hS0)).mono ?_
          rintro e w' ⟨rfl, hb⟩
          try go_wp2_with fail
          refine hK.out _ _ ?hs71 (fun hS1 => ?_)
          case hs71 => exact bel_next hS0 hb
          clear hK K
          try simp only [Act.put, List.setIfInBounds_toArray, List.set_cons_zero, List.set_cons_succ]
          refine takeInH 5 18 ?v72 rfl rfl (by kernel_rfl) (by kernel_rfl) (by kernel_rfl) (fun _ _ _ h => h) (by kernel_rfl) hS1 ?hy72 ?_
          case hy72 => (intro W hW; clear hW; go_simp; try rfl)
          simp only [Act.put, List.setIfInBounds_toArray, List.set_cons_zero, List.set_cons_succ]
          refine takeInH 6 19 ?v73 rfl rfl (by kernel_rfl) (by kernel_rfl) (by kernel_rfl) (fun _ _ _ h => h) (by kernel_rfl) hS1 ?hy73 ?_
          case hy73 => (intro W hW; clear hW; go_simp; try rfl)
          simp only [Act.put, List.setIfInBounds_toArray, List.set_cons_zero, List.set_cons_succ]
          refine takeInH 7 20 ?v74 rfl rfl (by kernel_rfl) (by kernel_rfl) (by kernel_rfl) (fun _ _ _ h => h) (by kernel_rfl) hS1 ?hy74 ?_
          case hy74 => (intro W hW; clear hW; go_simp; try rfl)
          simp only [Act.put, List.setIfInBounds_toArray, List.set_cons_zero, List.set_cons_succ]
          refine takeInH 8 21 ?v75 rfl rfl (by kernel_rfl) (by kernel_rfl) (by kernel_rfl) (fun _ _ _ h => h) (by kernel_rfl) hS1 ?hy75 ?_
          case hy75 => (intro W hW; clear hW; go_simp; try rfl)
          simp only [Act.put, List.setIfInBounds_toArray, List.set_cons_zero, List.set_cons_succ]
          refine takeInH 9 22 ?v76 rfl rfl (by kernel_rfl) (by kernel_rfl) (by kernel_rfl) (fun _ _ _ h => h) (by kernel_rfl) hS1 ?hy76 ?_
          case hy76 => (intro W hW; clear hW; go_simp; try rfl)
          simp only [Act.put, List.setIfInBounds_toArray, List.set_cons_zero, List.set_cons_succ]
          refine takeInH 10 23 ?v77 rfl rfl (by kernel_rfl) (by kernel_rfl) (by kernel_rfl) (fun _ _ _ h => h) (by kernel_rfl) hS1 ?hy77 ?_
          case hy77 => (intro W hW; clear hW; go_simp; try rfl)
          simp only [Act.put, List.setIfInBounds_toArray, List.set_cons_zero, List.set_cons_succ]
          refine takeInH 11 24 ?v78 rfl rfl (by kernel_rfl) (by kernel_rfl) (by kernel_rfl) (fun _ _ _ h => h) (by kernel_rfl) hS1 ?hy78 ?_
          case hy78 => (intro W hW; clear hW; go_simp; try rfl)
          simp only [Act.put, List.setIfInBounds_toArray, List.set_cons_zero, List.set_cons_succ]
          refine takeInH 12 25 ?v79 rfl rfl (by kernel_rfl) (by kernel_rfl) (by kernel_rfl) (fun _ _ _ h => h) (by kernel_rfl) hS1 ?hy79 ?_
          case hy79 => (intro W hW; clear hW; go_simp; try rfl)
          simp only [Act.put, List.setIfInBounds_toArray, List.set_cons_zero, List.set_cons_succ]
          refine takeInH 13 26 ?v80 rfl rfl (by kernel_rfl) (by kernel_rfl) (by kernel_rfl) (fun _ _ _ h => h) (by kernel_rfl) hS1 ?hy80 ?_
          case hy80 => (intro W hW; clear hW; go_simp; try rfl)
          simp only [Act.put, List.setIfInBounds_toArray, List.set_cons_zero, List.set_cons_succ]
          refine takeInH 14 27 ?v81 rfl rfl (by kernel_rfl) (by kernel_rfl) (by kernel_rfl) (fun _ _ _ h => h) (by kernel_rfl) hS1 ?hy81 ?_
          case hy81 => (intro W hW; have e0 := bcell hW x0; have e1 := bcell hW x1; have e2 := bcell hW x2; have e3 := bcell hW x3; clear hW; go_simp; try rfl)
          simp only [Act.put, List.setIfInBounds_toArray, List.set_cons_zero, List.set_cons_succ]
          refine wpAnyH_ready (rs := [15]) (by kernel_rfl) (by simp) ?_
          refine AllReadyH.cons rfl (fun K hK => ?_) AllReadyH.nil
          go_simp
          refine (HFI.out _ (VX.out.below hS1)).mono ?_
          rintro e w' ⟨rfl, hb⟩
          try go_wp2_with fail
          refine hK.out _ _ ?hs82 (fun hS2 => ?_)
          case hs82 => exact bel_next hS1 hb
          clear hK K
          try simp only [Act.put, List.setIfInBounds_toArray, List.set_cons_zero, List.set_cons_succ]
          refine takeInH 16 29 ?v83 rfl rfl (by kernel_rfl) (by kernel_rfl) (by kernel_rfl) (fun _ _ _ h => h) (by kernel_rfl) hS2 ?hy83 ?_
          case hy83 => (intro W hW; clear hW; go_simp; try rfl)
          simp only [Act.put, List.setIfInBounds_toArray, List.set_cons_zero, List.set_cons_succ]
          refine takeInH 17 30 ?v84 rfl rfl (by kernel_rfl) (by kernel_rfl) (by kernel_rfl) (fun _ _ _ h => h) (by kernel_rfl) hS2 ?hy84 ?_
          case hy84 => (intro W hW; clear hW; go_simp; try rfl)
          simp only [Act.put, List.setIfInBounds_toArray, List.set_cons_zero, List.set_cons_succ]
          refine takeNoH 18 31 rfl rfl (by kernel_rfl) (by kernel_rfl) (by kernel_rfl) (fun _ _ _ h => h) (by kernel_rfl) hS2 ?_
          simp only [Act.put, List.setIfInBounds_toArray, List.set_cons_zero, List.set_cons_succ]
          refine takeNoH 19 32 rfl rfl (by kernel_rfl) (by kernel_rfl) (by kernel_rfl) (fun _ _ _ h => h) (by kernel_rfl) hS2 ?_
          simp only [Act.put, List.setIfInBounds_toArray, List.set_cons_zero, List.set_cons_succ]
          refine takeNoH 20 33 rfl rfl (by kernel_rfl) (by kernel_rfl) (by kernel_rfl) (fun _ _ _ h => h) (by kernel_rfl) hS2 ?_
          simp only [Act.put, List.setIfInBounds_toArray, List.set_cons_zero, List.set_cons_succ]
          refine takeNoH 21 34 rfl rfl (by kernel_rfl) (by kernel_rfl) (by kernel_rfl) (fun _ _ _ h => h) (by kernel_rfl) hS2 ?_
          simp only [Act.put, List.setIfInBounds_toArray, List.set_cons_zero, List.set_cons_succ]
          refine takeNoH 22 35 rfl rfl (by kernel_rfl) (by kernel_rfl) (by kernel_rfl) (fun _ _ _ h => h) (by kernel_rfl) hS2 ?_
          simp only [Act.put, List.setIfInBounds_toArray, List.set_cons_zero, List.set_cons_succ]
          refine takeNoH 23 36 rfl rfl (by kernel_rfl) (by kernel_rfl) (by kernel_rfl) (fun _ _ _ h => h) (by kernel_rfl) hS2 ?_
          simp only [Act.put, List.setIfInBounds_toArray, List.set_cons_zero, List.set_cons_succ]
          refine takeNoH 24 37 rfl rfl (by kernel_rfl) (by kernel_rfl) (by kernel_rfl) (fun _ _ _ h => h) (by kernel_rfl) hS2 ?_
          simp only [Act.put, List.setIfInBounds_toArray, List.set_cons_zero, List.set_cons_succ]
          refine takeNoH 25 38 rfl rfl (by kernel_rfl) (by kernel_rfl) (by kernel_rfl) (fun _ _ _ h => h) (by kernel_rfl) hS2 ?_
          simp only [Act.put, List.setIfInBounds_toArray, List.set_cons_zero, List.set_cons_succ]
          refine takeNoH 26 39 rfl rfl (by kernel_rfl) (by kernel_rfl) (by kernel_rfl) (fun _ _ _ h => h) (by kernel_rfl) hS2 ?_
          simp only [Act.put, List.setIfInBounds_toArray, List.set_cons_zero, List.set_cons_succ]
          refine takeInH 27 40 ?v85 rfl rfl (by kernel_rfl) (by kernel_rfl) (by kernel_rfl) (fun _ _ _ h => h) (by kernel_rfl) hS2 ?hy85 ?_
          case hy85 => (intro W hW; clear hW; go_simp; try rfl)
          simp only [Act.put, List.setIfInBounds_toArray, List.set_cons_zero, List.set_cons_succ]
          refine wpAnyH_done (by kernel_rfl) ?_ _
          go_wp2
          go_ret
          exact ⟨retB HE.out, bel_next hB.out hS2⟩
    · have hkn : k = n := by omega
      have hkz : ¬ (k : Int) < (n : Int) := by omega
      have HALL : Hid (∀ (i : Nat) x, es[i]? = some x → ok1 es i x) := by
        intro i x hx
        refine HA.out i x ?_ hx
        have := (List.getElem?_eq_some_iff.1 hx).1
        rw [hlen.out] at this
        omega
      clear hkn HA
      go_wp2
      go_loopw [4] (fun i wr => ∃ k : Nat, k ≤ n ∧ i = .int .i64 k ∧ Hid (∀ e ∈ es.take k, ∀ r m : Int, 1 ≤ r → r ≤ 5 → 1 ≤ m → m ≤ getZ e.2.1 r → findB es (r, m) = true) ∧ Hid (Below w.heap.size w wr)) (fun i _ => n - (intOf i).toNat)
      case atStart => exact ⟨0, by omega, rfl, (fun e he => by simp at he), hB⟩
      case round =>
        clear hB
        obtain ⟨k, hk, rfl, HA, hB⟩ := hrel
        by_cases hlt : k < n
        · obtain ⟨b, off, rfl⟩ := HV.out.addr (by omega)
          obtain ⟨r, s, pa, na, ca, pe, ne, ce, c, fs, hx, x0, x1, x2, x3, hns, hca, hes, hce⟩ := HV.out.at k hlt
          have C2_ := hide x2
          have NX0 := hide hns
          have HX := hide hx
          have hkn : (k : Int) < (n : Int) := by omega
          clear hns hca hes hce hx x0 x1 x2 x3
          go_wp2
          go_loopw [5] (fun i wr => ∃ q : Nat, 1 ≤ q ∧ q ≤ 6 ∧ i = .int .i64 q ∧ Hid (∀ r m : Int, 1 ≤ r → r < q → 1 ≤ m → m ≤ getZ c r → findB es (r, m) = true) ∧ Hid (Below w.heap.size w wr)) (fun i _ => 6 - (intOf i).toNat)
          case atStart => exact ⟨1, by omega, by omega, rfl, (fun r m h1 h2 => by omega), hB⟩
          case round =>
            clear hB
            obtain ⟨q, hq1, hq6, rfl, HQ, hB⟩ := hrel
            by_cases hq : q ≤ 5
            · have hqz : (q : Int) ≤ 5 := by omega
              go_wp2
              have hzb := getZ_bd c (q : Int)
              go_loopw [6] (fun i wr => ∃ m : Nat, 1 ≤ m ∧ (m : Int) ≤ getZ c (q : Int) + 1 ∧ i = .int .i64 m ∧ Hid (∀ t : Int, 1 ≤ t → t < m → findB es ((q : Int), t) = true) ∧ Hid (Below w.heap.size w wr)) (fun i _ => (getZ c (q : Int) + 1 - intOf i).toNat)
              case atStart => exact ⟨1, by omega, by omega, rfl, (fun t h1 h2 => by omega), hB⟩
              case round =>
                clear hB
                obtain ⟨m, hm1, hm2, rfl, HM, hB⟩ := hrel
                have x2 := bcell hB.out C2_.out
                have HG := hide (get_refZ pa na ca c (q : Int) wr (NX0.out.below hB.out))
                by_cases hml : (m : Int) ≤ getZ c (q : Int)
                · rcases hf : findB es ((q : Int), (m : Int)) with _ | _
                  · have HE : Hid (false = closedB es) := by
                      unfold Hid
                      cases hcl : closedB es with
                      | false => rfl
                      | true =>
                        have h := closed_found hen hcl _ (List.mem_of_getElem? HX.out) (q : Int) (m : Int) (by omega) (by omega) (by omega) hml
                        rw [hf] at h
                        cases h
                    have HFI := hide (find_any (some ⟨b, off, none⟩) n cap es (q : Int) (m : Int) wr (HV.out.below hB.out) false hf.symm)
                    clear hf
                    generalize getZ c (q : Int) = z at HG hml hm2 hzb
                    go_wp2_with (first
                      | (go_at_call 41; refine HG.out.mono ?_; rintro e w' ⟨rfl, hw⟩; replace hw := hw.symm; subst hw)
                      | (go_at_call 59; refine HFI.out.mono ?_; rintro e w3 ⟨rfl, hb⟩; have HB3 := hide (bel_next hB.out hb); clear hb))
                    go_ret
                    exact ⟨retB HE.out, HB3.out⟩
                  · have HFI := hide (find_any (some ⟨b, off, none⟩) n cap es (q : Int) (m : Int) wr (HV.out.below hB.out) true hf.symm)
                    have HM2 : Hid (∀ t : Int, 1 ≤ t → t < ((m + 1 : Nat) : Int) → findB es ((q : Int), t) = true) := by
                      intro t h1 h2
                      rcases Int.lt_or_le t (m : Int) with h | h
                      · exact HM.out t h1 h
                      · have e : t = (m : Int) := by omega
                        rw [e]; exact hf
                    clear hf
                    generalize hz : getZ c (q : Int) = z at HG hml hm2 hzb ⊢
                    clear hz
                    go_wp2_with (first
                      | (go_at_call 41; refine HG.out.mono ?_; rintro e w' ⟨rfl, hw⟩; replace hw := hw.symm; subst hw)
                      | (go_at_call 59; refine HFI.out.mono ?_; rintro e w3 ⟨rfl, hb⟩; have HB3 := hide (bel_next hB.out hb); clear hb))
                    go_roundw
                    case rel => exact ⟨m + 1, by omega, by omega, by go_num, HM2, HB3⟩
                    case measure => simp [intOf]; omega
                · have HQ2 : Hid (∀ r m : Int, 1 ≤ r → r < ((q + 1 : Nat) : Int) → 1 ≤ m → m ≤ getZ c r → findB es (r, m) = true) := by
                    intro r t h1 h2 h3 h4
                    rcases Int.lt_or_le r (q : Int) with h | h
                    · exact HQ.out r t h1 h h3 h4
                    · have e : r = (q : Int) := by omega
                      subst e
                      exact HM.out t h3 (by omega)
                  generalize getZ c (q : Int) = z at HG hml hm2 hzb
                  go_wp2_with (go_at_call 41; refine HG.out.mono ?_; rintro e w' ⟨rfl, hw⟩; replace hw := hw.symm; subst hw)
                  go_roundw
                  case rel => exact ⟨q + 1, by omega, by omega, by go_num, HQ2, hB⟩
                  case measure => simp [intOf]; omega
            · have hqz : ¬ (q : Int) ≤ 5 := by omega
              have HA2 : Hid (∀ e ∈ es.take (k + 1), ∀ r m : Int, 1 ≤ r → r ≤ 5 → 1 ≤ m → m ≤ getZ e.2.1 r → findB es (r, m) = true) := by
                intro e he
                rw [take_snocE HX.out] at he
                rcases List.mem_append.1 he with h | h
                · exact HA.out e h
                · rw [List.mem_singleton.1 h]
                  exact fun r m h1 h2 h3 h4 => HQ.out r m h1 (by omega) h3 h4
              go_wp2
              go_roundw
              case rel => exact ⟨k + 1, by omega, by go_num, HA2, hB⟩
              case measure => simp [intOf]; omega
        · have hkn : k = n := by omega
          have hkz : ¬ (k : Int) < (n : Int) := by omega
          have HE : Hid (true = closedB es) := by
            unfold Hid
            refine (ok_closed hen HALL.out ?_).symm
            have q := HA.out
            rw [hkn, List.take_of_length_le (by rw [hlen.out]; exact Nat.le_refl _)] at q
            exact q
          clear hkn
          go_wp2
          go_ret
          exact ⟨retB HE.out, hB.out⟩
end Go.Proofs.Ytooggheoaglbeaa

