/- What 'slices.Compact' and 'Order' do. -/
import Derived.Test.YtccpbkemiilgcaaDFun6
namespace Go.Proofs.Ytccpbkemiilgcaa
open Go.RowKit Go.Lib Go.Sort
set_option linter.unusedVariables false

theorem wrapJ {j : Nat} (h : j ≤ 1000000000) : IntKind.i64.wrap (j : Int) = j := by simp [IntKind.wrap, IntKind.bits, IntKind.signed]; omega
theorem compact_done {d dk : Array Dot} {n kk : Nat} {w : World} {g : Nat} (hd : d.size = n) (hI : CompInv d n kk dk) (hH : HD w g dk) (hm : n ≤ maxLen) :
    kk = (compactUpTo d d.size).length ∧ DS (w.setCells g (kk * 2) (List.replicate ((n - kk) * 2) (.int .i64 0))) (some ⟨g, 0, none⟩) (compactUpTo d d.size).length (compactUpTo d d.size) := by
  have hs := hI.size
  rw [hd]
  have e := hI.len
  refine ⟨e.symm, rfl, by rw [e]; have := hI.lt; omega, .inr ⟨g, 0, rfl, fun i hi => ?_⟩⟩
  rw [e] at hi
  have e2 : (compactUpTo d n).getD i (0, 0) = dk[i]! := by rw [List.getD_eq_getElem?_getD, hI.low i hi]; rfl
  have q := hH i (by have := hI.lt; omega)
  rw [e2, Nat.zero_add]
  rw [World.cell?_setCells_out g _ _ _ _ (fun _ _ => Or.inl (by show i * 2 < kk * 2; omega)), World.cell?_setCells_out g _ _ _ _ (fun _ _ => Or.inl (by show i * 2 + 1 < kk * 2; omega))]
  exact ⟨q.1, q.2.1⟩
theorem bel_setCells {N : Nat} {w0 : World} {g : Nat} (hN : N ≤ g) : ∀ (vs : List Value) (o : Nat) (w : World), Below N w0 w → Below N w0 (w.setCells g o vs)
  | [], _, _, h => h
  | v :: r, o, w, h => bel_setCells hN r (o + 1) _ (h.setCell (p := ⟨g, o, none⟩) hN v)

set_option maxHeartbeats 4000000 in
set_option maxRecDepth 100000 in
theorem compact_any (N g cap n : Nat) (d : Array Dot) (w : World) (hd : d.size = n) (hnc : n ≤ cap) (hcm : cap ≤ maxLen) (hN : N ≤ g) (hH : HD w g d) (hn1 : n ≤ 1000000) :
    Calls Try.prog 40 #[.slice (some ⟨g, 0, none⟩) n cap] w fun e w' => e = .returned (.slice (some ⟨g, 0, none⟩) (compactUpTo d d.size).length cap) ∧ DS w' (some ⟨g, 0, none⟩) (compactUpTo d d.size).length (compactUpTo d d.size) ∧ Below N w w' := by
  unfold maxLen at hcm
  have HA : Hid (∀ w', HD w' g d → (∀ j, j < n → keeps d j = true) → n = (compactUpTo d d.size).length ∧ DS w' (some ⟨g, 0, none⟩) (compactUpTo d d.size).length (compactUpTo d d.size)) := by
    intro w' hH' hall
    have e : compactUpTo d d.size = d.toList := by rw [compactUpTo_all d _ (by rw [hd]; exact hall), range_map_get]
    rw [e]
    have e2 : d.toList.length = n := by simpa using hd
    refine ⟨e2.symm, hH'.ds _ (by simp) (by unfold maxLen; omega) (fun j hj => ?_)⟩
    have hj' : j < d.size := by simpa using hj
    rw [getElem!_pos d j hj']
    simp [hj']
  have HN := hide hN
  by_cases h2 : (n : Int) < 2
  · have HH := hide hH
    clear hH
    go_enter Try.func40, Try.ntmps40
    go_wp2
    go_ret
    obtain ⟨e1, e2⟩ := HA.out w HH.out (fun j hj => keeps_lt_one d j (by omega))
    exact ⟨by rw [← e1]; rfl, e2, Below.refl _ _⟩
  · have HH0 := hide hH
    have Hd := hide hd
    clear hH hd
    go_enter Try.func40, Try.ntmps40
    go_wp2
    go_loopw [3] (fun s3 wr => ∃ k : Nat, 1 ≤ k ∧ k ≤ n ∧ s3 = .int .i64 k ∧ Hid (HD wr g d) ∧ Hid (Below N w wr) ∧ Hid (∀ j, j < k → keeps d j = true)) (fun s3 _ => n - (intOf s3).toNat)
    case atStart => exact ⟨1, by omega, by omega, rfl, HH0, Below.refl _ _, keeps_lt_one d⟩
    case round =>
      obtain ⟨k, hk1, hkn, rfl, HH, HB, HK⟩ := hrel
      by_cases hlt : k < n
      · obtain ⟨j, rfl⟩ : ∃ j, k = j + 1 := ⟨k - 1, by omega⟩
        have q1 := HH.out (j + 1) (by rw [Hd.out]; exact hlt)
        have q0 := HH.out j (by rw [Hd.out]; omega)
        obtain ⟨x, hx⟩ : ∃ x, d[j + 1]! = x := ⟨_, rfl⟩
        obtain ⟨y, hy⟩ : ∃ y, d[j]! = y := ⟨_, rfl⟩
        rw [hx] at q1
        rw [hy] at q0
        have HXY : Hid (d[j + 1]! = x ∧ d[j + 1 - 1]! = y) := ⟨hx, hy⟩
        clear hx hy
        obtain ⟨r, s⟩ := x
        obtain ⟨p, q⟩ := y
        have c0 := q1.1
        have c1 := q1.2.1
        have c2 := q0.1
        have c3 := q0.2.1
        clear q0 q1
        have hwj := wrapJ (show j ≤ 1000000000 by omega)
        have hj1 : ((j : Int)) < (n : Int) := by omega
        have hj2 : ((j : Int)) + 1 < (n : Int) := by omega
        by_cases hxy : r = p ∧ s = q
        · have hq := fun w => eqD r s p q true (by symm; exact decide_eq_true hxy) w
          have HS : Hid (CompInv d (j + 1 + 1) (j + 1) d) := CompInv.start HK.out (keeps_neg (by omega) (by rw [HXY.out.1, HXY.out.2, hxy.1, hxy.2]))
          have hcap1 : ¬ (cap = j + 1) := by omega
          have hcap2 : ¬ ((cap : Int) = (j : Int) + 1) := by omega
          have hjc : ((j : Int)) + 1 ≤ (cap : Int) := by omega
          clear hxy HK
          go_wp2
          refine wp_region_held_drew (S := fun W => Below wr.heap.size wr W) (by kernel_rfl) ((Below.refl _ wr).drew) (fun hS0 => ?_)
          refine takeInH 0 16 ?v1 rfl rfl (by kernel_rfl) (by kernel_rfl) (by kernel_rfl) (fun _ _ _ h => h) (by kernel_rfl) hS0 ?hy1 ?_
          case hy1 => (intro W hW; clear hW; go_simp; try rfl)
          simp only [Act.put, List.setIfInBounds_toArray, List.set_cons_zero, List.set_cons_succ]
          refine takeInH 1 17 ?v2 rfl rfl (by kernel_rfl) (by kernel_rfl) (by kernel_rfl) (fun _ _ _ h => h) (by kernel_rfl) hS0 ?hy2 ?_
          case hy2 => (intro W hW; clear hW; go_simp; try rfl)
          simp only [Act.put, List.setIfInBounds_toArray, List.set_cons_zero, List.set_cons_succ]
          refine takeInH 2 18 ?v3 rfl rfl (by kernel_rfl) (by kernel_rfl) (by kernel_rfl) (fun _ _ _ h => h) (by kernel_rfl) hS0 ?hy3 ?_
          case hy3 => (intro W hW; clear hW; go_simp; try rfl)
          simp only [Act.put, List.setIfInBounds_toArray, List.set_cons_zero, List.set_cons_succ]
          refine takeInH 3 19 ?v4 rfl rfl (by kernel_rfl) (by kernel_rfl) (by kernel_rfl) (fun _ _ _ h => h) (by kernel_rfl) hS0 ?hy4 ?_
          case hy4 => (intro W hW; have e0 := bcell hW c0; have e1 := bcell hW c1; have e2 := bcell hW c2; have e3 := bcell hW c3; clear hW; go_simp; try rfl)
          simp only [Act.put, List.setIfInBounds_toArray, List.set_cons_zero, List.set_cons_succ]
          refine takeInH 4 20 ?v5 rfl rfl (by kernel_rfl) (by kernel_rfl) (by kernel_rfl) (fun _ _ _ h => h) (by kernel_rfl) hS0 ?hy5 ?_
          case hy5 => (intro W hW; clear hW; go_simp; try rfl)
          simp only [Act.put, List.setIfInBounds_toArray, List.set_cons_zero, List.set_cons_succ]
          refine takeInH 5 21 ?v6 rfl rfl (by kernel_rfl) (by kernel_rfl) (by kernel_rfl) (fun _ _ _ h => h) (by kernel_rfl) hS0 ?hy6 ?_
          case hy6 => (intro W hW; clear hW; go_simp; try rfl)
          simp only [Act.put, List.setIfInBounds_toArray, List.set_cons_zero, List.set_cons_succ]
          refine takeInH 6 22 ?v7 rfl rfl (by kernel_rfl) (by kernel_rfl) (by kernel_rfl) (fun _ _ _ h => h) (by kernel_rfl) hS0 ?hy7 ?_
          case hy7 => (intro W hW; clear hW; go_simp; try rfl)
          simp only [Act.put, List.setIfInBounds_toArray, List.set_cons_zero, List.set_cons_succ]
          refine takeInH 7 23 ?v8 rfl rfl (by kernel_rfl) (by kernel_rfl) (by kernel_rfl) (fun _ _ _ h => h) (by kernel_rfl) hS0 ?hy8 ?_
          case hy8 => (intro W hW; clear hW; go_simp; try rfl)
          simp only [Act.put, List.setIfInBounds_toArray, List.set_cons_zero, List.set_cons_succ]
          refine takeInH 8 24 ?v9 rfl rfl (by kernel_rfl) (by kernel_rfl) (by kernel_rfl) (fun _ _ _ h => h) (by kernel_rfl) hS0 ?hy9 ?_
          case hy9 => (intro W hW; have e0 := bcell hW c0; have e1 := bcell hW c1; have e2 := bcell hW c2; have e3 := bcell hW c3; clear hW; go_simp; try rfl)
          simp only [Act.put, List.setIfInBounds_toArray, List.set_cons_zero, List.set_cons_succ]
          refine takeInH 9 25 ?v10 rfl rfl (by kernel_rfl) (by kernel_rfl) (by kernel_rfl) (fun _ _ _ h => h) (by kernel_rfl) hS0 ?hy10 ?_
          case hy10 => (intro W hW; clear hW; go_simp; try rfl)
          simp only [Act.put, List.setIfInBounds_toArray, List.set_cons_zero, List.set_cons_succ]
          refine wpAnyH_done (by kernel_rfl) ?_ _
          go_wp2
          have HH1 := hide HH.out.drew
          have HB1 := hide HB.out.drew
          clear c0 c1 c2 c3 HH HB hS0 hq HXY
          generalize wr.drew = wq at *
          clear hwj
          go_loopw [3, 5] (fun s3 s5 wr => ∃ (kk k2 : Nat) (dk : Array Dot), s3 = .int .i64 kk ∧ s5 = .int .i64 k2 ∧ 1 ≤ k2 ∧ (j + 1) + k2 ≤ n ∧ Hid (HD wr g dk) ∧ Hid (Below N w wr) ∧ Hid (CompInv d ((j + 1) + k2) kk dk)) (fun _ s5 _ => n - (intOf s5).toNat)
          case atStart => exact ⟨j + 1, 1, d, by go_num, rfl, by omega, by omega, HH1, HB1, HS⟩
          case round =>
            clear HH1 HB1 HS
            obtain ⟨kk, k2, dk, rfl, rfl, h1, hle, HH, HB, HI⟩ := hrel
            have hkk := HI.out.lt
            have hds : dk.size = n := by rw [HI.out.size, Hd.out]
            by_cases hlt2 : (j + 1) + k2 < n
            · obtain ⟨i, rfl⟩ : ∃ i, k2 = i + 1 := ⟨k2 - 1, by omega⟩
              have q1 := HH.out ((j + 1) + (i + 1)) (by omega)
              have q0 := HH.out ((j + 1) + i) (by omega)
              have qk := HH.out kk (by omega)
              rw [HI.out.high ((j + 1) + (i + 1)) (by omega), show ((j + 1) + (i + 1)) * 2 = (j + 1) * 2 + (i + 1) * 2 by omega] at q1
              rw [HI.out.high ((j + 1) + i) (by omega), show ((j + 1) + i) * 2 = (j + 1) * 2 + i * 2 by omega] at q0
              obtain ⟨x, hx⟩ : ∃ x, d[(j + 1) + (i + 1)]! = x := ⟨_, rfl⟩
              obtain ⟨y, hy⟩ : ∃ y, d[(j + 1) + i]! = y := ⟨_, rfl⟩
              rw [hx] at q1
              rw [hy] at q0
              have HXY : Hid (d[(j + 1) + (i + 1)]! = x ∧ d[(j + 1) + (i + 1) - 1]! = y) := ⟨hx, hy⟩
              clear hx hy
              obtain ⟨r, s⟩ := x
              obtain ⟨p, q⟩ := y
              have c0 := q1.1
              have c1 := q1.2.1
              have c2 := q0.1
              have c3 := q0.2.1
              clear q0 q1
              have hwi := wrapJ (show i ≤ 1000000000 by omega)
              have hw2 : ((i : Int) + 1 - 1) = (i : Int) := by omega
              have hi1 : ((i : Int)) < ((n - (j + 1) : Nat) : Int) := by omega
              have hi2 : ((i : Int)) + 1 < ((n - (j + 1) : Nat) : Int) := by omega
              have hi3 : ((kk : Int)) < (n : Int) := by omega
              by_cases hxy : r = p ∧ s = q
              · have hq := fun w => eqD r s p q true (by symm; exact decide_eq_true hxy) w
                have HI2 : Hid (CompInv d ((j + 1) + (i + 1) + 1) kk dk) := HI.out.skip (keeps_neg (by omega) (by rw [HXY.out.1, HXY.out.2, hxy.1, hxy.2]))
                clear hxy HI
                go_wp2
                refine wp_region_held_drew (S := fun W => Below wr.heap.size wr W) (by kernel_rfl) ((Below.refl _ wr).drew) (fun hS0 => ?_)
                refine takeInH 0 35 ?v11 rfl rfl (by kernel_rfl) (by kernel_rfl) (by kernel_rfl) (fun _ _ _ h => h) (by kernel_rfl) hS0 ?hy11 ?_
                case hy11 => (intro W hW; clear hW; go_simp; try rfl)
                simp only [Act.put, List.setIfInBounds_toArray, List.set_cons_zero, List.set_cons_succ]
                refine takeInH 1 36 ?v12 rfl rfl (by kernel_rfl) (by kernel_rfl) (by kernel_rfl) (fun _ _ _ h => h) (by kernel_rfl) hS0 ?hy12 ?_
                case hy12 => (intro W hW; clear hW; go_simp; try rfl)
                simp only [Act.put, List.setIfInBounds_toArray, List.set_cons_zero, List.set_cons_succ]
                refine takeInH 2 37 ?v13 rfl rfl (by kernel_rfl) (by kernel_rfl) (by kernel_rfl) (fun _ _ _ h => h) (by kernel_rfl) hS0 ?hy13 ?_
                case hy13 => (intro W hW; clear hW; go_simp; try rfl)
                simp only [Act.put, List.setIfInBounds_toArray, List.set_cons_zero, List.set_cons_succ]
                refine takeInH 3 38 ?v14 rfl rfl (by kernel_rfl) (by kernel_rfl) (by kernel_rfl) (fun _ _ _ h => h) (by kernel_rfl) hS0 ?hy14 ?_
                case hy14 => (intro W hW; have e0 := bcell hW c0; have e1 := bcell hW c1; have e2 := bcell hW c2; have e3 := bcell hW c3; clear hW; go_simp; try rfl)
                simp only [Act.put, List.setIfInBounds_toArray, List.set_cons_zero, List.set_cons_succ]
                refine takeInH 4 39 ?v15 rfl rfl (by kernel_rfl) (by kernel_rfl) (by kernel_rfl) (fun _ _ _ h => h) (by kernel_rfl) hS0 ?hy15 ?_
                case hy15 => (intro W hW; clear hW; go_simp; try rfl)
                simp only [Act.put, List.setIfInBounds_toArray, List.set_cons_zero, List.set_cons_succ]
                refine takeInH 5 40 ?v16 rfl rfl (by kernel_rfl) (by kernel_rfl) (by kernel_rfl) (fun _ _ _ h => h) (by kernel_rfl) hS0 ?hy16 ?_
                case hy16 => (intro W hW; clear hW; go_simp; try rfl)
                simp only [Act.put, List.setIfInBounds_toArray, List.set_cons_zero, List.set_cons_succ]
                refine takeInH 6 41 ?v17 rfl rfl (by kernel_rfl) (by kernel_rfl) (by kernel_rfl) (fun _ _ _ h => h) (by kernel_rfl) hS0 ?hy17 ?_
                case hy17 => (intro W hW; clear hW; go_simp; try rfl)
                simp only [Act.put, List.setIfInBounds_toArray, List.set_cons_zero, List.set_cons_succ]
                refine takeInH 7 42 ?v18 rfl rfl (by kernel_rfl) (by kernel_rfl) (by kernel_rfl) (fun _ _ _ h => h) (by kernel_rfl) hS0 ?hy18 ?_
                case hy18 => (intro W hW; clear hW; go_simp; try rfl)
                simp only [Act.put, List.setIfInBounds_toArray, List.set_cons_zero, List.set_cons_succ]
                refine takeInH 8 43 ?v19 rfl rfl (by kernel_rfl) (by kernel_rfl) (by kernel_rfl) (fun _ _ _ h => h) (by kernel_rfl) hS0 ?hy19 ?_
                case hy19 => (intro W hW; have e0 := bcell hW c0; have e1 := bcell hW c1; have e2 := bcell hW c2; have e3 := bcell hW c3; clear hW; go_simp; try rfl)
                simp only [Act.put, List.setIfInBounds_toArray, List.set_cons_zero, List.set_cons_succ]
                refine takeInH 9 44 ?v20 rfl rfl (by kernel_rfl) (by kernel_rfl) (by kernel_rfl) (fun _ _ _ h => h) (by kernel_rfl) hS0 ?hy20 ?_
                case hy20 => (intro W hW; clear hW; go_simp; try rfl)
                simp only [Act.put, List.setIfInBounds_toArray, List.set_cons_zero, List.set_cons_succ]
                refine wpAnyH_done (by kernel_rfl) ?_ _
                have HH1 := hide HH.out.drew
                have HB1 := hide HB.out.drew
                go_wp2
                go_roundw
                case rel => exact ⟨kk, i + 1 + 1, dk, rfl, by go_num, by omega, by omega, HH1, HB1, HI2⟩
                case measure => simp [intOf]; omega
              · have hq := fun w => eqD r s p q false (by symm; exact decide_eq_false hxy) w
                have HI2 : Hid (CompInv d ((j + 1) + (i + 1) + 1) (kk + 1) (dk.setIfInBounds kk (r, s))) := by
                  have z := HI.out.keep (by rw [Hd.out]; exact hlt2) (keeps_pos (by rw [HXY.out.1, HXY.out.2]; intro e; exact hxy ⟨congrArg Prod.fst e, congrArg Prod.snd e⟩))
                  rw [HXY.out.1] at z
                  exact z
                clear hxy HI
                go_wp2
                refine wp_region_held_drew (S := fun W => Below wr.heap.size wr W) (by kernel_rfl) ((Below.refl _ wr).drew) (fun hS0 => ?_)
                refine takeInH 0 35 ?v21 rfl rfl (by kernel_rfl) (by kernel_rfl) (by kernel_rfl) (fun _ _ _ h => h) (by kernel_rfl) hS0 ?hy21 ?_
                case hy21 => (intro W hW; clear hW; go_simp; try rfl)
                simp only [Act.put, List.setIfInBounds_toArray, List.set_cons_zero, List.set_cons_succ]
                refine takeInH 1 36 ?v22 rfl rfl (by kernel_rfl) (by kernel_rfl) (by kernel_rfl) (fun _ _ _ h => h) (by kernel_rfl) hS0 ?hy22 ?_
                case hy22 => (intro W hW; clear hW; go_simp; try rfl)
                simp only [Act.put, List.setIfInBounds_toArray, List.set_cons_zero, List.set_cons_succ]
                refine takeInH 2 37 ?v23 rfl rfl (by kernel_rfl) (by kernel_rfl) (by kernel_rfl) (fun _ _ _ h => h) (by kernel_rfl) hS0 ?hy23 ?_
                case hy23 => (intro W hW; clear hW; go_simp; try rfl)
                simp only [Act.put, List.setIfInBounds_toArray, List.set_cons_zero, List.set_cons_succ]
                refine takeInH 3 38 ?v24 rfl rfl (by kernel_rfl) (by kernel_rfl) (by kernel_rfl) (fun _ _ _ h => h) (by kernel_rfl) hS0 ?hy24 ?_
                case hy24 => (intro W hW; have e0 := bcell hW c0; have e1 := bcell hW c1; have e2 := bcell hW c2; have e3 := bcell hW c3; clear hW; go_simp; try rfl)
                simp only [Act.put, List.setIfInBounds_toArray, List.set_cons_zero, List.set_cons_succ]
                refine takeInH 4 39 ?v25 rfl rfl (by kernel_rfl) (by kernel_rfl) (by kernel_rfl) (fun _ _ _ h => h) (by kernel_rfl) hS0 ?hy25 ?_
                case hy25 => (intro W hW; clear hW; go_simp; try rfl)
                simp only [Act.put, List.setIfInBounds_toArray, List.set_cons_zero, List.set_cons_succ]
                refine takeInH 5 40 ?v26 rfl rfl (by kernel_rfl) (by kernel_rfl) (by kernel_rfl) (fun _ _ _ h => h) (by kernel_rfl) hS0 ?hy26 ?_
                case hy26 => (intro W hW; clear hW; go_simp; try rfl)
                simp only [Act.put, List.setIfInBounds_toArray, List.set_cons_zero, List.set_cons_succ]
                refine takeInH 6 41 ?v27 rfl rfl (by kernel_rfl) (by kernel_rfl) (by kernel_rfl) (fun _ _ _ h => h) (by kernel_rfl) hS0 ?hy27 ?_
                case hy27 => (intro W hW; clear hW; go_simp; try rfl)
                simp only [Act.put, List.setIfInBounds_toArray, List.set_cons_zero, List.set_cons_succ]
                refine takeInH 7 42 ?v28 rfl rfl (by kernel_rfl) (by kernel_rfl) (by kernel_rfl) (fun _ _ _ h => h) (by kernel_rfl) hS0 ?hy28 ?_
                case hy28 => (intro W hW; clear hW; go_simp; try rfl)
                simp only [Act.put, List.setIfInBounds_toArray, List.set_cons_zero, List.set_cons_succ]
                refine takeInH 8 43 ?v29 rfl rfl (by kernel_rfl) (by kernel_rfl) (by kernel_rfl) (fun _ _ _ h => h) (by kernel_rfl) hS0 ?hy29 ?_
                case hy29 => (intro W hW; have e0 := bcell hW c0; have e1 := bcell hW c1; have e2 := bcell hW c2; have e3 := bcell hW c3; clear hW; go_simp; try rfl)
                simp only [Act.put, List.setIfInBounds_toArray, List.set_cons_zero, List.set_cons_succ]
                refine takeInH 9 44 ?v30 rfl rfl (by kernel_rfl) (by kernel_rfl) (by kernel_rfl) (fun _ _ _ h => h) (by kernel_rfl) hS0 ?hy30 ?_
                case hy30 => (intro W hW; clear hW; go_simp; try rfl)
                simp only [Act.put, List.setIfInBounds_toArray, List.set_cons_zero, List.set_cons_succ]
                refine wpAnyH_done (by kernel_rfl) ?_ _
                have HH1 := hide (HH.out.drew.set (k := kk) (by omega) r s)
                have HB1 := hide ((HB.out.drew.setCell (p := ⟨g, kk * 2, none⟩) HN.out (.int .i64 r)).setCell (p := ⟨g, kk * 2 + 1, none⟩) HN.out (.int .i64 s))
                have d0 : wr.drew.cell? ⟨g, (j + 1) * 2 + (i + 1) * 2, none⟩ = some (.int .i64 r) := c0
                have d1 : wr.drew.cell? ⟨g, (j + 1) * 2 + (i + 1) * 2 + 1, none⟩ = some (.int .i64 s) := c1
                have k0 : wr.drew.cell? ⟨g, kk * 2, none⟩ = some _ := qk.1
                have k1 : wr.drew.cell? ⟨g, kk * 2 + 1, none⟩ = some _ := qk.2.1
                have f0 : wr.drew.frozen? ⟨g, kk * 2, none⟩ = false := qk.2.2.1
                have f1 : wr.drew.frozen? ⟨g, kk * 2 + 1, none⟩ = false := qk.2.2.2
                clear c0 c1 c2 c3 qk hS0 HH HB
                generalize wr.drew = wq at *
                go_wp2
                go_roundw
                case rel => exact ⟨kk + 1, i + 1 + 1, dk.setIfInBounds kk (r, s), by go_num, by go_num, by omega, by omega, HH1, HB1, HI2⟩
                case measure => simp [intOf]; omega
            · have hend : (j + 1) + k2 = n := by omega
              have hcl := fun ty => clear_dots wr g kk n (cap - kk) dk hds HH.out (by omega) ty
              have hI := HI.out
              rw [hend] at hI
              have HE := hide (compact_done Hd.out hI HH.out (by unfold maxLen; omega))
              have HB2 := hide (bel_setCells HN.out (List.replicate ((n - kk) * 2) (.int .i64 0)) (kk * 2) wr HB.out)
              have hc1 : ¬ (cap = kk) := by omega
              have hc2 : ¬ ((cap : Int) = (kk : Int)) := by omega
              have hc3 : ((kk : Int)) ≤ (n : Int) := by omega
              have hc4 : ((kk : Int)) ≤ (cap : Int) := by omega
              have hc5 : ¬ ((k2 : Int) < ((n - (j + 1) : Nat) : Int)) := by omega
              clear hI HI HH HB
              go_wp2
              go_ret
              exact ⟨by rw [← HE.out.1]; rfl, HE.out.2, HB2.out⟩
        · have hq := fun w => eqD r s p q false (by symm; exact decide_eq_false hxy) w
          have HK2 : Hid (∀ i, i < j + 1 + 1 → keeps d i = true) := fun i hi => by
            by_cases e : i = j + 1
            · subst e; exact keeps_pos (by rw [HXY.out.1, HXY.out.2]; intro e; exact hxy ⟨congrArg Prod.fst e, congrArg Prod.snd e⟩)
            · exact HK.out i (by omega)
          clear hxy HK
          go_wp2
          refine wp_region_held_drew (S := fun W => Below wr.heap.size wr W) (by kernel_rfl) ((Below.refl _ wr).drew) (fun hS0 => ?_)
          refine takeInH 0 16 ?v31 rfl rfl (by kernel_rfl) (by kernel_rfl) (by kernel_rfl) (fun _ _ _ h => h) (by kernel_rfl) hS0 ?hy31 ?_
          case hy31 => (intro W hW; clear hW; go_simp; try rfl)
          simp only [Act.put, List.setIfInBounds_toArray, List.set_cons_zero, List.set_cons_succ]
          refine takeInH 1 17 ?v32 rfl rfl (by kernel_rfl) (by kernel_rfl) (by kernel_rfl) (fun _ _ _ h => h) (by kernel_rfl) hS0 ?hy32 ?_
          case hy32 => (intro W hW; clear hW; go_simp; try rfl)
          simp only [Act.put, List.setIfInBounds_toArray, List.set_cons_zero, List.set_cons_succ]
          refine takeInH 2 18 ?v33 rfl rfl (by kernel_rfl) (by kernel_rfl) (by kernel_rfl) (fun _ _ _ h => h) (by kernel_rfl) hS0 ?hy33 ?_
          case hy33 => (intro W hW; clear hW; go_simp; try rfl)
          simp only [Act.put, List.setIfInBounds_toArray, List.set_cons_zero, List.set_cons_succ]
          refine takeInH 3 19 ?v34 rfl rfl (by kernel_rfl) (by kernel_rfl) (by kernel_rfl) (fun _ _ _ h => h) (by kernel_rfl) hS0 ?hy34 ?_
          case hy34 => (intro W hW; have e0 := bcell hW c0; have e1 := bcell hW c1; have e2 := bcell hW c2; have e3 := bcell hW c3; clear hW; go_simp; try rfl)
          simp only [Act.put, List.setIfInBounds_toArray, List.set_cons_zero, List.set_cons_succ]
          refine takeInH 4 20 ?v35 rfl rfl (by kernel_rfl) (by kernel_rfl) (by kernel_rfl) (fun _ _ _ h => h) (by kernel_rfl) hS0 ?hy35 ?_
          case hy35 => (intro W hW; clear hW; go_simp; try rfl)
          simp only [Act.put, List.setIfInBounds_toArray, List.set_cons_zero, List.set_cons_succ]
          refine takeInH 5 21 ?v36 rfl rfl (by kernel_rfl) (by kernel_rfl) (by kernel_rfl) (fun _ _ _ h => h) (by kernel_rfl) hS0 ?hy36 ?_
          case hy36 => (intro W hW; clear hW; go_simp; try rfl)
          simp only [Act.put, List.setIfInBounds_toArray, List.set_cons_zero, List.set_cons_succ]
          refine takeInH 6 22 ?v37 rfl rfl (by kernel_rfl) (by kernel_rfl) (by kernel_rfl) (fun _ _ _ h => h) (by kernel_rfl) hS0 ?hy37 ?_
          case hy37 => (intro W hW; clear hW; go_simp; try rfl)
          simp only [Act.put, List.setIfInBounds_toArray, List.set_cons_zero, List.set_cons_succ]
          refine takeInH 7 23 ?v38 rfl rfl (by kernel_rfl) (by kernel_rfl) (by kernel_rfl) (fun _ _ _ h => h) (by kernel_rfl) hS0 ?hy38 ?_
          case hy38 => (intro W hW; clear hW; go_simp; try rfl)
          simp only [Act.put, List.setIfInBounds_toArray, List.set_cons_zero, List.set_cons_succ]
          refine takeInH 8 24 ?v39 rfl rfl (by kernel_rfl) (by kernel_rfl) (by kernel_rfl) (fun _ _ _ h => h) (by kernel_rfl) hS0 ?hy39 ?_
          case hy39 => (intro W hW; have e0 := bcell hW c0; have e1 := bcell hW c1; have e2 := bcell hW c2; have e3 := bcell hW c3; clear hW; go_simp; try rfl)
          simp only [Act.put, List.setIfInBounds_toArray, List.set_cons_zero, List.set_cons_succ]
          refine takeInH 9 25 ?v40 rfl rfl (by kernel_rfl) (by kernel_rfl) (by kernel_rfl) (fun _ _ _ h => h) (by kernel_rfl) hS0 ?hy40 ?_
          case hy40 => (intro W hW; clear hW; go_simp; try rfl)
          simp only [Act.put, List.setIfInBounds_toArray, List.set_cons_zero, List.set_cons_succ]
          refine wpAnyH_done (by kernel_rfl) ?_ _
          have HH1 := hide HH.out.drew
          have HB1 := hide HB.out.drew
          go_wp2
          go_roundw
          case rel => exact ⟨j + 1 + 1, by omega, by omega, by go_num, HH1, HB1, HK2⟩
          case measure => simp [intOf]; omega
      · have hkl : k = n := by omega
        subst hkl
        have HE := hide (HA.out _ HH.out HK.out)
        go_wp2
        go_ret
        exact ⟨by rw [← HE.out.1]; rfl, HE.out.2, HB.out⟩

set_option maxHeartbeats 400000 in
set_option maxRecDepth 100000 in
theorem compact_none (w : World) : Calls Try.prog 40 #[.slice none 0 0] w fun e w' => e = .returned (.slice none 0 0) ∧ w' = w := by
  go_enter Try.func40, Try.ntmps40
  go_wp2
  go_ret
  exact ⟨rfl, rfl⟩
theorem sort_none (w : World) : Calls Try.prog 38 #[.slice none 0 0, .func (.func 39) #[] #[]] w fun e w' => e = .returned (.tuple #[]) ∧ w' = w := by
  have h := AnyF.slices_SortFunc_none sortD none 0 (.func (.func 39) #[] #[]) w
  change Calls Try.prog 38 _ _ _ at h
  exact h
set_option maxHeartbeats 400000 in
/-- The program's 'Order'. -/
theorem Order_dots (a : Option Addr) (n cap : Nat) (l : List Dot) (w : World) (hD : DS w a n l) (hn : n ≤ 1000000) :
    Calls Try.prog 15 #[.slice a n cap] w fun e w' => ∃ p c, e = .returned (.slice p (ordD l).length c) ∧ DS w' p (ordD l).length (ordD l) ∧ CP p (ordD l).length c ∧ Below w.heap.size w w' := by
  have hlen := hD.1
  subst hlen
  have HC := hide (cloneD_any a l.length cap l w hD hn)
  clear hD
  go_enter Try.func15, Try.ntmps15
  go_wp2_with (go_at_call 37; refine Stop.at ?_)
  unfold Stop
  refine HC.out.mono ?_
  rintro e w1 ⟨v, rfl, hO, hB⟩
  rcases hO.row with ⟨rfl, rfl⟩ | ⟨g, c, rfl, hN, hg, hlc, hcm, hH⟩
  · have HB := hide hB
    clear hB hO HC
    go_wp2_with (first
      | (go_at_call 38; refine (sort_none _).mono ?_; rintro e w' ⟨rfl, hw⟩; replace hw := hw.symm; subst hw)
      | (go_at_call 40; refine (compact_none _).mono ?_; rintro e w' ⟨rfl, hw⟩; replace hw := hw.symm; subst hw))
    go_ret
    exact ⟨none, 0, rfl, DS.nil _ _, ⟨Nat.le_refl _, by decide, fun _ => rfl⟩, HB.out⟩
  · have HB := hide hB
    have HSo := hide (sort_any w.heap.size g c l w1 hN hg hH (by omega))
    clear hB hO HC hH
    go_wp2_with (go_at_call 38; refine Stop.at ?_)
    unfold Stop
    refine HSo.out.mono ?_
    rintro e w2 ⟨rfl, hB2, hg2, d, hd, hH2, hc⟩
    have HB2 := hide (HB.out.trans hB2)
    have HCo := hide (compact_any w.heap.size g c l.length d w2 hd hlc hcm hN hH2 (by omega))
    rw [hc] at HCo
    clear hB2 hH2 hc HB HSo
    go_wp2_with (go_at_call 40; refine Stop.at ?_)
    unfold Stop
    refine HCo.out.mono ?_
    rintro e w3 ⟨rfl, hDS, hB3⟩
    have HB3 := hide (HB2.out.trans hB3)
    have HDS := hide hDS
    have hl3 := ordD_len l
    clear hB3 hDS HCo
    go_wp2
    go_ret
    exact ⟨_, c, rfl, HDS.out, CP.some (by omega) hcm, HB3.out⟩
end Go.Proofs.Ytccpbkemiilgcaa
