/- Texts of this claim, joined: DFun7, EClo, EAhead, ELaw. -/
import Derived.Test.YtooggheoaglbeaaJ5
/- What 'slices.Compact' and 'Order' do. -/
namespace Go.Proofs.Ytooggheoaglbeaa
open Go.RowKit Go.Lib Go.Sort
set_option linter.unusedVariables false

theorem wrapJ {j : Nat} (h : j ≤ 1000000000) : IntKind.i64.wrap (j : Int) = j := by simp [IntKind.wrap, IntKind.bits, IntKind.signed]; omega
theorem compact_done {d dk : Array Dot} {n kk : Nat} {w : World} {g : Nat} (hd : d.size = n) (hI : CompInv d n kk dk) (hH : HD w g dk) (hm : n ≤ maxLen) :
    kk = (compactUpTo d d.size).length ∧ DS (w.setCells g (kk * 2) (List.replicate ((n - kk) * 2) (.int .i64 0))) (some ⟨g, 0, none⟩) (compactUpTo d d.size).length (compactUpTo d d.size) := by
  have hs := hI.size
  rw [hd]
  have e := hI.len
  refine ⟨e.symm, rfl, by rw [e]; have := hI.lt; omega, .inr ⟨g, 0, rfl, fun i hi => ?_⟩⟩
  rw [e] at hi
  have e2 : (compactUpTo d n).getD i (0, 0) = dk[i]! := by rw [List.getD_eq_getElem?_getD, hI.low i hi]; rfl
  have q := hH i (by have := hI.lt; omega)
  rw [e2, Nat.zero_add]
  rw [World.cell?_setCells_out g _ _ _ _ (fun _ _ => Or.inl (by show i * 2 < kk * 2; omega)), World.cell?_setCells_out g _ _ _ _ (fun _ _ => Or.inl (by show i * 2 + 1 < kk * 2; omega))]
  exact ⟨q.1, q.2.1⟩
theorem bel_setCells {N : Nat} {w0 : World} {g : Nat} (hN : N ≤ g) : ∀ (vs : List Value) (o : Nat) (w : World), Below N w0 w → Below N w0 (w.setCells g o vs)
  | [], _, _, h => h
  | v :: r, o, w, h => bel_setCells hN r (o + 1) _ (h.setCell (p := ⟨g, o, none⟩) hN v)

set_option maxHeartbeats 4000000 in
set_option maxRecDepth 100000 in
theorem compact_any (N g cap n : Nat) (d : Array Dot) (w : World) (hd : d.size = n) (hnc : n ≤ cap) (hcm : cap ≤ maxLen) (hN : N ≤ g) (hH : HD w g d) (hn1 : n ≤ 1000000) :
    Calls Try.prog 85 #[.slice (some ⟨g, 0, none⟩) n cap] w fun e w' => e = .returned (.slice (some ⟨g, 0, none⟩) (compactUpTo d d.size).length cap) ∧ DS w' (some ⟨g, 0, none⟩) (compactUpTo d d.size).length (compactUpTo d d.size) ∧ Below N w w' := by
  unfold maxLen at hcm
  have HA : Hid (∀ w', HD w' g d → (∀ j, j < n → keeps d j = true) → n = (compactUpTo d d.size).length ∧ DS w' (some ⟨g, 0, none⟩) (compactUpTo d d.size).length (compactUpTo d d.size)) := by
    intro w' hH' hall
    have e : compactUpTo d d.size = d.toList := by rw [compactUpTo_all d _ (by rw [hd]; exact hall), range_map_get]
    rw [e]
    have e2 : d.toList.length = n := by simpa using hd
    refine ⟨e2.symm, hH'.ds _ (by simp) (by unfold maxLen; omega) (fun j hj => ?_)⟩
    have hj' : j < d.size := by simpa using hj
    rw [getElem!_pos d j hj']
    simp [hj']
  have HN := hide hN
  by_cases h2 : (n : Int) < 2
  · have HH := hide hH
    clear hH
    go_enter Try.func85, Try.ntmps85
    go_wp2
    go_ret
    obtain ⟨e1, e2⟩ := HA.out w HH.out (fun j hj => keeps_lt_one d j (by omega))
    exact ⟨by rw [← e1]; rfl, e2, Below.refl _ _⟩
  · have HH0 := hide hH
    have Hd := hide hd
    clear hH hd
    go_enter Try.func85, Try.ntmps85
    go_wp2
    go_loopw [3] (fun s3 wr => ∃ k : Nat, 1 ≤ k ∧ k ≤ n ∧ s3 = .int .i64 k ∧ Hid (HD wr g d) ∧ Hid (Below N w wr) ∧ Hid (∀ j, j < k → keeps d j = true)) (fun s3 _ => n - (intOf s3).toNat)
    case atStart => exact ⟨1, by omega, by omega, rfl, HH0, Below.refl _ _, keeps_lt_one d⟩
    case round =>
      obtain ⟨k, hk1, hkn, rfl, HH, HB, HK⟩ := hrel
      by_cases hlt : k < n
      · obtain ⟨j, rfl⟩ : ∃ j, k = j + 1 := ⟨k - 1, by omega⟩
        have q1 := HH.out (j + 1) (by rw [Hd.out]; exact hlt)
        have q0 := HH.out j (by rw [Hd.out]; omega)
        obtain ⟨x, hx⟩ : ∃ x, d[j + 1]! = x := ⟨_, rfl⟩
        obtain ⟨y, hy⟩ : ∃ y, d[j]! = y := ⟨_, rfl⟩
        rw [hx] at q1
        rw [hy] at q0
        have HXY : Hid (d[j + 1]! = x ∧ d[j + 1 - 1]! = y) := ⟨hx, hy⟩
        clear hx hy
        obtain ⟨r, s⟩ := x
        obtain ⟨p, q⟩ := y
        have c0 := q1.1
        have c1 := q1.2.1
        have c2 := q0.1
        have c3 := q0.2.1
        clear q0 q1
        have hwj := wrapJ (show j ≤ 1000000000 by omega)
        have hj1 : ((j : Int)) < (n : Int) := by omega
        have hj2 : ((j : Int)) + 1 < (n : Int) := by omega
        by_cases hxy : r = p ∧ s = q
        · have hq := fun w => eqD r s p q true (by symm; exact decide_eq_true hxy) w
          have HS : Hid (CompInv d (j + 1 + 1) (j + 1) d) := CompInv.start HK.out (keeps_neg (by omega) (by rw [HXY.out.1, HXY.out.2, hxy.1, hxy.2]))
          have hcap1 : ¬ (cap = j + 1) := by omega
          have hcap2 : ¬ ((cap : Int) = (j : Int) + 1) := by omega
          have hjc : ((j : Int)) + 1 ≤ (cap : Int) := by omega
          clear hxy HK
          go_wp2
          refine wp_region_held_drew (S := fun W => Below wr.heap.size wr W) (by kernel_rfl) ((Below.refl _ wr).drew) (fun hS0 => ?_)
          refine takeInH 0 16 ?v1 rfl rfl (by kernel_rfl) (by kernel_rfl) (by kernel_rfl) (fun _ _ _ h => h) (by kernel_rfl) hS0 ?hy1 ?_
          case hy1 => (intro W hW; clear hW; go_simp; try rfl)
          simp only [Act.put, List.setIfInBounds_toArray, List.set_cons_zero, List.set_cons_succ]
          refine takeInH 1 17 ?v2 rfl rfl (by kernel_rfl) (by kernel_rfl) (by kernel_rfl) (fun _ _ _ h => h) (by kernel_rfl) hS0 ?hy2 ?_
          case hy2 => (intro W hW; clear hW; go_simp; try rfl)
          simp only [Act.put, List.setIfInBounds_toArray, List.set_cons_zero, List.set_cons_succ]
          refine takeInH 2 18 ?v3 rfl rfl (by kernel_rfl) (by kernel_rfl) (by kernel_rfl) (fun _ _ _ h => h) (by kernel_rfl) hS0 ?hy3 ?_
          case hy3 => (intro W hW; clear hW; go_simp; try rfl)
          simp only [Act.put, List.setIfInBounds_toArray, List.set_cons_zero, List.set_cons_succ]
          refine takeInH 3 19 ?v4 rfl rfl (by kernel_rfl) (by kernel_rfl) (by kernel_rfl) (fun _ _ _ h => h) (by kernel_rfl) hS0 ?hy4 ?_
          case hy4 => (intro W hW; have e0 := bcell hW c0; have e1 := bcell hW c1; have e2 := bcell hW c2; have e3 := bcell hW c3; clear hW; go_simp; try rfl)
          simp only [Act.put, List.setIfInBounds_toArray, List.set_cons_zero, List.set_cons_succ]
          refine takeInH 4 20 ?v5 rfl rfl (by kernel_rfl) (by kernel_rfl) (by kernel_rfl) (fun _ _ _ h => h) (by kernel_rfl) hS0 ?hy5 ?_
          case hy5 => (intro W hW; clear hW; go_simp; try rfl)
          simp only [Act.put, List.setIfInBounds_toArray, List.set_cons_zero, List.set_cons_succ]
          refine takeInH 5 21 ?v6 rfl rfl (by kernel_rfl) (by kernel_rfl) (by kernel_rfl) (fun _ _ _ h => h) (by kernel_rfl) hS0 ?hy6 ?_
          case hy6 => (intro W hW; clear hW; go_simp; try rfl)
          simp only [Act.put, List.setIfInBounds_toArray, List.set_cons_zero, List.set_cons_succ]
          refine takeInH 6 22 ?v7 rfl rfl (by kernel_rfl) (by kernel_rfl) (by kernel_rfl) (fun _ _ _ h => h) (by kernel_rfl) hS0 ?hy7 ?_
          case hy7 => (intro W hW; clear hW; go_simp; try rfl)
          simp only [Act.put, List.setIfInBounds_toArray, List.set_cons_zero, List.set_cons_succ]
          refine takeInH 7 23 ?v8 rfl rfl (by kernel_rfl) (by kernel_rfl) (by kernel_rfl) (fun _ _ _ h => h) (by kernel_rfl) hS0 ?hy8 ?_
          case hy8 => (intro W hW; clear hW; go_simp; try rfl)
          simp only [Act.put, List.setIfInBounds_toArray, List.set_cons_zero, List.set_cons_succ]
          refine takeInH 8 24 ?v9 rfl rfl (by kernel_rfl) (by kernel_rfl) (by kernel_rfl) (fun _ _ _ h => h) (by kernel_rfl) hS0 ?hy9 ?_
          case hy9 => (intro W hW; have e0 := bcell hW c0; have e1 := bcell hW c1; have e2 := bcell hW c2; have e3 := bcell hW c3; clear hW; go_simp; try rfl)
          simp only [Act.put, List.setIfInBounds_toArray, List.set_cons_zero, List.set_cons_succ]
          refine takeInH 9 25 ?v10 rfl rfl (by kernel_rfl) (by kernel_rfl) (by kernel_rfl) (fun _ _ _ h => h) (by kernel_rfl) hS0 ?hy10 ?_
          case hy10 => (intro W hW; clear hW; go_simp; try rfl)
          simp only [Act.put, List.setIfInBounds_toArray, List.set_cons_zero, List.set_cons_succ]
          refine wpAnyH_done (by kernel_rfl) ?_ _
          go_wp2
          have HH1 := hide HH.out.drew
          have HB1 := hide HB.out.drew
          clear c0 c1 c2 c3 HH HB hS0 hq HXY
          generalize wr.drew = wq at *
          clear hwj
          go_loopw [3, 5] (fun s3 s5 wr => ∃ (kk k2 : Nat) (dk : Array Dot), s3 = .int .i64 kk ∧ s5 = .int .i64 k2 ∧ 1 ≤ k2 ∧ (j + 1) + k2 ≤ n ∧ Hid (HD wr g dk) ∧ Hid (Below N w wr) ∧ Hid (CompInv d ((j + 1) + k2) kk dk)) (fun _ s5 _ => n - (intOf s5).toNat)
          case atStart => exact ⟨j + 1, 1, d, by go_num, rfl, by omega, by omega, HH1, HB1, HS⟩
          case round =>
            clear HH1 HB1 HS
            obtain ⟨kk, k2, dk, rfl, rfl, h1, hle, HH, HB, HI⟩ := hrel
            have hkk := HI.out.lt
            have hds : dk.size = n := by rw [HI.out.size, Hd.out]
            by_cases hlt2 : (j + 1) + k2 < n
            · obtain ⟨i, rfl⟩ : ∃ i, k2 = i + 1 := ⟨k2 - 1, by omega⟩
              have q1 := HH.out ((j + 1) + (i + 1)) (by omega)
              have q0 := HH.out ((j + 1) + i) (by omega)
              have qk := HH.out kk (by omega)
              rw [HI.out.high ((j + 1) + (i + 1)) (by omega), show ((j + 1) + (i + 1)) * 2 = (j + 1) * 2 + (i + 1) * 2 by omega] at q1
              rw [HI.out.high ((j + 1) + i) (by omega), show ((j + 1) + i) * 2 = (j + 1) * 2 + i * 2 by omega] at q0
              obtain ⟨x, hx⟩ : ∃ x, d[(j + 1) + (i + 1)]! = x := ⟨_, rfl⟩
              obtain ⟨y, hy⟩ : ∃ y, d[(j + 1) + i]! = y := ⟨_, rfl⟩
              rw [hx] at q1
              rw [hy] at q0
              have HXY : Hid (d[(j + 1) + (i + 1)]! = x ∧ d[(j + 1) + (i + 1) - 1]! = y) := ⟨hx, hy⟩
              clear hx hy
              obtain ⟨r, s⟩ := x
              obtain ⟨p, q⟩ := y
              have c0 := q1.1
              have c1 := q1.2.1
              have c2 := q0.1
              have c3 := q0.2.1
              clear q0 q1
              have hwi := wrapJ (show i ≤ 1000000000 by omega)
              have hw2 : ((i : Int) + 1 - 1) = (i : Int) := by omega
              have hi1 : ((i : Int)) < ((n - (j + 1) : Nat) : Int) := by omega
              have hi2 : ((i : Int)) + 1 < ((n - (j + 1) : Nat) : Int) := by omega
              have hi3 : ((kk : Int)) < (n : Int) := by omega
              by_cases hxy : r = p ∧ s = q
              · have hq := fun w => eqD r s p q true (by symm; exact decide_eq_true hxy) w
                have HI2 : Hid (CompInv d ((j + 1) + (i + 1) + 1) kk dk) := HI.out.skip (keeps_neg (by omega) (by rw [HXY.out.1, HXY.out.2, hxy.1, hxy.2]))
                clear hxy HI
                go_wp2
                refine wp_region_held_drew (S := fun W => Below wr.heap.size wr W) (by kernel_rfl) ((Below.refl _ wr).drew) (fun hS0 => ?_)
                refine takeInH 0 35 ?v11 rfl rfl (by kernel_rfl) (by kernel_rfl) (by kernel_rfl) (fun _ _ _ h => h) (by kernel_rfl) hS0 ?hy11 ?_
                case hy11 => (intro W hW; clear hW; go_simp; try rfl)
                simp only [Act.put, List.setIfInBounds_toArray, List.set_cons_zero, List.set_cons_succ]
                refine takeInH 1 36 ?v12 rfl rfl (by kernel_rfl) (by kernel_rfl) (by kernel_rfl) (fun _ _ _ h => h) (by kernel_rfl) hS0 ?hy12 ?_
                case hy12 => (intro W hW; clear hW; go_simp; try rfl)
                simp only [Act.put, List.setIfInBounds_toArray, List.set_cons_zero, List.set_cons_succ]
                refine takeInH 2 37 ?v13 rfl rfl (by kernel_rfl) (by kernel_rfl) (by kernel_rfl) (fun _ _ _ h => h) (by kernel_rfl) hS0 ?hy13 ?_
                case hy13 => (intro W hW; clear hW; go_simp; try rfl)
                simp only [Act.put, List.setIfInBounds_toArray, List.set_cons_zero, List.set_cons_succ]
                refine takeInH 3 38 ?v14 rfl rfl (by kernel_rfl) (by kernel_rfl) (by kernel_rfl) (fun _ _ _ h => h) (by kernel_rfl) hS0 ?hy14 ?_
                case hy14 => (intro W hW; have e0 := bcell hW c0; have e1 := bcell hW c1; have e2 := bcell hW c2; have e3 := bcell hW c3; clear hW; go_simp; try rfl)
                simp only [Act.put, List.setIfInBounds_toArray, List.set_cons_zero, List.set_cons_succ]
                refine takeInH 4 39 ?v15 rfl rfl (by kernel_rfl) (by kernel_rfl) (by kernel_rfl) (fun _ _ _ h => h) (by kernel_rfl) hS0 ?hy15 ?_
                case hy15 => (intro W hW; clear hW; go_simp; try rfl)
                simp only [Act.put, List.setIfInBounds_toArray, List.set_cons_zero, List.set_cons_succ]
                refine takeInH 5 40 ?v16 rfl rfl (by kernel_rfl) (by kernel_rfl) (by kernel_rfl) (fun _ _ _ h => h) (by kernel_rfl) hS0 ?hy16 ?_
                case hy16 => (intro W hW; clear hW; go_simp; try rfl)
                simp only [Act.put, List.setIfInBounds_toArray, List.set_cons_zero, List.set_cons_succ]
                refine takeInH 6 41 ?v17 rfl rfl (by kernel_rfl) (by kernel_rfl) (by kernel_rfl) (fun _ _ _ h => h) (by kernel_rfl) hS0 ?hy17 ?_
                case hy17 => (intro W hW; clear hW; go_simp; try rfl)
                simp only [Act.put, List.setIfInBounds_toArray, List.set_cons_zero, List.set_cons_succ]
                refine takeInH 7 42 ?v18 rfl rfl (by kernel_rfl) (by kernel_rfl) (by kernel_rfl) (fun _ _ _ h => h) (by kernel_rfl) hS0 ?hy18 ?_
                case hy18 => (intro W hW; clear hW; go_simp; try rfl)
                simp only [Act.put, List.setIfInBounds_toArray, List.set_cons_zero, List.set_cons_succ]
                refine takeInH 8 43 ?v19 rfl rfl (by kernel_rfl) (by kernel_rfl) (by kernel_rfl) (fun _ _ _ h => h) (by kernel_rfl) hS0 ?hy19 ?_
                case hy19 => (intro W hW; have e0 := bcell hW c0; have e1 := bcell hW c1; have e2 := bcell hW c2; have e3 := bcell hW c3; clear hW; go_simp; try rfl)
                simp only [Act.put, List.setIfInBounds_toArray, List.set_cons_zero, List.set_cons_succ]
                refine takeInH 9 44 ?v20 rfl rfl (by kernel_rfl) (by kernel_rfl) (by kernel_rfl) (fun _ _ _ h => h) (by kernel_rfl) hS0 ?hy20 ?_
                case hy20 => (intro W hW; clear hW; go_simp; try rfl)
                simp only [Act.put, List.setIfInBounds_toArray, List.set_cons_zero, List.set_cons_succ]
                refine wpAnyH_done (by kernel_rfl) ?_ _
                have HH1 := hide HH.out.drew
                have HB1 := hide HB.out.drew
                go_wp2
                go_roundw
                case rel => exact ⟨kk, i + 1 + 1, dk, rfl, by go_num, by omega, by omega, HH1, HB1, HI2⟩
                case measure => simp [intOf]; omega
              · have hq := fun w => eqD r s p q false (by symm; exact decide_eq_false hxy) w
                have HI2 : Hid (CompInv d ((j + 1) + (i + 1) + 1) (kk + 1) (dk.setIfInBounds kk (r, s))) := by
                  have z := HI.out.keep (by rw [Hd.out]; exact hlt2) (keeps_pos (by rw [HXY.out.1, HXY.out.2]; intro e; exact hxy ⟨congrArg Prod.fst e, congrArg Prod.snd e⟩))
                  rw [HXY.out.1] at z
                  exact z
                clear hxy HI
                go_wp2
                refine wp_region_held_drew (S := fun W => Below wr.heap.size wr W) (by kernel_rfl) ((Below.refl _ wr).drew) (fun hS0 => ?_)
                refine takeInH 0 35 ?v21 rfl rfl (by kernel_rfl) (by kernel_rfl) (by kernel_rfl) (fun _ _ _ h => h) (by kernel_rfl) hS0 ?hy21 ?_
                case hy21 => (intro W hW; clear hW; go_simp; try rfl)
                simp only [Act.put, List.setIfInBounds_toArray, List.set_cons_zero, List.set_cons_succ]
                refine takeInH 1 36 ?v22 rfl rfl (by kernel_rfl) (by kernel_rfl) (by kernel_rfl) (fun _ _ _ h => h) (by kernel_rfl) hS0 ?hy22 ?_
                case hy22 => (intro W hW; clear hW; go_simp; try rfl)
                simp only [Act.put, List.setIfInBounds_toArray, List.set_cons_zero, List.set_cons_succ]
                refine takeInH 2 37 ?v23 rfl rfl (by kernel_rfl) (by kernel_rfl) (by kernel_rfl) (fun _ _ _ h => h) (by kernel_rfl) hS0 ?hy23 ?_
                case hy23 => (intro W hW; clear hW; go_simp; try rfl)
                simp only [Act.put, List.setIfInBounds_toArray, List.set_cons_zero, List.set_cons_succ]
                refine takeInH 3 38 ?v24 rfl rfl (by kernel_rfl) (by kernel_rfl) (by kernel_rfl) (fun _ _ _ h => h) (by kernel_rfl) hS0 ?hy24 ?_
                case hy24 => (intro W hW; have e0 := bcell hW c0; have e1 := bcell hW c1; have e2 := bcell hW c2; have e3 := bcell hW c3; clear hW; go_simp; try rfl)
                simp only [Act.put, List.setIfInBounds_toArray, List.set_cons_zero, List.set_cons_succ]
                refine takeInH 4 39 ?v25 rfl rfl (by kernel_rfl) (by kernel_rfl) (by kernel_rfl) (fun _ _ _ h => h) (by kernel_rfl) hS0 ?hy25 ?_
                case hy25 => (intro W hW; clear hW; go_simp; try rfl)
                simp only [Act.put, List.setIfInBounds_toArray, List.set_cons_zero, List.set_cons_succ]
                refine takeInH 5 40 ?v26 rfl rfl (by kernel_rfl) (by kernel_rfl) (by kernel_rfl) (fun _ _ _ h => h) (by kernel_rfl) hS0 ?hy26 ?_
                case hy26 => (intro W hW; clear hW; go_simp; try rfl)
                simp only [Act.put, List.setIfInBounds_toArray, List.set_cons_zero, List.set_cons_succ]
                refine takeInH 6 41 ?v27 rfl rfl (by kernel_rfl) (by kernel_rfl) (by kernel_rfl) (fun _ _ _ h => h) (by kernel_rfl) hS0 ?hy27 ?_
                case hy27 => (intro W hW; clear hW; go_simp; try rfl)
                simp only [Act.put, List.setIfInBounds_toArray, List.set_cons_zero, List.set_cons_succ]
                refine takeInH 7 42 ?v28 rfl rfl (by kernel_rfl) (by kernel_rfl) (by kernel_rfl) (fun _ _ _ h => h) (by kernel_rfl) hS0 ?hy28 ?_
                case hy28 => (intro W hW; clear hW; go_simp; try rfl)
                simp only [Act.put, List.setIfInBounds_toArray, List.set_cons_zero, List.set_cons_succ]
                refine takeInH 8 43 ?v29 rfl rfl (by kernel_rfl) (by kernel_rfl) (by kernel_rfl) (fun _ _ _ h => h) (by kernel_rfl) hS0 ?hy29 ?_
                case hy29 => (intro W hW; have e0 := bcell hW c0; have e1 := bcell hW c1; have e2 := bcell hW c2; have e3 := bcell hW c3; clear hW; go_simp; try rfl)
                simp only [Act.put, List.setIfInBounds_toArray, List.set_cons_zero, List.set_cons_succ]
                refine takeInH 9 44 ?v30 rfl rfl (by kernel_rfl) (by kernel_rfl) (by kernel_rfl) (fun _ _ _ h => h) (by kernel_rfl) hS0 ?hy30 ?_
                case hy30 => (intro W hW; clear hW; go_simp; try rfl)
                simp only [Act.put, List.setIfInBounds_toArray, List.set_cons_zero, List.set_cons_succ]
                refine wpAnyH_done (by kernel_rfl) ?_ _
                have HH1 := hide (HH.out.drew.set (k := kk) (by omega) r s)
                have HB1 := hide ((HB.out.drew.setCell (p := ⟨g, kk * 2, none⟩) HN.out (.int .i64 r)).setCell (p := ⟨g, kk * 2 + 1, none⟩) HN.out (.int .i64 s))
                have d0 : wr.drew.cell? ⟨g, (j + 1) * 2 + (i + 1) * 2, none⟩ = some (.int .i64 r) := c0
                have d1 : wr.drew.cell? ⟨g, (j + 1) * 2 + (i + 1) * 2 + 1, none⟩ = some (.int .i64 s) := c1
                have k0 : wr.drew.cell? ⟨g, kk * 2, none⟩ = some _ := qk.1
                have k1 : wr.drew.cell? ⟨g, kk * 2 + 1, none⟩ = some _ := qk.2.1
                have f0 : wr.drew.frozen? ⟨g, kk * 2, none⟩ = false := qk.2.2.1
                have f1 : wr.drew.frozen? ⟨g, kk * 2 + 1, none⟩ = false := qk.2.2.2
                clear c0 c1 c2 c3 qk hS0 HH HB
                generalize wr.drew = wq at *
                go_wp2
                go_roundw
                case rel => exact ⟨kk + 1, i + 1 + 1, dk.setIfInBounds kk (r, s), by go_num, by go_num, by omega, by omega, HH1, HB1, HI2⟩
                case measure => simp [intOf]; omega
            · have hend : (j + 1) + k2 = n := by omega
              have hcl := fun ty => clear_dots wr g kk n (cap - kk) dk hds HH.out (by omega) ty
              have hI := HI.out
              rw [hend] at hI
              have HE := hide (compact_done Hd.out hI HH.out (by unfold maxLen; omega))
              have HB2 := hide (bel_setCells HN.out (List.replicate ((n - kk) * 2) (.int .i64 0)) (kk * 2) wr HB.out)
              have hc1 : ¬ (cap = kk) := by omega
              have hc2 : ¬ ((cap : Int) = (kk : Int)) := by omega
              have hc3 : ((kk : Int)) ≤ (n : Int) := by omega
              have hc4 : ((kk : Int)) ≤ (cap : Int) := by omega
              have hc5 : ¬ ((k2 : Int) < ((n - (j + 1) : Nat) : Int)) := by omega
              clear hI HI HH HB
              go_wp2
              go_ret
              exact ⟨by rw [← HE.out.1]; rfl, HE.out.2, HB2.out⟩
        · have hq := fun w => eqD r s p q false (by symm; exact decide_eq_false hxy) w
          have HK2 : Hid (∀ i, i < j + 1 + 1 → keeps d i = true) := fun i hi => by
            by_cases e : i = j + 1
            · subst e; exact keeps_pos (by rw [HXY.out.1, HXY.out.2]; intro e; exact hxy ⟨congrArg Prod.fst e, congrArg Prod.snd e⟩)
            · exact HK.out i (by omega)
          clear hxy HK
          go_wp2
          refine wp_region_held_drew (S := fun W => Below wr.heap.size wr W) (by kernel_rfl) ((Below.refl _ wr).drew) (fun hS0 => ?_)
          refine takeInH 0 16 ?v31 rfl rfl (by kernel_rfl) (by kernel_rfl) (by kernel_rfl) (fun _ _ _ h => h) (by kernel_rfl) hS0 ?hy31 ?_
          case hy31 => (intro W hW; clear hW; go_simp; try rfl)
          simp only [Act.put, List.setIfInBounds_toArray, List.set_cons_zero, List.set_cons_succ]
          refine takeInH 1 17 ?v32 rfl rfl (by kernel_rfl) (by kernel_rfl) (by kernel_rfl) (fun _ _ _ h => h) (by kernel_rfl) hS0 ?hy32 ?_
          case hy32 => (intro W hW; clear hW; go_simp; try rfl)
          simp only [Act.put, List.setIfInBounds_toArray, List.set_cons_zero, List.set_cons_succ]
          refine takeInH 2 18 ?v33 rfl rfl (by kernel_rfl) (by kernel_rfl) (by kernel_rfl) (fun _ _ _ h => h) (by kernel_rfl) hS0 ?hy33 ?_
          case hy33 => (intro W hW; clear hW; go_simp; try rfl)
          simp only [Act.put, List.setIfInBounds_toArray, List.set_cons_zero, List.set_cons_succ]
          refine takeInH 3 19 ?v34 rfl rfl (by kernel_rfl) (by kernel_rfl) (by kernel_rfl) (fun _ _ _ h => h) (by kernel_rfl) hS0 ?hy34 ?_
          case hy34 => (intro W hW; have e0 := bcell hW c0; have e1 := bcell hW c1; have e2 := bcell hW c2; have e3 := bcell hW c3; clear hW; go_simp; try rfl)
          simp only [Act.put, List.setIfInBounds_toArray, List.set_cons_zero, List.set_cons_succ]
          refine takeInH 4 20 ?v35 rfl rfl (by kernel_rfl) (by kernel_rfl) (by kernel_rfl) (fun _ _ _ h => h) (by kernel_rfl) hS0 ?hy35 ?_
          case hy35 => (intro W hW; clear hW; go_simp; try rfl)
          simp only [Act.put, List.setIfInBounds_toArray, List.set_cons_zero, List.set_cons_succ]
          refine takeInH 5 21 ?v36 rfl rfl (by kernel_rfl) (by kernel_rfl) (by kernel_rfl) (fun _ _ _ h => h) (by kernel_rfl) hS0 ?hy36 ?_
          case hy36 => (intro W hW; clear hW; go_simp; try rfl)
          simp only [Act.put, List.setIfInBounds_toArray, List.set_cons_zero, List.set_cons_succ]
          refine takeInH 6 22 ?v37 rfl rfl (by kernel_rfl) (by kernel_rfl) (by kernel_rfl) (fun _ _ _ h => h) (by kernel_rfl) hS0 ?hy37 ?_
          case hy37 => (intro W hW; clear hW; go_simp; try rfl)
          simp only [Act.put, List.setIfInBounds_toArray, List.set_cons_zero, List.set_cons_succ]
          refine takeInH 7 23 ?v38 rfl rfl (by kernel_rfl) (by kernel_rfl) (by kernel_rfl) (fun _ _ _ h => h) (by kernel_rfl) hS0 ?hy38 ?_
          case hy38 => (intro W hW; clear hW; go_simp; try rfl)
          simp only [Act.put, List.setIfInBounds_toArray, List.set_cons_zero, List.set_cons_succ]
          refine takeInH 8 24 ?v39 rfl rfl (by kernel_rfl) (by kernel_rfl) (by kernel_rfl) (fun _ _ _ h => h) (by kernel_rfl) hS0 ?hy39 ?_
          case hy39 => (intro W hW; have e0 := bcell hW c0; have e1 := bcell hW c1; have e2 := bcell hW c2; have e3 := bcell hW c3; clear hW; go_simp; try rfl)
          simp only [Act.put, List.setIfInBounds_toArray, List.set_cons_zero, List.set_cons_succ]
          refine takeInH 9 25 ?v40 rfl rfl (by kernel_rfl) (by kernel_rfl) (by kernel_rfl) (fun _ _ _ h => h) (by kernel_rfl) hS0 ?hy40 ?_
          case hy40 => (intro W hW; clear hW; go_simp; try rfl)
          simp only [Act.put, List.setIfInBounds_toArray, List.set_cons_zero, List.set_cons_succ]
          refine wpAnyH_done (by kernel_rfl) ?_ _
          have HH1 := hide HH.out.drew
          have HB1 := hide HB.out.drew
          go_wp2
          go_roundw
          case rel => exact ⟨j + 1 + 1, by omega, by omega, by go_num, HH1, HB1, HK2⟩
          case measure => simp [intOf]; omega
      · have hkl : k = n := by omega
        subst hkl
        have HE := hide (HA.out _ HH.out HK.out)
        go_wp2
        go_ret
        exact ⟨by rw [← HE.out.1]; rfl, HE.out.2, HB.out⟩

set_option maxHeartbeats 400000 in
set_option maxRecDepth 100000 in
theorem compact_none (w : World) : Calls Try.prog 85 #[.slice none 0 0] w fun e w' => e = .returned (.slice none 0 0) ∧ w' = w := by
  go_enter Try.func85, Try.ntmps85
  go_wp2
  go_ret
  exact ⟨rfl, rfl⟩
theorem sort_none (w : World) : Calls Try.prog 83 #[.slice none 0 0, .func (.func 84) #[] #[]] w fun e w' => e = .returned (.tuple #[]) ∧ w' = w := by
  have h := AnyF.slices_SortFunc_none sortD none 0 (.func (.func 84) #[] #[]) w
  change Calls Try.prog 83 _ _ _ at h
  exact h
set_option maxHeartbeats 400000 in
/-- The program's 'Order'. -/
theorem Order_dots (a : Option Addr) (n cap : Nat) (l : List Dot) (w : World) (hD : DS w a n l) (hn : n ≤ 1000000) :
    Calls Try.prog 57 #[.slice a n cap] w fun e w' => ∃ p c, e = .returned (.slice p (ordD l).length c) ∧ DS w' p (ordD l).length (ordD l) ∧ CP p (ordD l).length c ∧ Below w.heap.size w w' := by
  have hlen := hD.1
  subst hlen
  have HC := hide (cloneD_any a l.length cap l w hD hn)
  clear hD
  go_enter Try.func57, Try.ntmps57
  go_wp2_with (go_at_call 82; refine Stop.at ?_)
  unfold Stop
  refine HC.out.mono ?_
  rintro e w1 ⟨v, rfl, hO, hB⟩
  rcases hO.row with ⟨rfl, rfl⟩ | ⟨g, c, rfl, hN, hg, hlc, hcm, hH⟩
  · have HB := hide hB
    clear hB hO HC
    go_wp2_with (first
      | (go_at_call 83; refine (sort_none _).mono ?_; rintro e w' ⟨rfl, hw⟩; replace hw := hw.symm; subst hw)
      | (go_at_call 85; refine (compact_none _).mono ?_; rintro e w' ⟨rfl, hw⟩; replace hw := hw.symm; subst hw))
    go_ret
    exact ⟨none, 0, rfl, DS.nil _ _, ⟨Nat.le_refl _, by decide, fun _ => rfl⟩, HB.out⟩
  · have HB := hide hB
    have HSo := hide (sort_any w.heap.size g c l w1 hN hg hH (by omega))
    clear hB hO HC hH
    go_wp2_with (go_at_call 83; refine Stop.at ?_)
    unfold Stop
    refine HSo.out.mono ?_
    rintro e w2 ⟨rfl, hB2, hg2, d, hd, hH2, hc⟩
    have HB2 := hide (HB.out.trans hB2)
    have HCo := hide (compact_any w.heap.size g c l.length d w2 hd hlc hcm hN hH2 (by omega))
    rw [hc] at HCo
    clear hB2 hH2 hc HB HSo
    go_wp2_with (go_at_call 85; refine Stop.at ?_)
    unfold Stop
    refine HCo.out.mono ?_
    rintro e w3 ⟨rfl, hDS, hB3⟩
    have HB3 := hide (HB2.out.trans hB3)
    have HDS := hide hDS
    have hl3 := ordD_len l
    clear hB3 hDS HCo
    go_wp2
    go_ret
    exact ⟨_, c, rfl, HDS.out, CP.some (by omega) hcm, HB3.out⟩
end Go.Proofs.Ytooggheoaglbeaa

/- What 'Closed' does. -/
namespace Go.Proofs.Ytooggheoaglbeaa
open Go.RowKit
set_option linter.unusedVariables false

/-- How many events a replica has. -/
def cnt (l : List Evt) (r : Int) : Int := (l.countP fun e => decide (e.1.1 = r) : Nat)
def cnts (l : List Evt) : List Int := [cnt l 1, cnt l 2, cnt l 3, cnt l 4, cnt l 5]
def okC (l : List Evt) (e : Evt) : Bool := decide (e.1.2 ≤ cnt l e.1.1) && decide (wth e.2.1 (cnts l))
def closedB (l : List Evt) : Bool := l.all mayE && decide ((ordD (l.map (·.1))).length = l.length) && l.all (okC l)
theorem cnt_bd (l : List Evt) (r : Int) : 0 ≤ cnt l r ∧ cnt l r ≤ l.length := by
  unfold cnt
  have := List.countP_le_length (p := fun e : Evt => decide (e.1.1 = r)) (l := l)
  omega
theorem cnt_snoc (l : List Evt) (e : Evt) (r : Int) : cnt (l ++ [e]) r = cnt l r + if e.1.1 = r then 1 else 0 := by
  unfold cnt
  rw [List.countP_append]
  by_cases h : e.1.1 = r
  · simp [h]
  · simp [h]
theorem cnts_len (l : List Evt) : (cnts l).length = 5 := rfl
theorem cnts_getD (l : List Evt) (j : Nat) (hj : j < 5) : (cnts l).getD j 0 = cnt l ((j : Int) + 1) := by
  have h : j = 0 ∨ j = 1 ∨ j = 2 ∨ j = 3 ∨ j = 4 := by omega
  rcases h with rfl | rfl | rfl | rfl | rfl <;> rfl
theorem cnts_snoc (l : List Evt) (e : Evt) (j : Nat) (hj : j < 5) (he : e.1.1 = (j : Int) + 1) : cnts (l ++ [e]) = (cnts l).set j (cnt l ((j : Int) + 1) + 1) := by
  unfold cnts
  simp only [cnt_snoc, he]
  have h : j = 0 ∨ j = 1 ∨ j = 2 ∨ j = 3 ∨ j = 4 := by omega
  rcases h with rfl | rfl | rfl | rfl | rfl <;> simp
/-- The counts' cells. -/
def cellsC (l : List Int) : Array Value := (l.map (Value.int .i64)).toArray
theorem cellsC_get (l : List Int) (j : Nat) (hj : j < l.length) : (cellsC l)[j]? = some (.int .i64 (l.getD j 0)) := by
  simp [cellsC, List.getD_eq_getElem?_getD, hj]
theorem cellsC_set (l : List Int) (j : Nat) (x : Int) : (cellsC l).setIfInBounds j (.int .i64 x) = cellsC (l.set j x) := by
  simp [cellsC, List.map_set]
theorem BX.nums {w : World} {g : Nat} {l : List Int} {t : TypeId} (h : BX w g (cellsC l) t) (hl : l.length = 5) : NS w (some ⟨g, 0, none⟩) 5 l := by
  refine ⟨hl, by decide, .inr ⟨g, 0, rfl, fun i hi => ?_⟩⟩
  rw [Nat.zero_add]
  exact h.cell i _ (cellsC_get l i (by omega))
theorem allE_drop {l : List Evt} {k : Nat} {x : Evt} {p : Evt → Bool} (h : l[k]? = some x) : (l.drop k).all p = (p x && (l.drop (k + 1)).all p) := by
  obtain ⟨h1, h2⟩ := List.getElem?_eq_some_iff.1 h
  rw [List.drop_eq_getElem_cons h1, h2, List.all_cons]
theorem take_snocE {l : List Evt} {k : Nat} {x : Evt} (h : l[k]? = some x) : l.take (k + 1) = l.take k ++ [x] := by rw [List.take_add_one, h]; rfl
theorem encD_len (d : Dot) : (encD d).length = 2 := rfl
theorem wrap_j {j : Nat} (h : j < 5) : IntKind.i64.wrap (j : Int) = j := by
  unfold IntKind.wrap
  simp [IntKind.bits, IntKind.signed]
  omega
theorem OwnD.rows {N : Nat} {w : World} {v : Value} {l : List Dot} : OwnD N w v l ↔ OwnR encD 2 23 N w v l := Iff.rfl

set_option maxHeartbeats 8000000 in
theorem Closed_any (a : Option Addr) (n cap : Nat) (l : List Evt) (w : World) (hE : EVS w a n l) (hn : n ≤ 1000) :
    Calls Try.prog 27 #[.slice a n cap] w fun e w' => e = .returned (.bool (closedB l)) ∧ Below w.heap.size w w' := by
  have hlen := hide hE.len
  have HV := hide hE
  clear hE
  have HX := hide (BX.new w _ rfl #[.int .i64 0, .int .i64 0, .int .i64 0, .int .i64 0, .int .i64 0] 80)
  have HB := hide (bel1 w (.cells #[.int .i64 0, .int .i64 0, .int .i64 0, .int .i64 0, .int .i64 0] 80))
  go_enter Try.func27, Try.ntmps27
  go_wp2
  go_loopw [3, 11] (fun v i wr => ∃ (k : Nat), k ≤ n ∧ i = .int .i64 k ∧ Hid (OwnD w.heap.size wr v ((l.take k).map (·.1))) ∧ Hid (BX wr w.heap.size (cellsC (cnts (l.take k))) 80) ∧ Hid (l.all mayE = (l.drop k).all mayE) ∧ Hid (∀ x ∈ l.take k, mayE x = true) ∧ Hid (Below w.heap.size w wr)) (fun _ i _ => n - (intOf i).toNat)
  case atStart => exact ⟨0, by omega, rfl, OwnD.nil _ _, HX, rfl, (fun x hx => by simp at hx), HB⟩
  case round =>
    obtain ⟨k, hk, rfl, hO, hX, hA, hF, hB⟩ := hrel
    by_cases hlt : k < n
    · obtain ⟨pv, cv, hv, hds, hcv⟩ := hO.out.open
      have hlk : ((l.take k).map (·.1)).length = k := by rw [List.length_map, List.length_take, hlen.out]; omega
      rw [hlk] at hv
      have hlk2 := hide hlk
      clear hlk
      subst hv
      obtain ⟨b, off, rfl⟩ := HV.out.addr (by omega)
      obtain ⟨r, s, pa, na, ca, pe, ne, ce, c, fs, hx, x0, x1, x2, x3, hns, hca, hes, hce⟩ := HV.out.at k hlt
      replace x0 := bcell hB.out x0
      replace x1 := bcell hB.out x1
      replace x2 := bcell hB.out x2
      replace x3 := bcell hB.out x3
      have HK := hide (CheckE_any r s pa na ca pe ne ce c fs (wr.alloc (bxE r s pa na ca pe ne ce)) ((hns.below hB.out).alloc _) ((hes.below hB.out).alloc _))
      have hd := allE_drop (p := mayE) hx
      have HT := hide (take_snocE hx)
      have c0 : (wr.alloc (bxE r s pa na ca pe ne ce)).cell? ⟨wr.heap.size, 0, none⟩ = some (.int .i64 r) := cell_new wr _ _ _ rfl 0 _ rfl
      have c1 : (wr.alloc (bxE r s pa na ca pe ne ce)).cell? ⟨wr.heap.size, 1, none⟩ = some (.int .i64 s) := cell_new wr _ _ _ rfl 1 _ rfl
      have HY := hide (BX.new wr _ rfl #[.int .i64 r, .int .i64 s, .slice pa na ca, .slice pe ne ce] 28)
      have hsz := hB.out.size
      have hgx := hX.out.size
      clear hns hca hes hce hx
      rcases hm : mayE ((r, s), c, fs) with _ | _
      · rw [hm] at HK hd
        have q1 : errB false = 1 := rfl
        rw [q1] at HK
        have HE : Hid (false = closedB l) := by unfold Hid closedB; rw [hA.out, hd]; rfl
        clear hd hm q1 hds
        go_wp2_with (go_at_call 16; refine HK.out.mono ?_; rintro e w2 ⟨rfl, hb⟩)
        go_ret
        exact ⟨retB HE.out, bel_next (bel_next hB.out (bel1 wr _)) hb⟩
      · rw [hm] at HK hd
        have q1 : errB true = 0 := rfl
        rw [q1] at HK
        have hmd := mayD_iff.1 (headB_iff.1 (mayE_iff.1 hm).1).1
        simp only [] at hmd
        obtain ⟨j, hj⟩ : ∃ j : Nat, r = (j : Int) + 1 := ⟨(r - 1).toNat, by omega⟩
        have hj5 : j < 5 := by omega
        have HM := hide hm
        clear hm q1 hmd hds
        subst hj
        have HA2 : Hid (l.all mayE = (l.drop (k + 1)).all mayE) := by unfold Hid; rw [hA.out, hd]; rfl
        clear hd
        go_wp2_with (first
          | (go_at_call 16; refine HK.out.mono ?_; rintro e w2 ⟨rfl, hb⟩; replace c0 := bcell hb c0; replace c1 := bcell hb c1; have HY2 := hide (HY.out.below hb); have HX2 := hide ((hX.out.alloc (bxE ((j : Int) + 1) s pa na ca pe ne ce)).below hb); have HO2 := hide ((hO.out.alloc (bxE ((j : Int) + 1) s pa na ca pe ne ce)).below hb); have HB2 := hide (bel_next (bel_next hB.out (bel1 wr (bxE ((j : Int) + 1) s pa na ca pe ne ce))) hb); have hsz2 := HB2.out.size; clear hb)
          | (at_builtin; refine Stop.at ?_))
        unfold Stop
        have hoff := (OwnD.rows.1 HO2.out).off HX2.out (by decide)
        have hoffy := (OwnD.rows.1 HO2.out).off HY2.out (by decide)
        refine append_rows (enc := encD) (k := 2) rfl _ _ 79 rfl Try.underlying79 Try.infoDot rfl (by decide) (by decide) (fun _ => rfl) (fun d v hv => by simp only [encD, List.mem_cons, List.not_mem_nil, or_false] at hv; rcases hv with rfl | rfl <;> rfl) w.heap.size (.slice pv k cv) ((l.take k).map (·.1)) [((j : Int) + 1, s)] rfl (HO2.out.alloc _) _ 1 1 rfl (fun h => by cases h) (RS.new (enc := encD) (k := 2) (fun _ => rfl) w2 _ rfl [((j : Int) + 1, s)] _ rfl _ _ 1 rfl (by decide)) (by rw [hlk2.out]; simp; omega) (by simp; omega) ?_
        intro v' w5 q1 q2 q3
        have HX5 := hide ((HX2.out.alloc _).grown q2 hoff)
        have hoff5 := q1.off HX5.out (by decide)
        have HY5 := hide ((HY2.out.alloc _).grown q2 hoffy)
        obtain ⟨p5, c5, hv5, _, _⟩ := q1.open encD_len
        rw [List.length_append, hlk2.out, List.length_singleton] at hv5
        subst hv5
        have HB5 := hide (q3 w (HB2.out.alloc hsz2 _))
        obtain ⟨z, hz⟩ : ∃ z, cnt (l.take k) ((j : Int) + 1) = z := ⟨_, rfl⟩
        have hzb := cnt_bd (l.take k) ((j : Int) + 1)
        rw [hz, List.length_take] at hzb
        have hz0 : 0 ≤ z := hzb.1
        have hz1 : z ≤ 1000 := by omega
        have c4 := HX5.out.cell j (.int .i64 z) (by rw [cellsC_get _ j (by rw [cnts_len]; exact hj5), cnts_getD _ j hj5, hz])
        have z4 := HX5.out.free j
        have HO6 : Hid (OwnD w.heap.size (w5.setCell ⟨w.heap.size, j, none⟩ (.int .i64 (z + 1))) (.slice p5 (k + 1) c5) ((l.take (k + 1)).map (·.1))) := by
          unfold Hid
          rw [HT.out, List.map_append]
          exact q1.set hoff5 j (.int .i64 (z + 1))
        have HX6 : Hid (BX (w5.setCell ⟨w.heap.size, j, none⟩ (.int .i64 (z + 1))) w.heap.size (cellsC (cnts (l.take (k + 1)))) 80) := by
          unfold Hid
          rw [HT.out, cnts_snoc _ _ j hj5 rfl, hz, ← cellsC_set]
          exact HX5.out.set j (.int .i64 (z + 1))
        have HB6 := hide (bel_set HB5.out (Nat.le_refl _) j (.int .i64 (z + 1)))
        have HF6 : Hid (∀ x ∈ l.take (k + 1), mayE x = true) := by
          unfold Hid
          rw [HT.out]
          intro x hx
          rcases List.mem_append.1 hx with h | h
          · exact hF.out x h
          · rw [List.mem_singleton.1 h]; exact HM.out
        have y0 := HY5.out.cell 0 _ rfl
        clear q1 q2 q3 hoff hoff5 hoffy c0 c1 hzb hz HX5 HY5 HB5 HY2 HX2 HO2
        go_wp2
        go_roundw
        case rel => exact ⟨k + 1, by omega, by go_num, HO6, HX6, HA2, HF6, HB6⟩
        case measure => simp [intOf]; omega
    · have hkl : k = n := by omega
      subst hkl
      have htk : l.take k = l := List.take_of_length_le (by rw [hlen.out]; exact Nat.le_refl _)
      rw [htk] at hO hX hF
      have hall : l.all mayE = true := List.all_eq_true.2 hF.out
      have HALL := hide hall
      clear hall hA
      obtain ⟨pv, cv, hv, hds, hcv⟩ := hO.out.open
      have hlk : (l.map (·.1)).length = k := by rw [List.length_map, hlen.out]
      rw [hlk] at hv hds hcv
      have HOR := hide (Order_dots pv k cv (l.map (·.1)) wr hds (by omega))
      have hol := ordD_len (l.map (·.1))
      rw [hlk] at hol
      subst hv
      obtain ⟨ol, hol2⟩ : ∃ ol, (ordD (l.map (·.1))).length = ol := ⟨_, rfl⟩
      rw [hol2] at HOR hol
      clear hds hcv hlk hO
      have hXn := hX.out.nums (cnts_len l)
      by_cases heq : ol = k
      · have hEQ : Hid (closedB l = l.all (okC l)) := by
          unfold Hid closedB
          rw [HALL.out, hol2, hlen.out]
          simp [heq]
        have he1 : ((ol : Int) == (k : Int)) = true := by simp; omega
        have he2 : (ol : Int) = (k : Int) := by omega
        have he3 : ((ol : Int) != (k : Int)) = false := by simp; omega
        clear hol2 heq
        go_wp2_with (go_at_call 57; refine Stop.at ?_)
        unfold Stop
        refine HOR.out.mono ?_
        rintro e u ⟨p6, c6, rfl, _, _, hb⟩
        have HXu := hide (hX.out.below hb)
        have HBu := hide (bel_next hB.out hb)
        have NXu := hide (hXn.below hb)
        clear hb HOR hX hXn hB
        go_wp2
        go_loopw [40] (fun i wr => ∃ q : Nat, q ≤ k ∧ i = .int .i64 q ∧ Hid (Below u.heap.size u wr) ∧ Hid (closedB l = (l.drop q).all (okC l))) (fun i _ => k - (intOf i).toNat)
        case atStart => exact ⟨0, by omega, rfl, Below.refl _ _, hEQ⟩
        case round =>
          obtain ⟨q, hq, rfl, hB, hA⟩ := hrel
          by_cases hlt : q < k
          · obtain ⟨b, off, rfl⟩ := HV.out.addr (by omega)
            obtain ⟨r, s, pa, na, ca, pe, ne, ce, c, fs, hx, x0, x1, x2, x3, hns, hca, hes, hce⟩ := HV.out.at q hlt
            have HD : Hid (closedB l = (okC l ((r, s), c, fs) && (l.drop (q + 1)).all (okC l))) := by unfold Hid; rw [hA.out, allE_drop hx]
            have hm := hF.out _ (List.mem_of_getElem? hx)
            have hmd := mayD_iff.1 (headB_iff.1 (mayE_iff.1 hm).1).1
            simp only [] at hmd
            obtain ⟨j, hj⟩ : ∃ j : Nat, r = (j : Int) + 1 := ⟨(r - 1).toNat, by omega⟩
            have hj5 : j < 5 := by omega
            subst hj
            replace x0 := bcell hB.out (bcell HBu.out x0)
            replace x1 := bcell hB.out (bcell HBu.out x1)
            replace x2 := bcell hB.out (bcell HBu.out x2)
            replace x3 := bcell hB.out (bcell HBu.out x3)
            obtain ⟨z, hz⟩ : ∃ z, cnt l ((j : Int) + 1) = z := ⟨_, rfl⟩
            have y0 : (wr.alloc (bxE ((j : Int) + 1) s pa na ca pe ne ce)).cell? ⟨wr.heap.size, 0, none⟩ = some (.int .i64 ((j : Int) + 1)) := cell_new wr _ _ _ rfl 0 _ rfl
            have y1 : (wr.alloc (bxE ((j : Int) + 1) s pa na ca pe ne ce)).cell? ⟨wr.heap.size, 1, none⟩ = some (.int .i64 s) := cell_new wr _ _ _ rfl 1 _ rfl
            have y2 : (wr.alloc (bxE ((j : Int) + 1) s pa na ca pe ne ce)).cell? ⟨wr.heap.size, 2, none⟩ = some (.slice pa na ca) := cell_new wr _ _ _ rfl 2 _ rfl
            have y4 : (wr.alloc (bxE ((j : Int) + 1) s pa na ca pe ne ce)).cell? ⟨w.heap.size, j, none⟩ = some (.int .i64 z) := cell_old _ (bcell hB.out (HXu.out.cell j (.int .i64 z) (by rw [cellsC_get _ j (by rw [cnts_len]; exact hj5), cnts_getD _ j hj5, hz])))
            have HW := hide (fun W (h1 : NS W pa na c) (h2 : NS W (some ⟨w.heap.size, 0, none⟩) 5 (cnts l)) => Within_any pa (some ⟨w.heap.size, 0, none⟩) na ca 5 5 c (cnts l) W h1 h2 (decide (wth c (cnts l))) rfl)
            have NP := hide (((hns.below HBu.out).below hB.out).alloc (bxE ((j : Int) + 1) s pa na ca pe ne ce))
            have NC := hide ((NXu.out.below hB.out).alloc (bxE ((j : Int) + 1) s pa na ca pe ne ce))
            have HB2 := hide (bel_next hB.out (bel1 wr (bxE ((j : Int) + 1) s pa na ca pe ne ce)))
            have hwj : IntKind.i64.wrap (j : Int) = j := wrap_j hj5
            have hj6 : (0 : Int) ≤ (j : Int) ∧ (j : Int) < 5 := by omega
            have hs1 : s ≤ 1048576 := by omega
            have hs0 : 1 ≤ s := by omega
            clear hns hca hes hce hx hm hmd hA hB
            by_cases hsz : s ≤ z
            · have hdz : decide (s > z) = false := by rw [decide_eq_false_iff_not]; omega
              have hdy : decide (z < s) = false := by rw [decide_eq_false_iff_not]; omega
              rcases hw : decide (wth c (cnts l)) with _ | _
              · rw [hw] at HW
                have HE : Hid (false = closedB l) := by unfold Hid; rw [HD.out]; unfold okC; simp only [hw]; simp
                clear hw hz HD
                go_wp2
                generalize hu2 : wr.alloc (bxE ((j : Int) + 1) s pa na ca pe ne ce) = u2 at *
                clear hu2
                refine wp_region_held_drew (S := fun W => Below u2.heap.size u2 W) (by kernel_rfl) ((Below.refl _ u2).drew) (fun hS0 => ?_)
                refine takeInH 0 44 ?v1 rfl rfl (by kernel_rfl) (by kernel_rfl) (by kernel_rfl) (fun _ _ _ h => h) (by kernel_rfl) hS0 ?hy1 ?_
                case hy1 => (intro W hW; clear hW; go_simp; try rfl)
                simp only [Act.put, List.setIfInBounds_toArray, List.set_cons_zero, List.set_cons_succ]
                refine takeInH 1 45 ?v2 rfl rfl (by kernel_rfl) (by kernel_rfl) (by kernel_rfl) (fun _ _ _ h => h) (by kernel_rfl) hS0 ?hy2 ?_
                case hy2 => (intro W hW; clear hW; go_simp; try rfl)
                simp only [Act.put, List.setIfInBounds_toArray, List.set_cons_zero, List.set_cons_succ]
                refine takeInH 2 46 ?v3 rfl rfl (by kernel_rfl) (by kernel_rfl) (by kernel_rfl) (fun _ _ _ h => h) (by kernel_rfl) hS0 ?hy3 ?_
                case hy3 => (intro W hW; have e0 := bcell hW y0; have e1 := bcell hW y1; have e2 := bcell hW y2; have e3 := bcell hW y4; clear hW; go_simp; try rfl)
                simp only [Act.put, List.setIfInBounds_toArray, List.set_cons_zero, List.set_cons_succ]
                refine takeInH 3 47 ?v4 rfl rfl (by kernel_rfl) (by kernel_rfl) (by kernel_rfl) (fun _ _ _ h => h) (by kernel_rfl) hS0 ?hy4 ?_
                case hy4 => (intro W hW; clear hW; go_simp; try rfl)
                simp only [Act.put, List.setIfInBounds_toArray, List.set_cons_zero, List.set_cons_succ]
                refine takeInH 4 48 ?v5 rfl rfl (by kernel_rfl) (by kernel_rfl) (by kernel_rfl) (fun _ _ _ h => h) (by kernel_rfl) hS0 ?hy5 ?_
                case hy5 => (intro W hW; clear hW; go_simp; try rfl)
                simp only [Act.put, List.setIfInBounds_toArray, List.set_cons_zero, List.set_cons_succ]
                refine takeInH 5 49 ?v6 rfl rfl (by kernel_rfl) (by kernel_rfl) (by kernel_rfl) (fun _ _ _ h => h) (by kernel_rfl) hS0 ?hy6 ?_
                case hy6 => (intro W hW; have e0 := bcell hW y0; have e1 := bcell hW y1; have e2 := bcell hW y2; have e3 := bcell hW y4; clear hW; go_simp; try rfl)
                simp only [Act.put, List.setIfInBounds_toArray, List.set_cons_zero, List.set_cons_succ]
                refine takeInH 6 50 ?v7 rfl rfl (by kernel_rfl) (by kernel_rfl) (by kernel_rfl) (fun _ _ _ h => h) (by kernel_rfl) hS0 ?hy7 ?_
                case hy7 => (intro W hW; clear hW; go_simp; try rfl)
                simp only [Act.put, List.setIfInBounds_toArray, List.set_cons_zero, List.set_cons_succ]
                refine takeInH 7 51 ?v8 rfl rfl (by kernel_rfl) (by kernel_rfl) (by kernel_rfl) (fun _ _ _ h => h) (by kernel_rfl) hS0 ?hy8 ?_
                case hy8 => (intro W hW; clear hW; go_simp; try rfl)
                simp only [Act.put, List.setIfInBounds_toArray, List.set_cons_zero, List.set_cons_succ]
                refine takeInH 8 52 ?v9 rfl rfl (by kernel_rfl) (by kernel_rfl) (by kernel_rfl) (fun _ _ _ h => h) (by kernel_rfl) hS0 ?hy9 ?_
                case hy9 => (intro W hW; have e0 := bcell hW y0; have e1 := bcell hW y1; have e2 := bcell hW y2; have e3 := bcell hW y4; clear hW; go_simp; try rfl)
                simp only [Act.put, List.setIfInBounds_toArray, List.set_cons_zero, List.set_cons_succ]
                refine takeInH 9 53 ?v10 rfl rfl (by kernel_rfl) (by kernel_rfl) (by kernel_rfl) (fun _ _ _ h => h) (by kernel_rfl) hS0 ?hy10 ?_
                case hy10 => (intro W hW; clear hW; go_simp; try rfl)
                simp only [Act.put, List.setIfInBounds_toArray, List.set_cons_zero, List.set_cons_succ]
                refine takeInH 10 54 ?v11 rfl rfl (by kernel_rfl) (by kernel_rfl) (by kernel_rfl) (fun _ _ _ h => h) (by kernel_rfl) hS0 ?hy11 ?_
                case hy11 => (intro W hW; clear hW; go_simp; try rfl)
                simp only [Act.put, List.setIfInBounds_toArray, List.set_cons_zero, List.set_cons_succ]
                refine takeInH 11 55 ?v12 rfl rfl (by kernel_rfl) (by kernel_rfl) (by kernel_rfl) (fun _ _ _ h => h) (by kernel_rfl) hS0 ?hy12 ?_
                case hy12 => (intro W hW; clear hW; go_simp; try rfl)
                simp only [Act.put, List.setIfInBounds_toArray, List.set_cons_zero, List.set_cons_succ]
                refine takeInH 12 56 ?v13 rfl rfl (by kernel_rfl) (by kernel_rfl) (by kernel_rfl) (fun _ _ _ h => h) (by kernel_rfl) hS0 ?hy13 ?_
                case hy13 => (intro W hW; have e0 := bcell hW y0; have e1 := bcell hW y1; have e2 := bcell hW y2; have e3 := bcell hW y4; clear hW; go_simp; try rfl)
                simp only [Act.put, List.setIfInBounds_toArray, List.set_cons_zero, List.set_cons_succ]
                refine takeInH 13 57 ?v14 rfl rfl (by kernel_rfl) (by kernel_rfl) (by kernel_rfl) (fun _ _ _ h => h) (by kernel_rfl) hS0 ?hy14 ?_
                case hy14 => (intro W hW; clear hW; go_simp; try rfl)
                simp only [Act.put, List.setIfInBounds_toArray, List.set_cons_zero, List.set_cons_succ]
                refine wpAnyH_ready (rs := [14]) (by kernel_rfl) (by simp) ?_
                refine AllReadyH.cons rfl (fun K hK => ?_) AllReadyH.nil
                go_simp
                refine (HW.out _ (NP.out.below hS0) (NC.out.below hS0)).mono ?_
                rintro e w9 ⟨rfl, hb⟩
                try go_wp2_with fail
                refine hK.out _ _ ?hs15 (fun hS1 => ?_)
                case hs15 => exact bel_next hS0 hb
                clear hK K
                try simp only [Act.put, List.setIfInBounds_toArray, List.set_cons_zero, List.set_cons_succ]
                refine takeInH 15 59 ?v16 rfl rfl (by kernel_rfl) (by kernel_rfl) (by kernel_rfl) (fun _ _ _ h => h) (by kernel_rfl) hS1 ?hy16 ?_
                case hy16 => (intro W hW; clear hW; go_simp; try rfl)
                simp only [Act.put, List.setIfInBounds_toArray, List.set_cons_zero, List.set_cons_succ]
                refine takeInH 16 60 ?v17 rfl rfl (by kernel_rfl) (by kernel_rfl) (by kernel_rfl) (fun _ _ _ h => h) (by kernel_rfl) hS1 ?hy17 ?_
                case hy17 => (intro W hW; clear hW; go_simp; try rfl)
                simp only [Act.put, List.setIfInBounds_toArray, List.set_cons_zero, List.set_cons_succ]
                refine wpAnyH_done (by kernel_rfl) ?_ _
                go_wp2
                go_ret
                exact ⟨retB HE.out, bel_next HBu.out (bel_next HB2.out hS1)⟩
              · rw [hw] at HW
                have HE : Hid (closedB l = (l.drop (q + 1)).all (okC l)) := by unfold Hid; rw [HD.out]; unfold okC; simp only [hw, hz]; simp [hsz]
                clear hw hz HD
                go_wp2
                generalize hu2 : wr.alloc (bxE ((j : Int) + 1) s pa na ca pe ne ce) = u2 at *
                clear hu2
                refine wp_region_held_drew (S := fun W => Below u2.heap.size u2 W) (by kernel_rfl) ((Below.refl _ u2).drew) (fun hS0 => ?_)
                refine takeInH 0 44 ?v18 rfl rfl (by kernel_rfl) (by kernel_rfl) (by kernel_rfl) (fun _ _ _ h => h) (by kernel_rfl) hS0 ?hy18 ?_
                case hy18 => (intro W hW; clear hW; go_simp; try rfl)
                simp only [Act.put, List.setIfInBounds_toArray, List.set_cons_zero, List.set_cons_succ]
                refine takeInH 1 45 ?v19 rfl rfl (by kernel_rfl) (by kernel_rfl) (by kernel_rfl) (fun _ _ _ h => h) (by kernel_rfl) hS0 ?hy19 ?_
                case hy19 => (intro W hW; clear hW; go_simp; try rfl)
                simp only [Act.put, List.setIfInBounds_toArray, List.set_cons_zero, List.set_cons_succ]
                refine takeInH 2 46 ?v20 rfl rfl (by kernel_rfl) (by kernel_rfl) (by kernel_rfl) (fun _ _ _ h => h) (by kernel_rfl) hS0 ?hy20 ?_
                case hy20 => (intro W hW; have e0 := bcell hW y0; have e1 := bcell hW y1; have e2 := bcell hW y2; have e3 := bcell hW y4; clear hW; go_simp; try rfl)
                simp only [Act.put, List.setIfInBounds_toArray, List.set_cons_zero, List.set_cons_succ]
                refine takeInH 3 47 ?v21 rfl rfl (by kernel_rfl) (by kernel_rfl) (by kernel_rfl) (fun _ _ _ h => h) (by kernel_rfl) hS0 ?hy21 ?_
                case hy21 => (intro W hW; clear hW; go_simp; try rfl)
                simp only [Act.put, List.setIfInBounds_toArray, List.set_cons_zero, List.set_cons_succ]
                refine takeInH 4 48 ?v22 rfl rfl (by kernel_rfl) (by kernel_rfl) (by kernel_rfl) (fun _ _ _ h => h) (by kernel_rfl) hS0 ?hy22 ?_
                case hy22 => (intro W hW; clear hW; go_simp; try rfl)
                simp only [Act.put, List.setIfInBounds_toArray, List.set_cons_zero, List.set_cons_succ]
                refine takeInH 5 49 ?v23 rfl rfl (by kernel_rfl) (by kernel_rfl) (by kernel_rfl) (fun _ _ _ h => h) (by kernel_rfl) hS0 ?hy23 ?_
                case hy23 => (intro W hW; have e0 := bcell hW y0; have e1 := bcell hW y1; have e2 := bcell hW y2; have e3 := bcell hW y4; clear hW; go_simp; try rfl)
                simp only [Act.put, List.setIfInBounds_toArray, List.set_cons_zero, List.set_cons_succ]
                refine takeInH 6 50 ?v24 rfl rfl (by kernel_rfl) (by kernel_rfl) (by kernel_rfl) (fun _ _ _ h => h) (by kernel_rfl) hS0 ?hy24 ?_
                case hy24 => (intro W hW; clear hW; go_simp; try rfl)
                simp only [Act.put, List.setIfInBounds_toArray, List.set_cons_zero, List.set_cons_succ]
                refine takeInH 7 51 ?v25 rfl rfl (by kernel_rfl) (by kernel_rfl) (by kernel_rfl) (fun _ _ _ h => h) (by kernel_rfl) hS0 ?hy25 ?_
                case hy25 => (intro W hW; clear hW; go_simp; try rfl)
                simp only [Act.put, List.setIfInBounds_toArray, List.set_cons_zero, List.set_cons_succ]
                refine takeInH 8 52 ?v26 rfl rfl (by kernel_rfl) (by kernel_rfl) (by kernel_rfl) (fun _ _ _ h => h) (by kernel_rfl) hS0 ?hy26 ?_
                case hy26 => (intro W hW; have e0 := bcell hW y0; have e1 := bcell hW y1; have e2 := bcell hW y2; have e3 := bcell hW y4; clear hW; go_simp; try rfl)
                simp only [Act.put, List.setIfInBounds_toArray, List.set_cons_zero, List.set_cons_succ]
                refine takeInH 9 53 ?v27 rfl rfl (by kernel_rfl) (by kernel_rfl) (by kernel_rfl) (fun _ _ _ h => h) (by kernel_rfl) hS0 ?hy27 ?_
                case hy27 => (intro W hW; clear hW; go_simp; try rfl)
                simp only [Act.put, List.setIfInBounds_toArray, List.set_cons_zero, List.set_cons_succ]
                refine takeInH 10 54 ?v28 rfl rfl (by kernel_rfl) (by kernel_rfl) (by kernel_rfl) (fun _ _ _ h => h) (by kernel_rfl) hS0 ?hy28 ?_
                case hy28 => (intro W hW; clear hW; go_simp; try rfl)
                simp only [Act.put, List.setIfInBounds_toArray, List.set_cons_zero, List.set_cons_succ]
                refine takeInH 11 55 ?v29 rfl rfl (by kernel_rfl) (by kernel_rfl) (by kernel_rfl) (fun _ _ _ h => h) (by kernel_rfl) hS0 ?hy29 ?_
                case hy29 => (intro W hW; clear hW; go_simp; try rfl)
                simp only [Act.put, List.setIfInBounds_toArray, List.set_cons_zero, List.set_cons_succ]
                refine takeInH 12 56 ?v30 rfl rfl (by kernel_rfl) (by kernel_rfl) (by kernel_rfl) (fun _ _ _ h => h) (by kernel_rfl) hS0 ?hy30 ?_
                case hy30 => (intro W hW; have e0 := bcell hW y0; have e1 := bcell hW y1; have e2 := bcell hW y2; have e3 := bcell hW y4; clear hW; go_simp; try rfl)
                simp only [Act.put, List.setIfInBounds_toArray, List.set_cons_zero, List.set_cons_succ]
                refine takeInH 13 57 ?v31 rfl rfl (by kernel_rfl) (by kernel_rfl) (by kernel_rfl) (fun _ _ _ h => h) (by kernel_rfl) hS0 ?hy31 ?_
                case hy31 => (intro W hW; clear hW; go_simp; try rfl)
                simp only [Act.put, List.setIfInBounds_toArray, List.set_cons_zero, List.set_cons_succ]
                refine wpAnyH_ready (rs := [14]) (by kernel_rfl) (by simp) ?_
                refine AllReadyH.cons rfl (fun K hK => ?_) AllReadyH.nil
                go_simp
                refine (HW.out _ (NP.out.below hS0) (NC.out.below hS0)).mono ?_
                rintro e w9 ⟨rfl, hb⟩
                try go_wp2_with fail
                refine hK.out _ _ ?hs32 (fun hS1 => ?_)
                case hs32 => exact bel_next hS0 hb
                clear hK K
                try simp only [Act.put, List.setIfInBounds_toArray, List.set_cons_zero, List.set_cons_succ]
                refine takeInH 15 59 ?v33 rfl rfl (by kernel_rfl) (by kernel_rfl) (by kernel_rfl) (fun _ _ _ h => h) (by kernel_rfl) hS1 ?hy33 ?_
                case hy33 => (intro W hW; clear hW; go_simp; try rfl)
                simp only [Act.put, List.setIfInBounds_toArray, List.set_cons_zero, List.set_cons_succ]
                refine takeInH 16 60 ?v34 rfl rfl (by kernel_rfl) (by kernel_rfl) (by kernel_rfl) (fun _ _ _ h => h) (by kernel_rfl) hS1 ?hy34 ?_
                case hy34 => (intro W hW; clear hW; go_simp; try rfl)
                simp only [Act.put, List.setIfInBounds_toArray, List.set_cons_zero, List.set_cons_succ]
                refine wpAnyH_done (by kernel_rfl) ?_ _
                go_wp2
                go_roundw
                case rel => exact ⟨q + 1, by omega, by go_num, bel_next HB2.out hS1, HE⟩
                case measure => simp [intOf]; omega
            · have hdz : decide (s > z) = true := by rw [decide_eq_true_iff]; omega
              have hdy : decide (z < s) = true := by rw [decide_eq_true_iff]; omega
              have HE : Hid (false = closedB l) := by unfold Hid; rw [HD.out]; unfold okC; simp only [hz]; simp [hsz]
              clear hz HD
              go_wp2
              generalize hu2 : wr.alloc (bxE ((j : Int) + 1) s pa na ca pe ne ce) = u2 at *
              clear hu2
              refine wp_region_held_drew (S := fun W => Below u2.heap.size u2 W) (by kernel_rfl) ((Below.refl _ u2).drew) (fun hS0 => ?_)
              refine takeInH 0 44 ?v35 rfl rfl (by kernel_rfl) (by kernel_rfl) (by kernel_rfl) (fun _ _ _ h => h) (by kernel_rfl) hS0 ?hy35 ?_
              case hy35 => (intro W hW; clear hW; go_simp; try rfl)
              simp only [Act.put, List.setIfInBounds_toArray, List.set_cons_zero, List.set_cons_succ]
              refine takeInH 1 45 ?v36 rfl rfl (by kernel_rfl) (by kernel_rfl) (by kernel_rfl) (fun _ _ _ h => h) (by kernel_rfl) hS0 ?hy36 ?_
              case hy36 => (intro W hW; clear hW; go_simp; try rfl)
              simp only [Act.put, List.setIfInBounds_toArray, List.set_cons_zero, List.set_cons_succ]
              refine takeInH 2 46 ?v37 rfl rfl (by kernel_rfl) (by kernel_rfl) (by kernel_rfl) (fun _ _ _ h => h) (by kernel_rfl) hS0 ?hy37 ?_
              case hy37 => (intro W hW; have e0 := bcell hW y0; have e1 := bcell hW y1; have e2 := bcell hW y2; have e3 := bcell hW y4; clear hW; go_simp; try rfl)
              simp only [Act.put, List.setIfInBounds_toArray, List.set_cons_zero, List.set_cons_succ]
              refine takeInH 3 47 ?v38 rfl rfl (by kernel_rfl) (by kernel_rfl) (by kernel_rfl) (fun _ _ _ h => h) (by kernel_rfl) hS0 ?hy38 ?_
              case hy38 => (intro W hW; clear hW; go_simp; try rfl)
              simp only [Act.put, List.setIfInBounds_toArray, List.set_cons_zero, List.set_cons_succ]
              refine takeInH 4 48 ?v39 rfl rfl (by kernel_rfl) (by kernel_rfl) (by kernel_rfl) (fun _ _ _ h => h) (by kernel_rfl) hS0 ?hy39 ?_
              case hy39 => (intro W hW; clear hW; go_simp; try rfl)
              simp only [Act.put, List.setIfInBounds_toArray, List.set_cons_zero, List.set_cons_succ]
              refine takeInH 5 49 ?v40 rfl rfl (by kernel_rfl) (by kernel_rfl) (by kernel_rfl) (fun _ _ _ h => h) (by kernel_rfl) hS0 ?hy40 ?_
              case hy40 => (intro W hW; have e0 := bcell hW y0; have e1 := bcell hW y1; have e2 := bcell hW y2; have e3 := bcell hW y4; clear hW; go_simp; try rfl)
              simp only [Act.put, List.setIfInBounds_toArray, List.set_cons_zero, List.set_cons_succ]
              refine takeInH 6 50 ?v41 rfl rfl (by kernel_rfl) (by kernel_rfl) (by kernel_rfl) (fun _ _ _ h => h) (by kernel_rfl) hS0 ?hy41 ?_
              case hy41 => (intro W hW; clear hW; go_simp; try rfl)
              simp only [Act.put, List.setIfInBounds_toArray, List.set_cons_zero, List.set_cons_succ]
              refine takeInH 7 51 ?v42 rfl rfl (by kernel_rfl) (by kernel_rfl) (by kernel_rfl) (fun _ _ _ h => h) (by kernel_rfl) hS0 ?hy42 ?_
              case hy42 => (intro W hW; clear hW; go_simp; try rfl)
              simp only [Act.put, List.setIfInBounds_toArray, List.set_cons_zero, List.set_cons_succ]
              refine takeInH 8 52 ?v43 rfl rfl (by kernel_rfl) (by kernel_rfl) (by kernel_rfl) (fun _ _ _ h => h) (by kernel_rfl) hS0 ?hy43 ?_
              case hy43 => (intro W hW; have e0 := bcell hW y0; have e1 := bcell hW y1; have e2 := bcell hW y2; have e3 := bcell hW y4; clear hW; go_simp; try rfl)
              simp only [Act.put, List.setIfInBounds_toArray, List.set_cons_zero, List.set_cons_succ]
              refine takeInH 9 53 ?v44 rfl rfl (by kernel_rfl) (by kernel_rfl) (by kernel_rfl) (fun _ _ _ h => h) (by kernel_rfl) hS0 ?hy44 ?_
              case hy44 => (intro W hW; clear hW; go_simp; try rfl)
              simp only [Act.put, List.setIfInBounds_toArray, List.set_cons_zero, List.set_cons_succ]
              refine takeInH 10 54 ?v45 rfl rfl (by kernel_rfl) (by kernel_rfl) (by kernel_rfl) (fun _ _ _ h => h) (by kernel_rfl) hS0 ?hy45 ?_
              case hy45 => (intro W hW; clear hW; go_simp; try rfl)
              simp only [Act.put, List.setIfInBounds_toArray, List.set_cons_zero, List.set_cons_succ]
              refine takeNoH 11 55 rfl rfl (by kernel_rfl) (by kernel_rfl) (by kernel_rfl) (fun _ _ _ h => h) (by kernel_rfl) hS0 ?_
              simp only [Act.put, List.setIfInBounds_toArray, List.set_cons_zero, List.set_cons_succ]
              refine takeNoH 12 56 rfl rfl (by kernel_rfl) (by kernel_rfl) (by kernel_rfl) (fun _ _ _ h => h) (by kernel_rfl) hS0 ?_
              simp only [Act.put, List.setIfInBounds_toArray, List.set_cons_zero, List.set_cons_succ]
              refine takeNoH 13 57 rfl rfl (by kernel_rfl) (by kernel_rfl) (by kernel_rfl) (fun _ _ _ h => h) (by kernel_rfl) hS0 ?_
              simp only [Act.put, List.setIfInBounds_toArray, List.set_cons_zero, List.set_cons_succ]
              refine takeNoH 14 58 rfl rfl (by kernel_rfl) (by kernel_rfl) (by kernel_rfl) (fun _ _ _ h => h) (by kernel_rfl) hS0 ?_
              simp only [Act.put, List.setIfInBounds_toArray, List.set_cons_zero, List.set_cons_succ]
              refine takeNoH 15 59 rfl rfl (by kernel_rfl) (by kernel_rfl) (by kernel_rfl) (fun _ _ _ h => h) (by kernel_rfl) hS0 ?_
              simp only [Act.put, List.setIfInBounds_toArray, List.set_cons_zero, List.set_cons_succ]
              refine takeInH 16 60 ?v46 rfl rfl (by kernel_rfl) (by kernel_rfl) (by kernel_rfl) (fun _ _ _ h => h) (by kernel_rfl) hS0 ?hy46 ?_
              case hy46 => (intro W hW; clear hW; go_simp; try rfl)
              simp only [Act.put, List.setIfInBounds_toArray, List.set_cons_zero, List.set_cons_succ]
              refine wpAnyH_done (by kernel_rfl) ?_ _
              go_wp2
              go_ret
              exact ⟨retB HE.out, bel_next HBu.out (bel_next HB2.out hS0)⟩
          · have hkl : q = k := by omega
            subst hkl
            have HE : Hid (true = closedB l) := by
              unfold Hid
              rw [hA.out, List.drop_of_length_le (by rw [hlen.out]; exact Nat.le_refl _)]
              rfl
            go_wp2
            go_ret
            exact ⟨retB HE.out, bel_next HBu.out hB.out⟩
      · have HE : Hid (false = closedB l) := by
          unfold Hid closedB
          rw [HALL.out, hol2, hlen.out]
          simp [heq]
        have he1 : ((ol : Int) == (k : Int)) = false := by simp; omega
        have he2 : ¬ (ol : Int) = (k : Int) := by omega
        have he3 : ((ol : Int) != (k : Int)) = true := by simp; omega
        clear hol2 heq
        go_wp2_with (go_at_call 57; refine HOR.out.mono ?_; rintro e u ⟨p6, c6, rfl, _, _, hb⟩)
        go_ret
        exact ⟨retB HE.out, bel_next hB.out hb⟩
end Go.Proofs.Ytooggheoaglbeaa

/- What 'Ahead' does. -/
namespace Go.Proofs.Ytooggheoaglbeaa
open Go.RowKit
set_option linter.unusedVariables false

/-- One is ahead of another one: its Dot may be, and its Seq is not above its Rep's number. -/
def ahdB (d : Dot) (c : List Int) : Bool := mayD d && decide (d.2 ≤ getZ c d.1)
set_option maxHeartbeats 1000000 in
theorem Ahead_any (r s : Int) (pa : Option Addr) (na ca : Nat) (pe : Option Addr) (ne ce : Nat) (r' s' : Int) (pb : Option Addr) (nb cb : Nat) (pf : Option Addr) (nf cf : Nat) (c : List Int) (w : World) (hN : NS w pb nb c) (b : Bool) (hb : b = ahdB (r, s) c) :
    Calls Try.prog 22 #[.agg #[.int .i64 r, .int .i64 s, .slice pa na ca, .slice pe ne ce], .agg #[.int .i64 r', .int .i64 s', .slice pb nb cb, .slice pf nf cf]] w fun e w' => e = .returned (.bool b) ∧ Below w.heap.size w w' := by
  have HG := hide (fun W (h : NS W pb nb c) => Get_any pb nb cb c r W h)
  rcases hm : mayD (r, s) with _ | _
  · have HM := hide (fun W => May_any r s W)
    rw [hm] at HM
    have HE : Hid (false = b) := by
      unfold Hid; rw [hb]; unfold ahdB; rw [hm]; rfl
    clear hb hm
    have HU := hide (bel2 w (bxE r s pa na ca pe ne ce) (bxE r' s' pb nb cb pf nf cf))
    have NU := hide ((hN.alloc (bxE r s pa na ca pe ne ce)).alloc (bxE r' s' pb nb cb pf nf cf))
    have c0 : ((w.alloc (bxE r s pa na ca pe ne ce)).alloc (bxE r' s' pb nb cb pf nf cf)).cell? ⟨w.heap.size, 0, none⟩ = some (.int .i64 r) := cell_old _ (cell_new w _ _ _ rfl 0 _ rfl)
    have c1 : ((w.alloc (bxE r s pa na ca pe ne ce)).alloc (bxE r' s' pb nb cb pf nf cf)).cell? ⟨w.heap.size, 1, none⟩ = some (.int .i64 s) := cell_old _ (cell_new w _ _ _ rfl 1 _ rfl)
    have d2 : ((w.alloc (bxE r s pa na ca pe ne ce)).alloc (bxE r' s' pb nb cb pf nf cf)).cell? ⟨w.heap.size + 1, 2, none⟩ = some (.slice pb nb cb) := cell_new _ _ _ _ (by simp) 2 _ rfl
    clear hN
    go_enter Try.func22, Try.ntmps22
    go_wp2
    generalize hu : (w.alloc (bxE r s pa na ca pe ne ce)).alloc (bxE r' s' pb nb cb pf nf cf) = u at *
    clear hu
    refine wp_region_held_drew (S := fun W => Below u.heap.size u W) (by kernel_rfl) ((Below.refl _ u).drew) (fun hS0 => ?_)
    refine takeInH 0 5 ?v1 rfl rfl (by kernel_rfl) (by kernel_rfl) (by kernel_rfl) (fun _ _ _ h => h) (by kernel_rfl) hS0 ?hy1 ?_
    case hy1 => (intro W hW; clear hW; go_simp; try rfl)
    simp only [Act.put, List.setIfInBounds_toArray, List.set_cons_zero, List.set_cons_succ]
    refine takeInH 1 6 ?v2 rfl rfl (by kernel_rfl) (by kernel_rfl) (by kernel_rfl) (fun _ _ _ h => h) (by kernel_rfl) hS0 ?hy2 ?_
    case hy2 => (intro W hW; have e0 := bcell hW c0; have e1 := bcell hW c1; have e2 := bcell hW d2; clear hW; go_simp; try rfl)
    simp only [Act.put, List.setIfInBounds_toArray, List.set_cons_zero, List.set_cons_succ]
    refine wpAnyH_ready (rs := [2]) (by kernel_rfl) (by simp) ?_
    refine AllReadyH.cons rfl (fun K hK => ?_) AllReadyH.nil
    go_simp
    refine (HM.out _).mono ?_
    rintro e w' ⟨rfl, hg⟩
    have hb := hg.bel
    try go_wp2_with fail
    refine hK.out _ _ ?hs3 (fun hS1 => ?_)
    case hs3 => exact bel_next hS0 hb
    clear hK K
    try simp only [Act.put, List.setIfInBounds_toArray, List.set_cons_zero, List.set_cons_succ]
    refine takeInH 3 8 ?v4 rfl rfl (by kernel_rfl) (by kernel_rfl) (by kernel_rfl) (fun _ _ _ h => h) (by kernel_rfl) hS1 ?hy4 ?_
    case hy4 => (intro W hW; clear hW; go_simp; try rfl)
    simp only [Act.put, List.setIfInBounds_toArray, List.set_cons_zero, List.set_cons_succ]
    refine takeNoH 4 9 rfl rfl (by kernel_rfl) (by kernel_rfl) (by kernel_rfl) (fun _ _ _ h => h) (by kernel_rfl) hS1 ?_
    simp only [Act.put, List.setIfInBounds_toArray, List.set_cons_zero, List.set_cons_succ]
    refine takeNoH 5 10 rfl rfl (by kernel_rfl) (by kernel_rfl) (by kernel_rfl) (fun _ _ _ h => h) (by kernel_rfl) hS1 ?_
    simp only [Act.put, List.setIfInBounds_toArray, List.set_cons_zero, List.set_cons_succ]
    refine takeNoH 6 11 rfl rfl (by kernel_rfl) (by kernel_rfl) (by kernel_rfl) (fun _ _ _ h => h) (by kernel_rfl) hS1 ?_
    simp only [Act.put, List.setIfInBounds_toArray, List.set_cons_zero, List.set_cons_succ]
    refine takeNoH 7 12 rfl rfl (by kernel_rfl) (by kernel_rfl) (by kernel_rfl) (fun _ _ _ h => h) (by kernel_rfl) hS1 ?_
    simp only [Act.put, List.setIfInBounds_toArray, List.set_cons_zero, List.set_cons_succ]
    refine takeNoH 8 13 rfl rfl (by kernel_rfl) (by kernel_rfl) (by kernel_rfl) (fun _ _ _ h => h) (by kernel_rfl) hS1 ?_
    simp only [Act.put, List.setIfInBounds_toArray, List.set_cons_zero, List.set_cons_succ]
    refine takeNoH 9 14 rfl rfl (by kernel_rfl) (by kernel_rfl) (by kernel_rfl) (fun _ _ _ h => h) (by kernel_rfl) hS1 ?_
    simp only [Act.put, List.setIfInBounds_toArray, List.set_cons_zero, List.set_cons_succ]
    refine takeNoH 10 15 rfl rfl (by kernel_rfl) (by kernel_rfl) (by kernel_rfl) (fun _ _ _ h => h) (by kernel_rfl) hS1 ?_
    simp only [Act.put, List.setIfInBounds_toArray, List.set_cons_zero, List.set_cons_succ]
    refine takeNoH 11 16 rfl rfl (by kernel_rfl) (by kernel_rfl) (by kernel_rfl) (fun _ _ _ h => h) (by kernel_rfl) hS1 ?_
    simp only [Act.put, List.setIfInBounds_toArray, List.set_cons_zero, List.set_cons_succ]
    refine takeNoH 12 17 rfl rfl (by kernel_rfl) (by kernel_rfl) (by kernel_rfl) (fun _ _ _ h => h) (by kernel_rfl) hS1 ?_
    simp only [Act.put, List.setIfInBounds_toArray, List.set_cons_zero, List.set_cons_succ]
    refine takeNoH 13 18 rfl rfl (by kernel_rfl) (by kernel_rfl) (by kernel_rfl) (fun _ _ _ h => h) (by kernel_rfl) hS1 ?_
    simp only [Act.put, List.setIfInBounds_toArray, List.set_cons_zero, List.set_cons_succ]
    refine takeInH 14 19 ?v5 rfl rfl (by kernel_rfl) (by kernel_rfl) (by kernel_rfl) (fun _ _ _ h => h) (by kernel_rfl) hS1 ?hy5 ?_
    case hy5 => (intro W hW; clear hW; go_simp; try rfl)
    simp only [Act.put, List.setIfInBounds_toArray, List.set_cons_zero, List.set_cons_succ]
    refine takeInH 15 4 ?v6 rfl rfl (by kernel_rfl) (by kernel_rfl) (by kernel_rfl) (fun _ _ _ h => h) (by kernel_rfl) hS1 ?hy6 ?_
    case hy6 => (intro W hW; clear hW; go_simp; try rfl)
    simp only [Act.put, List.setIfInBounds_toArray, List.set_cons_zero, List.set_cons_succ]
    refine wpAnyH_done (by kernel_rfl) ?_ _
    go_wp2
    go_ret
    exact ⟨retB HE.out, bel_next HU.out hS1⟩
  · have HM := hide (fun W => May_any r s W)
    rw [hm] at HM
    have HE : Hid (decide (s ≤ getZ c r) = b) := by
      unfold Hid; rw [hb]; unfold ahdB; rw [hm]; simp
    clear hb hm
    have HU := hide (bel2 w (bxE r s pa na ca pe ne ce) (bxE r' s' pb nb cb pf nf cf))
    have NU := hide ((hN.alloc (bxE r s pa na ca pe ne ce)).alloc (bxE r' s' pb nb cb pf nf cf))
    have c0 : ((w.alloc (bxE r s pa na ca pe ne ce)).alloc (bxE r' s' pb nb cb pf nf cf)).cell? ⟨w.heap.size, 0, none⟩ = some (.int .i64 r) := cell_old _ (cell_new w _ _ _ rfl 0 _ rfl)
    have c1 : ((w.alloc (bxE r s pa na ca pe ne ce)).alloc (bxE r' s' pb nb cb pf nf cf)).cell? ⟨w.heap.size, 1, none⟩ = some (.int .i64 s) := cell_old _ (cell_new w _ _ _ rfl 1 _ rfl)
    have d2 : ((w.alloc (bxE r s pa na ca pe ne ce)).alloc (bxE r' s' pb nb cb pf nf cf)).cell? ⟨w.heap.size + 1, 2, none⟩ = some (.slice pb nb cb) := cell_new _ _ _ _ (by simp) 2 _ rfl
    clear hN
    go_enter Try.func22, Try.ntmps22
    go_wp2
    generalize hu : (w.alloc (bxE r s pa na ca pe ne ce)).alloc (bxE r' s' pb nb cb pf nf cf) = u at *
    clear hu
    generalize getZ c r = z at HG HE
    refine wp_region_held_drew (S := fun W => Below u.heap.size u W) (by kernel_rfl) ((Below.refl _ u).drew) (fun hS0 => ?_)
    refine takeInH 0 5 ?v7 rfl rfl (by kernel_rfl) (by kernel_rfl) (by kernel_rfl) (fun _ _ _ h => h) (by kernel_rfl) hS0 ?hy7 ?_
    case hy7 => (intro W hW; clear hW; go_simp; try rfl)
    simp only [Act.put, List.setIfInBounds_toArray, List.set_cons_zero, List.set_cons_succ]
    refine takeInH 1 6 ?v8 rfl rfl (by kernel_rfl) (by kernel_rfl) (by kernel_rfl) (fun _ _ _ h => h) (by kernel_rfl) hS0 ?hy8 ?_
    case hy8 => (intro W hW; have e0 := bcell hW c0; have e1 := bcell hW c1; have e2 := bcell hW d2; clear hW; go_simp; try rfl)
    simp only [Act.put, List.setIfInBounds_toArray, List.set_cons_zero, List.set_cons_succ]
    refine wpAnyH_ready (rs := [2]) (by kernel_rfl) (by simp) ?_
    refine AllReadyH.cons rfl (fun K hK => ?_) AllReadyH.nil
    go_simp
    refine (HM.out _).mono ?_
    rintro e w' ⟨rfl, hg⟩
    have hb := hg.bel
    try go_wp2_with fail
    refine hK.out _ _ ?hs9 (fun hS1 => ?_)
    case hs9 => exact bel_next hS0 hb
    clear hK K
    try simp only [Act.put, List.setIfInBounds_toArray, List.set_cons_zero, List.set_cons_succ]
    refine takeInH 3 8 ?v10 rfl rfl (by kernel_rfl) (by kernel_rfl) (by kernel_rfl) (fun _ _ _ h => h) (by kernel_rfl) hS1 ?hy10 ?_
    case hy10 => (intro W hW; clear hW; go_simp; try rfl)
    simp only [Act.put, List.setIfInBounds_toArray, List.set_cons_zero, List.set_cons_succ]
    refine takeInH 4 9 ?v11 rfl rfl (by kernel_rfl) (by kernel_rfl) (by kernel_rfl) (fun _ _ _ h => h) (by kernel_rfl) hS1 ?hy11 ?_
    case hy11 => (intro W hW; clear hW; go_simp; try rfl)
    simp only [Act.put, List.setIfInBounds_toArray, List.set_cons_zero, List.set_cons_succ]
    refine takeInH 5 10 ?v12 rfl rfl (by kernel_rfl) (by kernel_rfl) (by kernel_rfl) (fun _ _ _ h => h) (by kernel_rfl) hS1 ?hy12 ?_
    case hy12 => (intro W hW; clear hW; go_simp; try rfl)
    simp only [Act.put, List.setIfInBounds_toArray, List.set_cons_zero, List.set_cons_succ]
    refine takeInH 6 11 ?v13 rfl rfl (by kernel_rfl) (by kernel_rfl) (by kernel_rfl) (fun _ _ _ h => h) (by kernel_rfl) hS1 ?hy13 ?_
    case hy13 => (intro W hW; have e0 := bcell hW c0; have e1 := bcell hW c1; have e2 := bcell hW d2; clear hW; go_simp; try rfl)
    simp only [Act.put, List.setIfInBounds_toArray, List.set_cons_zero, List.set_cons_succ]
    refine takeInH 7 12 ?v14 rfl rfl (by kernel_rfl) (by kernel_rfl) (by kernel_rfl) (fun _ _ _ h => h) (by kernel_rfl) hS1 ?hy14 ?_
    case hy14 => (intro W hW; clear hW; go_simp; try rfl)
    simp only [Act.put, List.setIfInBounds_toArray, List.set_cons_zero, List.set_cons_succ]
    refine takeInH 8 13 ?v15 rfl rfl (by kernel_rfl) (by kernel_rfl) (by kernel_rfl) (fun _ _ _ h => h) (by kernel_rfl) hS1 ?hy15 ?_
    case hy15 => (intro W hW; have e0 := bcell hW c0; have e1 := bcell hW c1; have e2 := bcell hW d2; clear hW; go_simp; try rfl)
    simp only [Act.put, List.setIfInBounds_toArray, List.set_cons_zero, List.set_cons_succ]
    refine takeInH 9 14 ?v16 rfl rfl (by kernel_rfl) (by kernel_rfl) (by kernel_rfl) (fun _ _ _ h => h) (by kernel_rfl) hS1 ?hy16 ?_
    case hy16 => (intro W hW; clear hW; go_simp; try rfl)
    simp only [Act.put, List.setIfInBounds_toArray, List.set_cons_zero, List.set_cons_succ]
    refine takeInH 10 15 ?v17 rfl rfl (by kernel_rfl) (by kernel_rfl) (by kernel_rfl) (fun _ _ _ h => h) (by kernel_rfl) hS1 ?hy17 ?_
    case hy17 => (intro W hW; clear hW; go_simp; try rfl)
    simp only [Act.put, List.setIfInBounds_toArray, List.set_cons_zero, List.set_cons_succ]
    refine takeInH 11 16 ?v18 rfl rfl (by kernel_rfl) (by kernel_rfl) (by kernel_rfl) (fun _ _ _ h => h) (by kernel_rfl) hS1 ?hy18 ?_
    case hy18 => (intro W hW; have e0 := bcell hW c0; have e1 := bcell hW c1; have e2 := bcell hW d2; clear hW; go_simp; try rfl)
    simp only [Act.put, List.setIfInBounds_toArray, List.set_cons_zero, List.set_cons_succ]
    refine wpAnyH_ready (rs := [12]) (by kernel_rfl) (by simp) ?_
    refine AllReadyH.cons rfl (fun K hK => ?_) AllReadyH.nil
    go_simp
    refine (HG.out _ (NU.out.below hS1)).mono ?_
    rintro e w' ⟨rfl, hb⟩
    try go_wp2_with fail
    refine hK.out _ _ ?hs19 (fun hS2 => ?_)
    case hs19 => exact bel_next hS1 hb
    clear hK K
    try simp only [Act.put, List.setIfInBounds_toArray, List.set_cons_zero, List.set_cons_succ]
    refine takeInH 13 18 ?v20 rfl rfl (by kernel_rfl) (by kernel_rfl) (by kernel_rfl) (fun _ _ _ h => h) (by kernel_rfl) hS2 ?hy20 ?_
    case hy20 => (intro W hW; clear hW; go_simp; try rfl)
    simp only [Act.put, List.setIfInBounds_toArray, List.set_cons_zero, List.set_cons_succ]
    refine takeInH 14 19 ?v21 rfl rfl (by kernel_rfl) (by kernel_rfl) (by kernel_rfl) (fun _ _ _ h => h) (by kernel_rfl) hS2 ?hy21 ?_
    case hy21 => (intro W hW; clear hW; go_simp; try rfl)
    simp only [Act.put, List.setIfInBounds_toArray, List.set_cons_zero, List.set_cons_succ]
    refine takeInH 15 4 ?v22 rfl rfl (by kernel_rfl) (by kernel_rfl) (by kernel_rfl) (fun _ _ _ h => h) (by kernel_rfl) hS2 ?hy22 ?_
    case hy22 => (intro W hW; clear hW; go_simp; try rfl)
    simp only [Act.put, List.setIfInBounds_toArray, List.set_cons_zero, List.set_cons_succ]
    refine wpAnyH_done (by kernel_rfl) ?_ _
    go_wp2
    go_ret
    exact ⟨retB HE.out, bel_next HU.out hS2⟩
end Go.Proofs.Ytooggheoaglbeaa

/- What the statements' 'awake' does. -/
namespace Go.Proofs.Ytooggheoaglbeaa
open Go.RowKit
set_option linter.unusedVariables false

/-- The effect of 'awake'. -/
def effK : Eff := (1, 0, [107], 0, 0, [])
theorem effK_by : ByF effK := ⟨By.cons (by decide) (by decide) By.nil, By.nil⟩
theorem str_k : strOfNums [107] = ⟨#[107]⟩ := rfl
theorem str_0 : strOfNums [] = ⟨#[]⟩ := rfl
theorem cp11 (a : Addr) : CP (some a) 1 1 := CP.some (Nat.le_refl _) (by decide)
theorem cp00 : CP none 0 0 := ⟨Nat.le_refl _, by decide, fun _ => rfl⟩
abbrev o1 : Obj := .cells #[.int .i64 1, .int .i64 0, .string ⟨#[107]⟩, .int .i64 0, .int .i64 0, .string ⟨#[]⟩] 35
abbrev o2 (h : Nat) : Obj := .cells #[.int .i64 1, .int .i64 1, .slice none 0 0, .slice (some ⟨h, 0, none⟩) 1 1] 28
abbrev o3 : Obj := .cells #[.int .i64 1] 3
abbrev o4 (h : Nat) : Obj := .cells #[.int .i64 2, .int .i64 1, .slice (some ⟨h + 1 + 1, 0, none⟩) 1 1, .slice (some ⟨h, 0, none⟩) 1 1] 28
set_option maxHeartbeats 2000000 in
set_option maxRecDepth 100000 in
theorem awake5 (w : World) : Calls Try.prog 9 #[] w fun e w' => e = .returned (.bool true) ∧ Below w.heap.size w w' := by
  obtain ⟨h, hh⟩ : ∃ h, h = w.heap.size := ⟨_, rfl⟩
  have E4 : Hid (ES ((((w.alloc o1).alloc (o2 h)).alloc o3).alloc (o4 h)) (some ⟨h, 0, none⟩) 1 [effK]) := by
    have e1 : ES (w.alloc o1) (some ⟨h, 0, none⟩) 1 [effK] := ⟨RS.new encF_len w h hh [effK] _ rfl _ _ 1 rfl (by decide), fun x hx => by rw [List.mem_singleton.1 hx]; exact effK_by⟩
    exact ((e1.alloc _).alloc _).alloc _
  have N4 : Hid (NS ((((w.alloc o1).alloc (o2 h)).alloc o3).alloc (o4 h)) (some ⟨h + 1 + 1, 0, none⟩) 1 [1]) := by
    have e1 : NS ((((w.alloc o1).alloc (o2 h))).alloc o3) (some ⟨h + 1 + 1, 0, none⟩) 1 [1] := NS.one _ _ (by simp [hh]) 1
    exact e1.alloc _
  have B4 : Hid (Below w.heap.size w ((((w.alloc o1).alloc (o2 h)).alloc o3).alloc (o4 h))) := bel_next (bel_next (bel_next (bel1 w o1) (bel1 _ (o2 h))) (bel1 _ o3)) (bel1 _ (o4 h))
  have hc1 : (((w.alloc o1).alloc (o2 h)).alloc o3).alloc (o4 h) = (((w.alloc o1).alloc (o2 h)).alloc o3).alloc (o4 h) := rfl
  have a0 : ((((w.alloc o1).alloc (o2 h)).alloc o3).alloc (o4 h)).cell? ⟨h + 1, 0, none⟩ = some (.int .i64 1) := cell_old _ (cell_old _ (cell_new _ _ _ _ (by simp [hh]) 0 _ rfl))
  have a1 : ((((w.alloc o1).alloc (o2 h)).alloc o3).alloc (o4 h)).cell? ⟨h + 1, 1, none⟩ = some (.int .i64 1) := cell_old _ (cell_old _ (cell_new _ _ _ _ (by simp [hh]) 1 _ rfl))
  have a2 : ((((w.alloc o1).alloc (o2 h)).alloc o3).alloc (o4 h)).cell? ⟨h + 1, 2, none⟩ = some (.slice none 0 0) := cell_old _ (cell_old _ (cell_new _ _ _ _ (by simp [hh]) 2 _ rfl))
  have a3 : ((((w.alloc o1).alloc (o2 h)).alloc o3).alloc (o4 h)).cell? ⟨h + 1, 3, none⟩ = some (.slice (some ⟨h, 0, none⟩) 1 1) := cell_old _ (cell_old _ (cell_new _ _ _ _ (by simp [hh]) 3 _ rfl))
  have b0 : ((((w.alloc o1).alloc (o2 h)).alloc o3).alloc (o4 h)).cell? ⟨h + 1 + 1 + 1, 0, none⟩ = some (.int .i64 2) := cell_new _ _ _ _ (by simp [hh]) 0 _ rfl
  have b1 : ((((w.alloc o1).alloc (o2 h)).alloc o3).alloc (o4 h)).cell? ⟨h + 1 + 1 + 1, 1, none⟩ = some (.int .i64 1) := cell_new _ _ _ _ (by simp [hh]) 1 _ rfl
  have b2 : ((((w.alloc o1).alloc (o2 h)).alloc o3).alloc (o4 h)).cell? ⟨h + 1 + 1 + 1, 2, none⟩ = some (.slice (some ⟨h + 1 + 1, 0, none⟩) 1 1) := cell_new _ _ _ _ (by simp [hh]) 2 _ rfl
  have b3 : ((((w.alloc o1).alloc (o2 h)).alloc o3).alloc (o4 h)).cell? ⟨h + 1 + 1 + 1, 3, none⟩ = some (.slice (some ⟨h, 0, none⟩) 1 1) := cell_new _ _ _ _ (by simp [hh]) 3 _ rfl
  have HA1 := hide (fun W (hN : NS W (some ⟨h + 1 + 1, 0, none⟩) 1 [1]) => Ahead_any 1 1 none 0 0 (some ⟨h, 0, none⟩) 1 1 2 1 (some ⟨h + 1 + 1, 0, none⟩) 1 1 (some ⟨h, 0, none⟩) 1 1 [1] W hN true (by decide))
  have HA2 := hide (fun W => Ahead_any 2 1 (some ⟨h + 1 + 1, 0, none⟩) 1 1 (some ⟨h, 0, none⟩) 1 1 1 1 none 0 0 (some ⟨h, 0, none⟩) 1 1 [] W (NS.nil W none) false (by decide))
  have HK := hide (fun W (hN : NS W (some ⟨h + 1 + 1, 0, none⟩) 1 [1]) (hE : ES W (some ⟨h, 0, none⟩) 1 [effK]) => CheckE_any 2 1 (some ⟨h + 1 + 1, 0, none⟩) 1 1 (some ⟨h, 0, none⟩) 1 1 [1] [effK] W hN hE)
  have hk : errB (mayE ((2, 1), [1], [effK])) = 0 := by decide
  rw [hk] at HK
  have HC := hide (fun W g (hE : EVS W (some ⟨g, 0, none⟩) 2 [((2, 1), [1], [effK]), ((1, 1), [], [effK])]) => Closed_any (some ⟨g, 0, none⟩) 2 2 _ W hE (by decide))
  have hcl : closedB [((2, 1), [1], [effK]), ((1, 1), [], [effK])] = true := by decide
  rw [hcl] at HC
  clear hk hcl hc1
  subst hh
  go_enter Try.func9, Try.ntmps9
  go_wp2_with (go_at_call 22; refine Stop.at ?_)
  unfold Stop
  generalize hW : (((w.alloc o1).alloc (o2 w.heap.size)).alloc o3).alloc (o4 w.heap.size) = W4 at *
  clear hW
  refine (HA1.out _ N4.out).mono ?_
  rintro e u1 ⟨rfl, hb⟩
  replace E4 := hide (E4.out.below hb)
  replace N4 := hide (N4.out.below hb)
  replace B4 := hide (bel_next B4.out hb)
  replace a0 := bcell hb a0
  replace a1 := bcell hb a1
  replace a2 := bcell hb a2
  replace a3 := bcell hb a3
  replace b0 := bcell hb b0
  replace b1 := bcell hb b1
  replace b2 := bcell hb b2
  replace b3 := bcell hb b3
  clear hb
  go_wp2_with (go_at_call 22; refine Stop.at ?_)
  unfold Stop
  refine (HA2.out _).mono ?_
  rintro e u2 ⟨rfl, hb⟩
  replace E4 := hide (E4.out.below hb)
  replace N4 := hide (N4.out.below hb)
  replace B4 := hide (bel_next B4.out hb)
  replace a0 := bcell hb a0
  replace a1 := bcell hb a1
  replace a2 := bcell hb a2
  replace a3 := bcell hb a3
  replace b0 := bcell hb b0
  replace b1 := bcell hb b1
  replace b2 := bcell hb b2
  replace b3 := bcell hb b3
  clear hb
  go_wp2_with (go_at_call 27; refine Stop.at ?_)
  unfold Stop
  refine (HC.out _ _ (EVS.new u2 _ rfl [(2, 1, (some ⟨w.heap.size + 1 + 1, 0, none⟩, 1, 1), (some ⟨w.heap.size, 0, none⟩, 1, 1)), (1, 1, (none, 0, 0), (some ⟨w.heap.size, 0, none⟩, 1, 1))] _ _ rfl _ _ 2 rfl rfl (by decide) ?_)).mono ?_
  · intro i x e hx he
    rcases i with _ | _ | i
    · simp at hx he
      subst hx he
      exact ⟨rfl, ⟨N4.out, cp11 _⟩, E4.out, cp11 _⟩
    · simp at hx he
      subst hx he
      exact ⟨rfl, ⟨NS.nil _ _, cp00⟩, E4.out, cp11 _⟩
    · simp at hx
  rintro e u3 ⟨rfl, hb0⟩
  have hb := bel_next (bel1 u2 _) hb0
  clear hb0
  replace E4 := hide (E4.out.below hb)
  replace N4 := hide (N4.out.below hb)
  replace B4 := hide (bel_next B4.out hb)
  replace b0 := bcell hb b0
  replace b1 := bcell hb b1
  replace b2 := bcell hb b2
  replace b3 := bcell hb b3
  clear hb a0 a1 a2 a3
  go_wp2_with (go_at_call 16; refine Stop.at ?_)
  unfold Stop
  refine (HK.out _ N4.out E4.out).mono ?_
  rintro e u4 ⟨rfl, hb⟩
  go_wp2
  go_ret
  exact ⟨rfl, bel_next B4.out hb⟩
end Go.Proofs.Ytooggheoaglbeaa

