/- Texts of this claim, joined: DFun7, EClo, EAhead, ELaw, ESame, EFun2, CTurn. -/
import Derived.Test.YtohhlidlgibieaaJ3
import Derived.Laws.StructEq
import Derived.Test.YtohhlidlgibieaaJ2
/- What 'slices.Compact' and 'Order' do. -/
namespace Go.Proofs.Ytohhlidlgibieaa
open Go.RowKit Go.Lib Go.Sort
set_option linter.unusedVariables false

theorem wrapJ {j : Nat} (h : j ≤ 1000000000) : IntKind.i64.wrap (j : Int) = j := by simp [IntKind.wrap, IntKind.bits, IntKind.signed]; omega
theorem compact_done {d dk : Array Dot} {n kk : Nat} {w : World} {g : Nat} (hd : d.size = n) (hI : CompInv d n kk dk) (hH : HD w g dk) (hm : n ≤ maxLen) :
    kk = (compactUpTo d d.size).length ∧ DS (w.setCells g (kk * 2) (List.replicate ((n - kk) * 2) (.int .i64 0))) (some ⟨g, 0, none⟩) (compactUpTo d d.size).length (compactUpTo d d.size) := by
  have hs := hI.size
  rw [hd]
  have e := hI.len
  refine ⟨e.symm, rfl, by rw [e]; have := hI.lt; omega, .inr ⟨g, 0, rfl, fun i hi => ?_⟩⟩
  rw [e] at hi
  have e2 : (compactUpTo d n).getD i (0, 0) = dk[i]! := by rw [List.getD_eq_getElem?_getD, hI.low i hi]; rfl
  have q := hH i (by have := hI.lt; omega)
  rw [e2, Nat.zero_add]
  rw [World.cell?_setCells_out g _ _ _ _ (fun _ _ => Or.inl (by show i * 2 < kk * 2; omega)), World.cell?_setCells_out g _ _ _ _ (fun _ _ => Or.inl (by show i * 2 + 1 < kk * 2; omega))]
  exact ⟨q.1, q.2.1⟩
theorem bel_setCells {N : Nat} {w0 : World} {g : Nat} (hN : N ≤ g) : ∀ (vs : List Value) (o : Nat) (w : World), Below N w0 w → Below N w0 (w.setCells g o vs)
  | [], _, _, h => h
  | v :: r, o, w, h => bel_setCells hN r (o + 1) _ (h.setCell (p := ⟨g, o, none⟩) hN v)

set_option maxHeartbeats 4000000 in
set_option maxRecDepth 100000 in
theorem compact_any (N g cap n : Nat) (d : Array Dot) (w : World) (hd : d.size = n) (hnc : n ≤ cap) (hcm : cap ≤ maxLen) (hN : N ≤ g) (hH : HD w g d) (hn1 : n ≤ 1000000) :
    Calls Try.prog 77 #[.slice (some ⟨g, 0, none⟩) n cap] w fun e w' => e = .returned (.slice (some ⟨g, 0, none⟩) (compactUpTo d d.size).length cap) ∧ DS w' (some ⟨g, 0, none⟩) (compactUpTo d d.size).length (compactUpTo d d.size) ∧ Below N w w' := by
  unfold maxLen at hcm
  have HA : Hid (∀ w', HD w' g d → (∀ j, j < n → keeps d j = true) → n = (compactUpTo d d.size).length ∧ DS w' (some ⟨g, 0, none⟩) (compactUpTo d d.size).length (compactUpTo d d.size)) := by
    intro w' hH' hall
    have e : compactUpTo d d.size = d.toList := by rw [compactUpTo_all d _ (by rw [hd]; exact hall), range_map_get]
    rw [e]
    have e2 : d.toList.length = n := by simpa using hd
    refine ⟨e2.symm, hH'.ds _ (by simp) (by unfold maxLen; omega) (fun j hj => ?_)⟩
    have hj' : j < d.size := by simpa using hj
    rw [getElem!_pos d j hj']
    simp [hj']
  have HN := hide hN
  by_cases h2 : (n : Int) < 2
  · have HH := hide hH
    clear hH
    go_enter Try.func77, Try.ntmps77
    go_wp2
    go_ret
    obtain ⟨e1, e2⟩ := HA.out w HH.out (fun j hj => keeps_lt_one d j (by omega))
    exact ⟨by rw [← e1]; rfl, e2, Below.refl _ _⟩
  · have HH0 := hide hH
    have Hd := hide hd
    clear hH hd
    go_enter Try.func77, Try.ntmps77
    go_wp2
    go_loopw [3] (fun s3 wr => ∃ k : Nat, 1 ≤ k ∧ k ≤ n ∧ s3 = .int .i64 k ∧ Hid (HD wr g d) ∧ Hid (Below N w wr) ∧ Hid (∀ j, j < k → keeps d j = true)) (fun s3 _ => n - (intOf s3).toNat)
    case atStart => exact ⟨1, by omega, by omega, rfl, HH0, Below.refl _ _, keeps_lt_one d⟩
    case round =>
      obtain ⟨k, hk1, hkn, rfl, HH, HB, HK⟩ := hrel
      by_cases hlt : k < n
      · obtain ⟨j, rfl⟩ : ∃ j, k = j + 1 := ⟨k - 1, by omega⟩
        have q1 := HH.out (j + 1) (by rw [Hd.out]; exact hlt)
        have q0 := HH.out j (by rw [Hd.out]; omega)
        obtain ⟨x, hx⟩ : ∃ x, d[j + 1]! = x := ⟨_, rfl⟩
        obtain ⟨y, hy⟩ : ∃ y, d[j]! = y := ⟨_, rfl⟩
        rw [hx] at q1
        rw [hy] at q0
        have HXY : Hid (d[j + 1]! = x ∧ d[j + 1 - 1]! = y) := ⟨hx, hy⟩
        clear hx hy
        obtain ⟨r, s⟩ := x
        obtain ⟨p, q⟩ := y
        have c0 := q1.1
        have c1 := q1.2.1
        have c2 := q0.1
        have c3 := q0.2.1
        clear q0 q1
        have hwj := wrapJ (show j ≤ 1000000000 by omega)
        have hj1 : ((j : Int)) < (n : Int) := by omega
        have hj2 : ((j : Int)) + 1 < (n : Int) := by omega
        by_cases hxy : r = p ∧ s = q
        · have hq := fun w => eqD r s p q true (by symm; exact decide_eq_true hxy) w
          have HS : Hid (CompInv d (j + 1 + 1) (j + 1) d) := CompInv.start HK.out (keeps_neg (by omega) (by rw [HXY.out.1, HXY.out.2, hxy.1, hxy.2]))
          have hcap1 : ¬ (cap = j + 1) := by omega
          have hcap2 : ¬ ((cap : Int) = (j : Int) + 1) := by omega
          have hjc : ((j : Int)) + 1 ≤ (cap : Int) := by omega
          clear hxy HK
          go_wp2
          refine wp_region_held_drew (S := fun W => Below wr.heap.size wr W) (by kernel_rfl) ((Below.refl _ wr).drew) (fun hS0 => ?_)
          refine takeInH 0 16 ?v1 rfl rfl (by kernel_rfl) (by kernel_rfl) (by kernel_rfl) (fun _ _ _ h => h) (by kernel_rfl) hS0 ?hy1 ?_
          case hy1 => (intro W hW; clear hW; go_simp; try rfl)
          simp only [Act.put, List.setIfInBounds_toArray, List.set_cons_zero, List.set_cons_succ]
          refine takeInH 1 17 ?v2 rfl rfl (by kernel_rfl) (by kernel_rfl) (by kernel_rfl) (fun _ _ _ h => h) (by kernel_rfl) hS0 ?hy2 ?_
          case hy2 => (intro W hW; clear hW; go_simp; try rfl)
          simp only [Act.put, List.setIfInBounds_toArray, List.set_cons_zero, List.set_cons_succ]
          refine takeInH 2 18 ?v3 rfl rfl (by kernel_rfl) (by kernel_rfl) (by kernel_rfl) (fun _ _ _ h => h) (by kernel_rfl) hS0 ?hy3 ?_
          case hy3 => (intro W hW; clear hW; go_simp; try rfl)
          simp only [Act.put, List.setIfInBounds_toArray, List.set_cons_zero, List.set_cons_succ]
          refine takeInH 3 19 ?v4 rfl rfl (by kernel_rfl) (by kernel_rfl) (by kernel_rfl) (fun _ _ _ h => h) (by kernel_rfl) hS0 ?hy4 ?_
          case hy4 => (intro W hW; have e0 := bcell hW c0; have e1 := bcell hW c1; have e2 := bcell hW c2; have e3 := bcell hW c3; clear hW; go_simp; try rfl)
          simp only [Act.put, List.setIfInBounds_toArray, List.set_cons_zero, List.set_cons_succ]
          refine takeInH 4 20 ?v5 rfl rfl (by kernel_rfl) (by kernel_rfl) (by kernel_rfl) (fun _ _ _ h => h) (by kernel_rfl) hS0 ?hy5 ?_
          case hy5 => (intro W hW; clear hW; go_simp; try rfl)
          simp only [Act.put, List.setIfInBounds_toArray, List.set_cons_zero, List.set_cons_succ]
          refine takeInH 5 21 ?v6 rfl rfl (by kernel_rfl) (by kernel_rfl) (by kernel_rfl) (fun _ _ _ h => h) (by kernel_rfl) hS0 ?hy6 ?_
          case hy6 => (intro W hW; clear hW; go_simp; try rfl)
          simp only [Act.put, List.setIfInBounds_toArray, List.set_cons_zero, List.set_cons_succ]
          refine takeInH 6 22 ?v7 rfl rfl (by kernel_rfl) (by kernel_rfl) (by kernel_rfl) (fun _ _ _ h => h) (by kernel_rfl) hS0 ?hy7 ?_
          case hy7 => (intro W hW; clear hW; go_simp; try rfl)
          simp only [Act.put, List.setIfInBounds_toArray, List.set_cons_zero, List.set_cons_succ]
          refine takeInH 7 23 ?v8 rfl rfl (by kernel_rfl) (by kernel_rfl) (by kernel_rfl) (fun _ _ _ h => h) (by kernel_rfl) hS0 ?hy8 ?_
          case hy8 => (intro W hW; clear hW; go_simp; try rfl)
          simp only [Act.put, List.setIfInBounds_toArray, List.set_cons_zero, List.set_cons_succ]
          refine takeInH 8 24 ?v9 rfl rfl (by kernel_rfl) (by kernel_rfl) (by kernel_rfl) (fun _ _ _ h => h) (by kernel_rfl) hS0 ?hy9 ?_
          case hy9 => (intro W hW; have e0 := bcell hW c0; have e1 := bcell hW c1; have e2 := bcell hW c2; have e3 := bcell hW c3; clear hW; go_simp; try rfl)
          simp only [Act.put, List.setIfInBounds_toArray, List.set_cons_zero, List.set_cons_succ]
          refine takeInH 9 25 ?v10 rfl rfl (by kernel_rfl) (by kernel_rfl) (by kernel_rfl) (fun _ _ _ h => h) (by kernel_rfl) hS0 ?hy10 ?_
          case hy10 => (intro W hW; clear hW; go_simp; try rfl)
          simp only [Act.put, List.setIfInBounds_toArray, List.set_cons_zero, List.set_cons_succ]
          refine wpAnyH_done (by kernel_rfl) ?_ _
          go_wp2
          have HH1 := hide HH.out.drew
          have HB1 := hide HB.out.drew
          clear c0 c1 c2 c3 HH HB hS0 hq HXY
          generalize wr.drew = wq at *
          clear hwj
          go_loopw [3, 5] (fun s3 s5 wr => ∃ (kk k2 : Nat) (dk : Array Dot), s3 = .int .i64 kk ∧ s5 = .int .i64 k2 ∧ 1 ≤ k2 ∧ (j + 1) + k2 ≤ n ∧ Hid (HD wr g dk) ∧ Hid (Below N w wr) ∧ Hid (CompInv d ((j + 1) + k2) kk dk)) (fun _ s5 _ => n - (intOf s5).toNat)
          case atStart => exact ⟨j + 1, 1, d, by go_num, rfl, by omega, by omega, HH1, HB1, HS⟩
          case round =>
            clear HH1 HB1 HS
            obtain ⟨kk, k2, dk, rfl, rfl, h1, hle, HH, HB, HI⟩ := hrel
            have hkk := HI.out.lt
            have hds : dk.size = n := by rw [HI.out.size, Hd.out]
            by_cases hlt2 : (j + 1) + k2 < n
            · obtain ⟨i, rfl⟩ : ∃ i, k2 = i + 1 := ⟨k2 - 1, by omega⟩
              have q1 := HH.out ((j + 1) + (i + 1)) (by omega)
              have q0 := HH.out ((j + 1) + i) (by omega)
              have qk := HH.out kk (by omega)
              rw [HI.out.high ((j + 1) + (i + 1)) (by omega), show ((j + 1) + (i + 1)) * 2 = (j + 1) * 2 + (i + 1) * 2 by omega] at q1
              rw [HI.out.high ((j + 1) + i) (by omega), show ((j + 1) + i) * 2 = (j + 1) * 2 + i * 2 by omega] at q0
              obtain ⟨x, hx⟩ : ∃ x, d[(j + 1) + (i + 1)]! = x := ⟨_, rfl⟩
              obtain ⟨y, hy⟩ : ∃ y, d[(j + 1) + i]! = y := ⟨_, rfl⟩
              rw [hx] at q1
              rw [hy] at q0
              have HXY : Hid (d[(j + 1) + (i + 1)]! = x ∧ d[(j + 1) + (i + 1) - 1]! = y) := ⟨hx, hy⟩
              clear hx hy
              obtain ⟨r, s⟩ := x
              obtain ⟨p, q⟩ := y
              have c0 := q1.1
              have c1 := q1.2.1
              have c2 := q0.1
              have c3 := q0.2.1
              clear q0 q1
              have hwi := wrapJ (show i ≤ 1000000000 by omega)
              have hw2 : ((i : Int) + 1 - 1) = (i : Int) := by omega
              have hi1 : ((i : Int)) < ((n - (j + 1) : Nat) : Int) := by omega
              have hi2 : ((i : Int)) + 1 < ((n - (j + 1) : Nat) : Int) := by omega
              have hi3 : ((kk : Int)) < (n : Int) := by omega
              by_cases hxy : r = p ∧ s = q
              · have hq := fun w => eqD r s p q true (by symm; exact decide_eq_true hxy) w
                have HI2 : Hid (CompInv d ((j + 1) + (i + 1) + 1) kk dk) := HI.out.skip (keeps_neg (by omega) (by rw [HXY.out.1, HXY.out.2, hxy.1, hxy.2]))
                clear hxy HI
                go_wp2
                refine wp_region_held_drew (S := fun W => Below wr.heap.size wr W) (by kernel_rfl) ((Below.refl _ wr).drew) (fun hS0 => ?_)
                refine takeInH 0 35 ?v11 rfl rfl (by kernel_rfl) (by kernel_rfl) (by kernel_rfl) (fun _ _ _ h => h) (by kernel_rfl) hS0 ?hy11 ?_
                case hy11 => (intro W hW; clear hW; go_simp; try rfl)
                simp only [Act.put, List.setIfInBounds_toArray, List.set_cons_zero, List.set_cons_succ]
                refine takeInH 1 36 ?v12 rfl rfl (by kernel_rfl) (by kernel_rfl) (by kernel_rfl) (fun _ _ _ h => h) (by kernel_rfl) hS0 ?hy12 ?_
                case hy12 => (intro W hW; clear hW; go_simp; try rfl)
                simp only [Act.put, List.setIfInBounds_toArray, List.set_cons_zero, List.set_cons_succ]
                refine takeInH 2 37 ?v13 rfl rfl (by kernel_rfl) (by kernel_rfl) (by kernel_rfl) (fun _ _ _ h => h) (by kernel_rfl) hS0 ?hy13 ?_
                case hy13 => (intro W hW; clear hW; go_simp; try rfl)
                simp only [Act.put, List.setIfInBounds_toArray, List.set_cons_zero, List.set_cons_succ]
                refine takeInH 3 38 ?v14 rfl rfl (by kernel_rfl) (by kernel_rfl) (by kernel_rfl) (fun _ _ _ h => h) (by kernel_rfl) hS0 ?hy14 ?_
                case hy14 => (intro W hW; have e0 := bcell hW c0; have e1 := bcell hW c1; have e2 := bcell hW c2; have e3 := bcell hW c3; clear hW; go_simp; try rfl)
                simp only [Act.put, List.setIfInBounds_toArray, List.set_cons_zero, List.set_cons_succ]
                refine takeInH 4 39 ?v15 rfl rfl (by kernel_rfl) (by kernel_rfl) (by kernel_rfl) (fun _ _ _ h => h) (by kernel_rfl) hS0 ?hy15 ?_
                case hy15 => (intro W hW; clear hW; go_simp; try rfl)
                simp only [Act.put, List.setIfInBounds_toArray, List.set_cons_zero, List.set_cons_succ]
                refine takeInH 5 40 ?v16 rfl rfl (by kernel_rfl) (by kernel_rfl) (by kernel_rfl) (fun _ _ _ h => h) (by kernel_rfl) hS0 ?hy16 ?_
                case hy16 => (intro W hW; clear hW; go_simp; try rfl)
                simp only [Act.put, List.setIfInBounds_toArray, List.set_cons_zero, List.set_cons_succ]
                refine takeInH 6 41 ?v17 rfl rfl (by kernel_rfl) (by kernel_rfl) (by kernel_rfl) (fun _ _ _ h => h) (by kernel_rfl) hS0 ?hy17 ?_
                case hy17 => (intro W hW; clear hW; go_simp; try rfl)
                simp only [Act.put, List.setIfInBounds_toArray, List.set_cons_zero, List.set_cons_succ]
                refine takeInH 7 42 ?v18 rfl rfl (by kernel_rfl) (by kernel_rfl) (by kernel_rfl) (fun _ _ _ h => h) (by kernel_rfl) hS0 ?hy18 ?_
                case hy18 => (intro W hW; clear hW; go_simp; try rfl)
                simp only [Act.put, List.setIfInBounds_toArray, List.set_cons_zero, List.set_cons_succ]
                refine takeInH 8 43 ?v19 rfl rfl (by kernel_rfl) (by kernel_rfl) (by kernel_rfl) (fun _ _ _ h => h) (by kernel_rfl) hS0 ?hy19 ?_
                case hy19 => (intro W hW; have e0 := bcell hW c0; have e1 := bcell hW c1; have e2 := bcell hW c2; have e3 := bcell hW c3; clear hW; go_simp; try rfl)
                simp only [Act.put, List.setIfInBounds_toArray, List.set_cons_zero, List.set_cons_succ]
                refine takeInH 9 44 ?v20 rfl rfl (by kernel_rfl) (by kernel_rfl) (by kernel_rfl) (fun _ _ _ h => h) (by kernel_rfl) hS0 ?hy20 ?_
                case hy20 => (intro W hW; clear hW; go_simp; try rfl)
                simp only [Act.put, List.setIfInBounds_toArray, List.set_cons_zero, List.set_cons_succ]
                refine wpAnyH_done (by kernel_rfl) ?_ _
                have HH1 := hide HH.out.drew
                have HB1 := hide HB.out.drew
                go_wp2
                go_roundw
                case rel => exact ⟨kk, i + 1 + 1, dk, rfl, by go_num, by omega, by omega, HH1, HB1, HI2⟩
                case measure => simp [intOf]; omega
              · have hq := fun w => eqD r s p q false (by symm; exact decide_eq_false hxy) w
                have HI2 : Hid (CompInv d ((j + 1) + (i + 1) + 1) (kk + 1) (dk.setIfInBounds kk (r, s))) := by
                  have z := HI.out.keep (by rw [Hd.out]; exact hlt2) (keeps_pos (by rw [HXY.out.1, HXY.out.2]; intro e; exact hxy ⟨congrArg Prod.fst e, congrArg Prod.snd e⟩))
                  rw [HXY.out.1] at z
                  exact z
                clear hxy HI
                go_wp2
                refine wp_region_held_drew (S := fun W => Below wr.heap.size wr W) (by kernel_rfl) ((Below.refl _ wr).drew) (fun hS0 => ?_)
                refine takeInH 0 35 ?v21 rfl rfl (by kernel_rfl) (by kernel_rfl) (by kernel_rfl) (fun _ _ _ h => h) (by kernel_rfl) hS0 ?hy21 ?_
                case hy21 => (intro W hW; clear hW; go_simp; try rfl)
                simp only [Act.put, List.setIfInBounds_toArray, List.set_cons_zero, List.set_cons_succ]
                refine takeInH 1 36 ?v22 rfl rfl (by kernel_rfl) (by kernel_rfl) (by kernel_rfl) (fun _ _ _ h => h) (by kernel_rfl) hS0 ?hy22 ?_
                case hy22 => (intro W hW; clear hW; go_simp; try rfl)
                simp only [Act.put, List.setIfInBounds_toArray, List.set_cons_zero, List.set_cons_succ]
                refine takeInH 2 37 ?v23 rfl rfl (by kernel_rfl) (by kernel_rfl) (by kernel_rfl) (fun _ _ _ h => h) (by kernel_rfl) hS0 ?hy23 ?_
                case hy23 => (intro W hW; clear hW; go_simp; try rfl)
                simp only [Act.put, List.setIfInBounds_toArray, List.set_cons_zero, List.set_cons_succ]
                refine takeInH 3 38 ?v24 rfl rfl (by kernel_rfl) (by kernel_rfl) (by kernel_rfl) (fun _ _ _ h => h) (by kernel_rfl) hS0 ?hy24 ?_
                case hy24 => (intro W hW; have e0 := bcell hW c0; have e1 := bcell hW c1; have e2 := bcell hW c2; have e3 := bcell hW c3; clear hW; go_simp; try rfl)
                simp only [Act.put, List.setIfInBounds_toArray, List.set_cons_zero, List.set_cons_succ]
                refine takeInH 4 39 ?v25 rfl rfl (by kernel_rfl) (by kernel_rfl) (by kernel_rfl) (fun _ _ _ h => h) (by kernel_rfl) hS0 ?hy25 ?_
                case hy25 => (intro W hW; clear hW; go_simp; try rfl)
                simp only [Act.put, List.setIfInBounds_toArray, List.set_cons_zero, List.set_cons_succ]
                refine takeInH 5 40 ?v26 rfl rfl (by kernel_rfl) (by kernel_rfl) (by kernel_rfl) (fun _ _ _ h => h) (by kernel_rfl) hS0 ?hy26 ?_
                case hy26 => (intro W hW; clear hW; go_simp; try rfl)
                simp only [Act.put, List.setIfInBounds_toArray, List.set_cons_zero, List.set_cons_succ]
                refine takeInH 6 41 ?v27 rfl rfl (by kernel_rfl) (by kernel_rfl) (by kernel_rfl) (fun _ _ _ h => h) (by kernel_rfl) hS0 ?hy27 ?_
                case hy27 => (intro W hW; clear hW; go_simp; try rfl)
                simp only [Act.put, List.setIfInBounds_toArray, List.set_cons_zero, List.set_cons_succ]
                refine takeInH 7 42 ?v28 rfl rfl (by kernel_rfl) (by kernel_rfl) (by kernel_rfl) (fun _ _ _ h => h) (by kernel_rfl) hS0 ?hy28 ?_
                case hy28 => (intro W hW; clear hW; go_simp; try rfl)
                simp only [Act.put, List.setIfInBounds_toArray, List.set_cons_zero, List.set_cons_succ]
                refine takeInH 8 43 ?v29 rfl rfl (by kernel_rfl) (by kernel_rfl) (by kernel_rfl) (fun _ _ _ h => h) (by kernel_rfl) hS0 ?hy29 ?_
                case hy29 => (intro W hW; have e0 := bcell hW c0; have e1 := bcell hW c1; have e2 := bcell hW c2; have e3 := bcell hW c3; clear hW; go_simp; try rfl)
                simp only [Act.put, List.setIfInBounds_toArray, List.set_cons_zero, List.set_cons_succ]
                refine takeInH 9 44 ?v30 rfl rfl (by kernel_rfl) (by kernel_rfl) (by kernel_rfl) (fun _ _ _ h => h) (by kernel_rfl) hS0 ?hy30 ?_
                case hy30 => (intro W hW; clear hW; go_simp; try rfl)
                simp only [Act.put, List.setIfInBounds_toArray, List.set_cons_zero, List.set_cons_succ]
                refine wpAnyH_done (by kernel_rfl) ?_ _
                have HH1 := hide (HH.out.drew.set (k := kk) (by omega) r s)
                have HB1 := hide ((HB.out.drew.setCell (p := ⟨g, kk * 2, none⟩) HN.out (.int .i64 r)).setCell (p := ⟨g, kk * 2 + 1, none⟩) HN.out (.int .i64 s))
                have d0 : wr.drew.cell? ⟨g, (j + 1) * 2 + (i + 1) * 2, none⟩ = some (.int .i64 r) := c0
                have d1 : wr.drew.cell? ⟨g, (j + 1) * 2 + (i + 1) * 2 + 1, none⟩ = some (.int .i64 s) := c1
                have k0 : wr.drew.cell? ⟨g, kk * 2, none⟩ = some _ := qk.1
                have k1 : wr.drew.cell? ⟨g, kk * 2 + 1, none⟩ = some _ := qk.2.1
                have f0 : wr.drew.frozen? ⟨g, kk * 2, none⟩ = false := qk.2.2.1
                have f1 : wr.drew.frozen? ⟨g, kk * 2 + 1, none⟩ = false := qk.2.2.2
                clear c0 c1 c2 c3 qk hS0 HH HB
                generalize wr.drew = wq at *
                go_wp2
                go_roundw
                case rel => exact ⟨kk + 1, i + 1 + 1, dk.setIfInBounds kk (r, s), by go_num, by go_num, by omega, by omega, HH1, HB1, HI2⟩
                case measure => simp [intOf]; omega
            · have hend : (j + 1) + k2 = n := by omega
              have hcl := fun ty => clear_dots wr g kk n (cap - kk) dk hds HH.out (by omega) ty
              have hI := HI.out
              rw [hend] at hI
              have HE := hide (compact_done Hd.out hI HH.out (by unfold maxLen; omega))
              have HB2 := hide (bel_setCells HN.out (List.replicate ((n - kk) * 2) (.int .i64 0)) (kk * 2) wr HB.out)
              have hc1 : ¬ (cap = kk) := by omega
              have hc2 : ¬ ((cap : Int) = (kk : Int)) := by omega
              have hc3 : ((kk : Int)) ≤ (n : Int) := by omega
              have hc4 : ((kk : Int)) ≤ (cap : Int) := by omega
              have hc5 : ¬ ((k2 : Int) < ((n - (j + 1) : Nat) : Int)) := by omega
              clear hI HI HH HB
              go_wp2
              go_ret
              exact ⟨by rw [← HE.out.1]; rfl, HE.out.2, HB2.out⟩
        · have hq := fun w => eqD r s p q false (by symm; exact decide_eq_false hxy) w
          have HK2 : Hid (∀ i, i < j + 1 + 1 → keeps d i = true) := fun i hi => by
            by_cases e : i = j + 1
            · subst e; exact keeps_pos (by rw [HXY.out.1, HXY.out.2]; intro e; exact hxy ⟨congrArg Prod.fst e, congrArg Prod.snd e⟩)
            · exact HK.out i (by omega)
          clear hxy HK
          go_wp2
          refine wp_region_held_drew (S := fun W => Below wr.heap.size wr W) (by kernel_rfl) ((Below.refl _ wr).drew) (fun hS0 => ?_)
          refine takeInH 0 16 ?v31 rfl rfl (by kernel_rfl) (by kernel_rfl) (by kernel_rfl) (fun _ _ _ h => h) (by kernel_rfl) hS0 ?hy31 ?_
          case hy31 => (intro W hW; clear hW; go_simp; try rfl)
          simp only [Act.put, List.setIfInBounds_toArray, List.set_cons_zero, List.set_cons_succ]
          refine takeInH 1 17 ?v32 rfl rfl (by kernel_rfl) (by kernel_rfl) (by kernel_rfl) (fun _ _ _ h => h) (by kernel_rfl) hS0 ?hy32 ?_
          case hy32 => (intro W hW; clear hW; go_simp; try rfl)
          simp only [Act.put, List.setIfInBounds_toArray, List.set_cons_zero, List.set_cons_succ]
          refine takeInH 2 18 ?v33 rfl rfl (by kernel_rfl) (by kernel_rfl) (by kernel_rfl) (fun _ _ _ h => h) (by kernel_rfl) hS0 ?hy33 ?_
          case hy33 => (intro W hW; clear hW; go_simp; try rfl)
          simp only [Act.put, List.setIfInBounds_toArray, List.set_cons_zero, List.set_cons_succ]
          refine takeInH 3 19 ?v34 rfl rfl (by kernel_rfl) (by kernel_rfl) (by kernel_rfl) (fun _ _ _ h => h) (by kernel_rfl) hS0 ?hy34 ?_
          case hy34 => (intro W hW; have e0 := bcell hW c0; have e1 := bcell hW c1; have e2 := bcell hW c2; have e3 := bcell hW c3; clear hW; go_simp; try rfl)
          simp only [Act.put, List.setIfInBounds_toArray, List.set_cons_zero, List.set_cons_succ]
          refine takeInH 4 20 ?v35 rfl rfl (by kernel_rfl) (by kernel_rfl) (by kernel_rfl) (fun _ _ _ h => h) (by kernel_rfl) hS0 ?hy35 ?_
          case hy35 => (intro W hW; clear hW; go_simp; try rfl)
          simp only [Act.put, List.setIfInBounds_toArray, List.set_cons_zero, List.set_cons_succ]
          refine takeInH 5 21 ?v36 rfl rfl (by kernel_rfl) (by kernel_rfl) (by kernel_rfl) (fun _ _ _ h => h) (by kernel_rfl) hS0 ?hy36 ?_
          case hy36 => (intro W hW; clear hW; go_simp; try rfl)
          simp only [Act.put, List.setIfInBounds_toArray, List.set_cons_zero, List.set_cons_succ]
          refine takeInH 6 22 ?v37 rfl rfl (by kernel_rfl) (by kernel_rfl) (by kernel_rfl) (fun _ _ _ h => h) (by kernel_rfl) hS0 ?hy37 ?_
          case hy37 => (intro W hW; clear hW; go_simp; try rfl)
          simp only [Act.put, List.setIfInBounds_toArray, List.set_cons_zero, List.set_cons_succ]
          refine takeInH 7 23 ?v38 rfl rfl (by kernel_rfl) (by kernel_rfl) (by kernel_rfl) (fun _ _ _ h => h) (by kernel_rfl) hS0 ?hy38 ?_
          case hy38 => (intro W hW; clear hW; go_simp; try rfl)
          simp only [Act.put, List.setIfInBounds_toArray, List.set_cons_zero, List.set_cons_succ]
          refine takeInH 8 24 ?v39 rfl rfl (by kernel_rfl) (by kernel_rfl) (by kernel_rfl) (fun _ _ _ h => h) (by kernel_rfl) hS0 ?hy39 ?_
          case hy39 => (intro W hW; have e0 := bcell hW c0; have e1 := bcell hW c1; have e2 := bcell hW c2; have e3 := bcell hW c3; clear hW; go_simp; try rfl)
          simp only [Act.put, List.setIfInBounds_toArray, List.set_cons_zero, List.set_cons_succ]
          refine takeInH 9 25 ?v40 rfl rfl (by kernel_rfl) (by kernel_rfl) (by kernel_rfl) (fun _ _ _ h => h) (by kernel_rfl) hS0 ?hy40 ?_
          case hy40 => (intro W hW; clear hW; go_simp; try rfl)
          simp only [Act.put, List.setIfInBounds_toArray, List.set_cons_zero, List.set_cons_succ]
          refine wpAnyH_done (by kernel_rfl) ?_ _
          have HH1 := hide HH.out.drew
          have HB1 := hide HB.out.drew
          go_wp2
          go_roundw
          case rel => exact ⟨j + 1 + 1, by omega, by omega, by go_num, HH1, HB1, HK2⟩
          case measure => simp [intOf]; omega
      · have hkl : k = n := by omega
        subst hkl
        have HE := hide (HA.out _ HH.out HK.out)
        go_wp2
        go_ret
        exact ⟨by rw [← HE.out.1]; rfl, HE.out.2, HB.out⟩

set_option maxHeartbeats 400000 in
set_option maxRecDepth 100000 in
theorem compact_none (w : World) : Calls Try.prog 77 #[.slice none 0 0] w fun e w' => e = .returned (.slice none 0 0) ∧ w' = w := by
  go_enter Try.func77, Try.ntmps77
  go_wp2
  go_ret
  exact ⟨rfl, rfl⟩
theorem sort_none (w : World) : Calls Try.prog 75 #[.slice none 0 0, .func (.func 76) #[] #[]] w fun e w' => e = .returned (.tuple #[]) ∧ w' = w := by
  have h := AnyF.slices_SortFunc_none sortD none 0 (.func (.func 76) #[] #[]) w
  change Calls Try.prog 75 _ _ _ at h
  exact h
set_option maxHeartbeats 400000 in
/-- The program's 'Order'. -/
theorem Order_dots (a : Option Addr) (n cap : Nat) (l : List Dot) (w : World) (hD : DS w a n l) (hn : n ≤ 1000000) :
    Calls Try.prog 51 #[.slice a n cap] w fun e w' => ∃ p c, e = .returned (.slice p (ordD l).length c) ∧ DS w' p (ordD l).length (ordD l) ∧ CP p (ordD l).length c ∧ Below w.heap.size w w' := by
  have hlen := hD.1
  subst hlen
  have HC := hide (cloneD_any a l.length cap l w hD hn)
  clear hD
  go_enter Try.func51, Try.ntmps51
  go_wp2_with (go_at_call 74; refine Stop.at ?_)
  unfold Stop
  refine HC.out.mono ?_
  rintro e w1 ⟨v, rfl, hO, hB⟩
  rcases hO.row with ⟨rfl, rfl⟩ | ⟨g, c, rfl, hN, hg, hlc, hcm, hH⟩
  · have HB := hide hB
    clear hB hO HC
    go_wp2_with (first
      | (go_at_call 75; refine (sort_none _).mono ?_; rintro e w' ⟨rfl, hw⟩; replace hw := hw.symm; subst hw)
      | (go_at_call 77; refine (compact_none _).mono ?_; rintro e w' ⟨rfl, hw⟩; replace hw := hw.symm; subst hw))
    go_ret
    exact ⟨none, 0, rfl, DS.nil _ _, ⟨Nat.le_refl _, by decide, fun _ => rfl⟩, HB.out⟩
  · have HB := hide hB
    have HSo := hide (sort_any w.heap.size g c l w1 hN hg hH (by omega))
    clear hB hO HC hH
    go_wp2_with (go_at_call 75; refine Stop.at ?_)
    unfold Stop
    refine HSo.out.mono ?_
    rintro e w2 ⟨rfl, hB2, hg2, d, hd, hH2, hc⟩
    have HB2 := hide (HB.out.trans hB2)
    have HCo := hide (compact_any w.heap.size g c l.length d w2 hd hlc hcm hN hH2 (by omega))
    rw [hc] at HCo
    clear hB2 hH2 hc HB HSo
    go_wp2_with (go_at_call 77; refine Stop.at ?_)
    unfold Stop
    refine HCo.out.mono ?_
    rintro e w3 ⟨rfl, hDS, hB3⟩
    have HB3 := hide (HB2.out.trans hB3)
    have HDS := hide hDS
    have hl3 := ordD_len l
    clear hB3 hDS HCo
    go_wp2
    go_ret
    exact ⟨_, c, rfl, HDS.out, CP.some (by omega) hcm, HB3.out⟩
end Go.Proofs.Ytohhlidlgibieaa

/- What 'Closed' does. -/
namespace Go.Proofs.Ytohhlidlgibieaa
open Go.RowKit
set_option linter.unusedVariables false

/-- How many events a replica has. -/
def cnt (l : List Evt) (r : Int) : Int := (l.countP fun e => decide (e.1.1 = r) : Nat)
def cnts (l : List Evt) : List Int := [cnt l 1, cnt l 2, cnt l 3, cnt l 4, cnt l 5]
def okC (l : List Evt) (e : Evt) : Bool := decide (e.1.2 ≤ cnt l e.1.1) && decide (wth e.2.1 (cnts l))
def closedB (l : List Evt) : Bool := l.all mayE && decide ((ordD (l.map (·.1))).length = l.length) && l.all (okC l)
theorem cnt_bd (l : List Evt) (r : Int) : 0 ≤ cnt l r ∧ cnt l r ≤ l.length := by
  unfold cnt
  have := List.countP_le_length (p := fun e : Evt => decide (e.1.1 = r)) (l := l)
  omega
theorem cnt_snoc (l : List Evt) (e : Evt) (r : Int) : cnt (l ++ [e]) r = cnt l r + if e.1.1 = r then 1 else 0 := by
  unfold cnt
  rw [List.countP_append]
  by_cases h : e.1.1 = r
  · simp [h]
  · simp [h]
theorem cnts_len (l : List Evt) : (cnts l).length = 5 := rfl
theorem cnts_getD (l : List Evt) (j : Nat) (hj : j < 5) : (cnts l).getD j 0 = cnt l ((j : Int) + 1) := by
  have h : j = 0 ∨ j = 1 ∨ j = 2 ∨ j = 3 ∨ j = 4 := by omega
  rcases h with rfl | rfl | rfl | rfl | rfl <;> rfl
theorem cnts_snoc (l : List Evt) (e : Evt) (j : Nat) (hj : j < 5) (he : e.1.1 = (j : Int) + 1) : cnts (l ++ [e]) = (cnts l).set j (cnt l ((j : Int) + 1) + 1) := by
  unfold cnts
  simp only [cnt_snoc, he]
  have h : j = 0 ∨ j = 1 ∨ j = 2 ∨ j = 3 ∨ j = 4 := by omega
  rcases h with rfl | rfl | rfl | rfl | rfl <;> simp
/-- The counts' cells. -/
def cellsC (l : List Int) : Array Value := (l.map (Value.int .i64)).toArray
theorem cellsC_get (l : List Int) (j : Nat) (hj : j < l.length) : (cellsC l)[j]? = some (.int .i64 (l.getD j 0)) := by
  simp [cellsC, List.getD_eq_getElem?_getD, hj]
theorem cellsC_set (l : List Int) (j : Nat) (x : Int) : (cellsC l).setIfInBounds j (.int .i64 x) = cellsC (l.set j x) := by
  simp [cellsC, List.map_set]
theorem BX.nums {w : World} {g : Nat} {l : List Int} {t : TypeId} (h : BX w g (cellsC l) t) (hl : l.length = 5) : NS w (some ⟨g, 0, none⟩) 5 l := by
  refine ⟨hl, by decide, .inr ⟨g, 0, rfl, fun i hi => ?_⟩⟩
  rw [Nat.zero_add]
  exact h.cell i _ (cellsC_get l i (by omega))
theorem allE_drop {l : List Evt} {k : Nat} {x : Evt} {p : Evt → Bool} (h : l[k]? = some x) : (l.drop k).all p = (p x && (l.drop (k + 1)).all p) := by
  obtain ⟨h1, h2⟩ := List.getElem?_eq_some_iff.1 h
  rw [List.drop_eq_getElem_cons h1, h2, List.all_cons]
theorem take_snocE {l : List Evt} {k : Nat} {x : Evt} (h : l[k]? = some x) : l.take (k + 1) = l.take k ++ [x] := by rw [List.take_add_one, h]; rfl
theorem encD_len (d : Dot) : (encD d).length = 2 := rfl
theorem wrap_j {j : Nat} (h : j < 5) : IntKind.i64.wrap (j : Int) = j := by
  unfold IntKind.wrap
  simp [IntKind.bits, IntKind.signed]
  omega
theorem OwnD.rows {N : Nat} {w : World} {v : Value} {l : List Dot} : OwnD N w v l ↔ OwnR encD 2 23 N w v l := Iff.rfl

set_option maxHeartbeats 8000000 in
theorem Closed_any (a : Option Addr) (n cap : Nat) (l : List Evt) (w : World) (hE : EVS w a n l) (hn : n ≤ 1000) :
    Calls Try.prog 24 #[.slice a n cap] w fun e w' => e = .returned (.bool (closedB l)) ∧ Below w.heap.size w w' := by
  have hlen := hide hE.len
  have HV := hide hE
  clear hE
  have HX := hide (BX.new w _ rfl #[.int .i64 0, .int .i64 0, .int .i64 0, .int .i64 0, .int .i64 0] 77)
  have HB := hide (bel1 w (.cells #[.int .i64 0, .int .i64 0, .int .i64 0, .int .i64 0, .int .i64 0] 77))
  go_enter Try.func24, Try.ntmps24
  go_wp2
  go_loopw [3, 11] (fun v i wr => ∃ (k : Nat), k ≤ n ∧ i = .int .i64 k ∧ Hid (OwnD w.heap.size wr v ((l.take k).map (·.1))) ∧ Hid (BX wr w.heap.size (cellsC (cnts (l.take k))) 77) ∧ Hid (l.all mayE = (l.drop k).all mayE) ∧ Hid (∀ x ∈ l.take k, mayE x = true) ∧ Hid (Below w.heap.size w wr)) (fun _ i _ => n - (intOf i).toNat)
  case atStart => exact ⟨0, by omega, rfl, OwnD.nil _ _, HX, rfl, (fun x hx => by simp at hx), HB⟩
  case round =>
    obtain ⟨k, hk, rfl, hO, hX, hA, hF, hB⟩ := hrel
    by_cases hlt : k < n
    · obtain ⟨pv, cv, hv, hds, hcv⟩ := hO.out.open
      have hlk : ((l.take k).map (·.1)).length = k := by rw [List.length_map, List.length_take, hlen.out]; omega
      rw [hlk] at hv
      have hlk2 := hide hlk
      clear hlk
      subst hv
      obtain ⟨b, off, rfl⟩ := HV.out.addr (by omega)
      obtain ⟨r, s, pa, na, ca, pe, ne, ce, c, fs, hx, x0, x1, x2, x3, hns, hca, hes, hce⟩ := HV.out.at k hlt
      replace x0 := bcell hB.out x0
      replace x1 := bcell hB.out x1
      replace x2 := bcell hB.out x2
      replace x3 := bcell hB.out x3
      have HK := hide (CheckE_any r s pa na ca pe ne ce c fs (wr.alloc (bxE r s pa na ca pe ne ce)) ((hns.below hB.out).alloc _) ((hes.below hB.out).alloc _))
      have hd := allE_drop (p := mayE) hx
      have HT := hide (take_snocE hx)
      have c0 : (wr.alloc (bxE r s pa na ca pe ne ce)).cell? ⟨wr.heap.size, 0, none⟩ = some (.int .i64 r) := cell_new wr _ _ _ rfl 0 _ rfl
      have c1 : (wr.alloc (bxE r s pa na ca pe ne ce)).cell? ⟨wr.heap.size, 1, none⟩ = some (.int .i64 s) := cell_new wr _ _ _ rfl 1 _ rfl
      have HY := hide (BX.new wr _ rfl #[.int .i64 r, .int .i64 s, .slice pa na ca, .slice pe ne ce] 28)
      have hsz := hB.out.size
      have hgx := hX.out.size
      clear hns hca hes hce hx
      rcases hm : mayE ((r, s), c, fs) with _ | _
      · rw [hm] at HK hd
        have q1 : errB false = 1 := rfl
        rw [q1] at HK
        have HE : Hid (false = closedB l) := by unfold Hid closedB; rw [hA.out, hd]; rfl
        clear hd hm q1 hds
        go_wp2_with (go_at_call 15; refine HK.out.mono ?_; rintro e w2 ⟨rfl, hb⟩)
        go_ret
        exact ⟨retB HE.out, bel_next (bel_next hB.out (bel1 wr _)) hb⟩
      · rw [hm] at HK hd
        have q1 : errB true = 0 := rfl
        rw [q1] at HK
        have hmd := mayD_iff.1 (headB_iff.1 (mayE_iff.1 hm).1).1
        simp only [] at hmd
        obtain ⟨j, hj⟩ : ∃ j : Nat, r = (j : Int) + 1 := ⟨(r - 1).toNat, by omega⟩
        have hj5 : j < 5 := by omega
        have HM := hide hm
        clear hm q1 hmd hds
        subst hj
        have HA2 : Hid (l.all mayE = (l.drop (k + 1)).all mayE) := by unfold Hid; rw [hA.out, hd]; rfl
        clear hd
        go_wp2_with (first
          | (go_at_call 15; refine HK.out.mono ?_; rintro e w2 ⟨rfl, hb⟩; replace c0 := bcell hb c0; replace c1 := bcell hb c1; have HY2 := hide (HY.out.below hb); have HX2 := hide ((hX.out.alloc (bxE ((j : Int) + 1) s pa na ca pe ne ce)).below hb); have HO2 := hide ((hO.out.alloc (bxE ((j : Int) + 1) s pa na ca pe ne ce)).below hb); have HB2 := hide (bel_next (bel_next hB.out (bel1 wr (bxE ((j : Int) + 1) s pa na ca pe ne ce))) hb); have hsz2 := HB2.out.size; clear hb)
          | (at_builtin; refine Stop.at ?_))
        unfold Stop
        have hoff := (OwnD.rows.1 HO2.out).off HX2.out (by decide)
        have hoffy := (OwnD.rows.1 HO2.out).off HY2.out (by decide)
        refine append_rows (enc := encD) (k := 2) rfl _ _ 76 rfl Try.underlying76 Try.infoDot rfl (by decide) (by decide) (fun _ => rfl) (fun d v hv => by simp only [encD, List.mem_cons, List.not_mem_nil, or_false] at hv; rcases hv with rfl | rfl <;> rfl) w.heap.size (.slice pv k cv) ((l.take k).map (·.1)) [((j : Int) + 1, s)] rfl (HO2.out.alloc _) _ 1 1 rfl (fun h => by cases h) (RS.new (enc := encD) (k := 2) (fun _ => rfl) w2 _ rfl [((j : Int) + 1, s)] _ rfl _ _ 1 rfl (by decide)) (by rw [hlk2.out]; simp; omega) (by simp; omega) ?_
        intro v' w5 q1 q2 q3
        have HX5 := hide ((HX2.out.alloc _).grown q2 hoff)
        have hoff5 := q1.off HX5.out (by decide)
        have HY5 := hide ((HY2.out.alloc _).grown q2 hoffy)
        obtain ⟨p5, c5, hv5, _, _⟩ := q1.open encD_len
        rw [List.length_append, hlk2.out, List.length_singleton] at hv5
        subst hv5
        have HB5 := hide (q3 w (HB2.out.alloc hsz2 _))
        obtain ⟨z, hz⟩ : ∃ z, cnt (l.take k) ((j : Int) + 1) = z := ⟨_, rfl⟩
        have hzb := cnt_bd (l.take k) ((j : Int) + 1)
        rw [hz, List.length_take] at hzb
        have hz0 : 0 ≤ z := hzb.1
        have hz1 : z ≤ 1000 := by omega
        have c4 := HX5.out.cell j (.int .i64 z) (by rw [cellsC_get _ j (by rw [cnts_len]; exact hj5), cnts_getD _ j hj5, hz])
        have z4 := HX5.out.free j
        have HO6 : Hid (OwnD w.heap.size (w5.setCell ⟨w.heap.size, j, none⟩ (.int .i64 (z + 1))) (.slice p5 (k + 1) c5) ((l.take (k + 1)).map (·.1))) := by
          unfold Hid
          rw [HT.out, List.map_append]
          exact q1.set hoff5 j (.int .i64 (z + 1))
        have HX6 : Hid (BX (w5.setCell ⟨w.heap.size, j, none⟩ (.int .i64 (z + 1))) w.heap.size (cellsC (cnts (l.take (k + 1)))) 77) := by
          unfold Hid
          rw [HT.out, cnts_snoc _ _ j hj5 rfl, hz, ← cellsC_set]
          exact HX5.out.set j (.int .i64 (z + 1))
        have HB6 := hide (bel_set HB5.out (Nat.le_refl _) j (.int .i64 (z + 1)))
        have HF6 : Hid (∀ x ∈ l.take (k + 1), mayE x = true) := by
          unfold Hid
          rw [HT.out]
          intro x hx
          rcases List.mem_append.1 hx with h | h
          · exact hF.out x h
          · rw [List.mem_singleton.1 h]; exact HM.out
        have y0 := HY5.out.cell 0 _ rfl
        clear q1 q2 q3 hoff hoff5 hoffy c0 c1 hzb hz HX5 HY5 HB5 HY2 HX2 HO2
        go_wp2
        go_roundw
        case rel => exact ⟨k + 1, by omega, by go_num, HO6, HX6, HA2, HF6, HB6⟩
        case measure => simp [intOf]; omega
    · have hkl : k = n := by omega
      subst hkl
      have htk : l.take k = l := List.take_of_length_le (by rw [hlen.out]; exact Nat.le_refl _)
      rw [htk] at hO hX hF
      have hall : l.all mayE = true := List.all_eq_true.2 hF.out
      have HALL := hide hall
      clear hall hA
      obtain ⟨pv, cv, hv, hds, hcv⟩ := hO.out.open
      have hlk : (l.map (·.1)).length = k := by rw [List.length_map, hlen.out]
      rw [hlk] at hv hds hcv
      have HOR := hide (Order_dots pv k cv (l.map (·.1)) wr hds (by omega))
      have hol := ordD_len (l.map (·.1))
      rw [hlk] at hol
      subst hv
      obtain ⟨ol, hol2⟩ : ∃ ol, (ordD (l.map (·.1))).length = ol := ⟨_, rfl⟩
      rw [hol2] at HOR hol
      clear hds hcv hlk hO
      have hXn := hX.out.nums (cnts_len l)
      by_cases heq : ol = k
      · have hEQ : Hid (closedB l = l.all (okC l)) := by
          unfold Hid closedB
          rw [HALL.out, hol2, hlen.out]
          simp [heq]
        have he1 : ((ol : Int) == (k : Int)) = true := by simp; omega
        have he2 : (ol : Int) = (k : Int) := by omega
        have he3 : ((ol : Int) != (k : Int)) = false := by simp; omega
        clear hol2 heq
        go_wp2_with (go_at_call 51; refine Stop.at ?_)
        unfold Stop
        refine HOR.out.mono ?_
        rintro e u ⟨p6, c6, rfl, _, _, hb⟩
        have HXu := hide (hX.out.below hb)
        have HBu := hide (bel_next hB.out hb)
        have NXu := hide (hXn.below hb)
        clear hb HOR hX hXn hB
        go_wp2
        go_loopw [40] (fun i wr => ∃ q : Nat, q ≤ k ∧ i = .int .i64 q ∧ Hid (Below u.heap.size u wr) ∧ Hid (closedB l = (l.drop q).all (okC l))) (fun i _ => k - (intOf i).toNat)
        case atStart => exact ⟨0, by omega, rfl, Below.refl _ _, hEQ⟩
        case round =>
          obtain ⟨q, hq, rfl, hB, hA⟩ := hrel
          by_cases hlt : q < k
          · obtain ⟨b, off, rfl⟩ := HV.out.addr (by omega)
            obtain ⟨r, s, pa, na, ca, pe, ne, ce, c, fs, hx, x0, x1, x2, x3, hns, hca, hes, hce⟩ := HV.out.at q hlt
            have HD : Hid (closedB l = (okC l ((r, s), c, fs) && (l.drop (q + 1)).all (okC l))) := by unfold Hid; rw [hA.out, allE_drop hx]
            have hm := hF.out _ (List.mem_of_getElem? hx)
            have hmd := mayD_iff.1 (headB_iff.1 (mayE_iff.1 hm).1).1
            simp only [] at hmd
            obtain ⟨j, hj⟩ : ∃ j : Nat, r = (j : Int) + 1 := ⟨(r - 1).toNat, by omega⟩
            have hj5 : j < 5 := by omega
            subst hj
            replace x0 := bcell hB.out (bcell HBu.out x0)
            replace x1 := bcell hB.out (bcell HBu.out x1)
            replace x2 := bcell hB.out (bcell HBu.out x2)
            replace x3 := bcell hB.out (bcell HBu.out x3)
            obtain ⟨z, hz⟩ : ∃ z, cnt l ((j : Int) + 1) = z := ⟨_, rfl⟩
            have y0 : (wr.alloc (bxE ((j : Int) + 1) s pa na ca pe ne ce)).cell? ⟨wr.heap.size, 0, none⟩ = some (.int .i64 ((j : Int) + 1)) := cell_new wr _ _ _ rfl 0 _ rfl
            have y1 : (wr.alloc (bxE ((j : Int) + 1) s pa na ca pe ne ce)).cell? ⟨wr.heap.size, 1, none⟩ = some (.int .i64 s) := cell_new wr _ _ _ rfl 1 _ rfl
            have y2 : (wr.alloc (bxE ((j : Int) + 1) s pa na ca pe ne ce)).cell? ⟨wr.heap.size, 2, none⟩ = some (.slice pa na ca) := cell_new wr _ _ _ rfl 2 _ rfl
            have y4 : (wr.alloc (bxE ((j : Int) + 1) s pa na ca pe ne ce)).cell? ⟨w.heap.size, j, none⟩ = some (.int .i64 z) := cell_old _ (bcell hB.out (HXu.out.cell j (.int .i64 z) (by rw [cellsC_get _ j (by rw [cnts_len]; exact hj5), cnts_getD _ j hj5, hz])))
            have HW := hide (fun W (h1 : NS W pa na c) (h2 : NS W (some ⟨w.heap.size, 0, none⟩) 5 (cnts l)) => Within_any pa (some ⟨w.heap.size, 0, none⟩) na ca 5 5 c (cnts l) W h1 h2 (decide (wth c (cnts l))) rfl)
            have NP := hide (((hns.below HBu.out).below hB.out).alloc (bxE ((j : Int) + 1) s pa na ca pe ne ce))
            have NC := hide ((NXu.out.below hB.out).alloc (bxE ((j : Int) + 1) s pa na ca pe ne ce))
            have HB2 := hide (bel_next hB.out (bel1 wr (bxE ((j : Int) + 1) s pa na ca pe ne ce)))
            have hwj : IntKind.i64.wrap (j : Int) = j := wrap_j hj5
            have hj6 : (0 : Int) ≤ (j : Int) ∧ (j : Int) < 5 := by omega
            have hs1 : s ≤ 1048576 := by omega
            have hs0 : 1 ≤ s := by omega
            clear hns hca hes hce hx hm hmd hA hB
            by_cases hsz : s ≤ z
            · have hdz : decide (s > z) = false := by rw [decide_eq_false_iff_not]; omega
              have hdy : decide (z < s) = false := by rw [decide_eq_false_iff_not]; omega
              rcases hw : decide (wth c (cnts l)) with _ | _
              · rw [hw] at HW
                have HE : Hid (false = closedB l) := by unfold Hid; rw [HD.out]; unfold okC; simp only [hw]; simp
                clear hw hz HD
                go_wp2
                generalize hu2 : wr.alloc (bxE ((j : Int) + 1) s pa na ca pe ne ce) = u2 at *
                clear hu2
                refine wp_region_held_drew (S := fun W => Below u2.heap.size u2 W) (by kernel_rfl) ((Below.refl _ u2).drew) (fun hS0 => ?_)
                refine takeInH 0 44 ?v1 rfl rfl (by kernel_rfl) (by kernel_rfl) (by kernel_rfl) (fun _ _ _ h => h) (by kernel_rfl) hS0 ?hy1 ?_
                case hy1 => (intro W hW; clear hW; go_simp; try rfl)
                simp only [Act.put, List.setIfInBounds_toArray, List.set_cons_zero, List.set_cons_succ]
                refine takeInH 1 45 ?v2 rfl rfl (by kernel_rfl) (by kernel_rfl) (by kernel_rfl) (fun _ _ _ h => h) (by kernel_rfl) hS0 ?hy2 ?_
                case hy2 => (intro W hW; clear hW; go_simp; try rfl)
                simp only [Act.put, List.setIfInBounds_toArray, List.set_cons_zero, List.set_cons_succ]
                refine takeInH 2 46 ?v3 rfl rfl (by kernel_rfl) (by kernel_rfl) (by kernel_rfl) (fun _ _ _ h => h) (by kernel_rfl) hS0 ?hy3 ?_
                case hy3 => (intro W hW; have e0 := bcell hW y0; have e1 := bcell hW y1; have e2 := bcell hW y2; have e3 := bcell hW y4; clear hW; go_simp; try rfl)
                simp only [Act.put, List.setIfInBounds_toArray, List.set_cons_zero, List.set_cons_succ]
                refine takeInH 3 47 ?v4 rfl rfl (by kernel_rfl) (by kernel_rfl) (by kernel_rfl) (fun _ _ _ h => h) (by kernel_rfl) hS0 ?hy4 ?_
                case hy4 => (intro W hW; clear hW; go_simp; try rfl)
                simp only [Act.put, List.setIfInBounds_toArray, List.set_cons_zero, List.set_cons_succ]
                refine takeInH 4 48 ?v5 rfl rfl (by kernel_rfl) (by kernel_rfl) (by kernel_rfl) (fun _ _ _ h => h) (by kernel_rfl) hS0 ?hy5 ?_
                case hy5 => (intro W hW; clear hW; go_simp; try rfl)
                simp only [Act.put, List.setIfInBounds_toArray, List.set_cons_zero, List.set_cons_succ]
                refine takeInH 5 49 ?v6 rfl rfl (by kernel_rfl) (by kernel_rfl) (by kernel_rfl) (fun _ _ _ h => h) (by kernel_rfl) hS0 ?hy6 ?_
                case hy6 => (intro W hW; have e0 := bcell hW y0; have e1 := bcell hW y1; have e2 := bcell hW y2; have e3 := bcell hW y4; clear hW; go_simp; try rfl)
                simp only [Act.put, List.setIfInBounds_toArray, List.set_cons_zero, List.set_cons_succ]
                refine takeInH 6 50 ?v7 rfl rfl (by kernel_rfl) (by kernel_rfl) (by kernel_rfl) (fun _ _ _ h => h) (by kernel_rfl) hS0 ?hy7 ?_
                case hy7 => (intro W hW; clear hW; go_simp; try rfl)
                simp only [Act.put, List.setIfInBounds_toArray, List.set_cons_zero, List.set_cons_succ]
                refine takeInH 7 51 ?v8 rfl rfl (by kernel_rfl) (by kernel_rfl) (by kernel_rfl) (fun _ _ _ h => h) (by kernel_rfl) hS0 ?hy8 ?_
                case hy8 => (intro W hW; clear hW; go_simp; try rfl)
                simp only [Act.put, List.setIfInBounds_toArray, List.set_cons_zero, List.set_cons_succ]
                refine takeInH 8 52 ?v9 rfl rfl (by kernel_rfl) (by kernel_rfl) (by kernel_rfl) (fun _ _ _ h => h) (by kernel_rfl) hS0 ?hy9 ?_
                case hy9 => (intro W hW; have e0 := bcell hW y0; have e1 := bcell hW y1; have e2 := bcell hW y2; have e3 := bcell hW y4; clear hW; go_simp; try rfl)
                simp only [Act.put, List.setIfInBounds_toArray, List.set_cons_zero, List.set_cons_succ]
                refine takeInH 9 53 ?v10 rfl rfl (by kernel_rfl) (by kernel_rfl) (by kernel_rfl) (fun _ _ _ h => h) (by kernel_rfl) hS0 ?hy10 ?_
                case hy10 => (intro W hW; clear hW; go_simp; try rfl)
                simp only [Act.put, List.setIfInBounds_toArray, List.set_cons_zero, List.set_cons_succ]
                refine takeInH 10 54 ?v11 rfl rfl (by kernel_rfl) (by kernel_rfl) (by kernel_rfl) (fun _ _ _ h => h) (by kernel_rfl) hS0 ?hy11 ?_
                case hy11 => (intro W hW; clear hW; go_simp; try rfl)
                simp only [Act.put, List.setIfInBounds_toArray, List.set_cons_zero, List.set_cons_succ]
                refine takeInH 11 55 ?v12 rfl rfl (by kernel_rfl) (by kernel_rfl) (by kernel_rfl) (fun _ _ _ h => h) (by kernel_rfl) hS0 ?hy12 ?_
                case hy12 => (intro W hW; clear hW; go_simp; try rfl)
                simp only [Act.put, List.setIfInBounds_toArray, List.set_cons_zero, List.set_cons_succ]
                refine takeInH 12 56 ?v13 rfl rfl (by kernel_rfl) (by kernel_rfl) (by kernel_rfl) (fun _ _ _ h => h) (by kernel_rfl) hS0 ?hy13 ?_
                case hy13 => (intro W hW; have e0 := bcell hW y0; have e1 := bcell hW y1; have e2 := bcell hW y2; have e3 := bcell hW y4; clear hW; go_simp; try rfl)
                simp only [Act.put, List.setIfInBounds_toArray, List.set_cons_zero, List.set_cons_succ]
                refine takeInH 13 57 ?v14 rfl rfl (by kernel_rfl) (by kernel_rfl) (by kernel_rfl) (fun _ _ _ h => h) (by kernel_rfl) hS0 ?hy14 ?_
                case hy14 => (intro W hW; clear hW; go_simp; try rfl)
                simp only [Act.put, List.setIfInBounds_toArray, List.set_cons_zero, List.set_cons_succ]
                refine wpAnyH_ready (rs := [14]) (by kernel_rfl) (by simp) ?_
                refine AllReadyH.cons rfl (fun K hK => ?_) AllReadyH.nil
                go_simp
                refine (HW.out _ (NP.out.below hS0) (NC.out.below hS0)).mono ?_
                rintro e w9 ⟨rfl, hb⟩
                try go_wp2_with fail
                refine hK.out _ _ ?hs15 (fun hS1 => ?_)
                case hs15 => exact bel_next hS0 hb
                clear hK K
                try simp only [Act.put, List.setIfInBounds_toArray, List.set_cons_zero, List.set_cons_succ]
                refine takeInH 15 59 ?v16 rfl rfl (by kernel_rfl) (by kernel_rfl) (by kernel_rfl) (fun _ _ _ h => h) (by kernel_rfl) hS1 ?hy16 ?_
                case hy16 => (intro W hW; clear hW; go_simp; try rfl)
                simp only [Act.put, List.setIfInBounds_toArray, List.set_cons_zero, List.set_cons_succ]
                refine takeInH 16 60 ?v17 rfl rfl (by kernel_rfl) (by kernel_rfl) (by kernel_rfl) (fun _ _ _ h => h) (by kernel_rfl) hS1 ?hy17 ?_
                case hy17 => (intro W hW; clear hW; go_simp; try rfl)
                simp only [Act.put, List.setIfInBounds_toArray, List.set_cons_zero, List.set_cons_succ]
                refine wpAnyH_done (by kernel_rfl) ?_ _
                go_wp2
                go_ret
                exact ⟨retB HE.out, bel_next HBu.out (bel_next HB2.out hS1)⟩
              · rw [hw] at HW
                have HE : Hid (closedB l = (l.drop (q + 1)).all (okC l)) := by unfold Hid; rw [HD.out]; unfold okC; simp only [hw, hz]; simp [hsz]
                clear hw hz HD
                go_wp2
                generalize hu2 : wr.alloc (bxE ((j : Int) + 1) s pa na ca pe ne ce) = u2 at *
                clear hu2
                refine wp_region_held_drew (S := fun W => Below u2.heap.size u2 W) (by kernel_rfl) ((Below.refl _ u2).drew) (fun hS0 => ?_)
                refine takeInH 0 44 ?v18 rfl rfl (by kernel_rfl) (by kernel_rfl) (by kernel_rfl) (fun _ _ _ h => h) (by kernel_rfl) hS0 ?hy18 ?_
                case hy18 => (intro W hW; clear hW; go_simp; try rfl)
                simp only [Act.put, List.setIfInBounds_toArray, List.set_cons_zero, List.set_cons_succ]
                refine takeInH 1 45 ?v19 rfl rfl (by kernel_rfl) (by kernel_rfl) (by kernel_rfl) (fun _ _ _ h => h) (by kernel_rfl) hS0 ?hy19 ?_
                case hy19 => (intro W hW; clear hW; go_simp; try rfl)
                simp only [Act.put, List.setIfInBounds_toArray, List.set_cons_zero, List.set_cons_succ]
                refine takeInH 2 46 ?v20 rfl rfl (by kernel_rfl) (by kernel_rfl) (by kernel_rfl) (fun _ _ _ h => h) (by kernel_rfl) hS0 ?hy20 ?_
                case hy20 => (intro W hW; have e0 := bcell hW y0; have e1 := bcell hW y1; have e2 := bcell hW y2; have e3 := bcell hW y4; clear hW; go_simp; try rfl)
                simp only [Act.put, List.setIfInBounds_toArray, List.set_cons_zero, List.set_cons_succ]
                refine takeInH 3 47 ?v21 rfl rfl (by kernel_rfl) (by kernel_rfl) (by kernel_rfl) (fun _ _ _ h => h) (by kernel_rfl) hS0 ?hy21 ?_
                case hy21 => (intro W hW; clear hW; go_simp; try rfl)
                simp only [Act.put, List.setIfInBounds_toArray, List.set_cons_zero, List.set_cons_succ]
                refine takeInH 4 48 ?v22 rfl rfl (by kernel_rfl) (by kernel_rfl) (by kernel_rfl) (fun _ _ _ h => h) (by kernel_rfl) hS0 ?hy22 ?_
                case hy22 => (intro W hW; clear hW; go_simp; try rfl)
                simp only [Act.put, List.setIfInBounds_toArray, List.set_cons_zero, List.set_cons_succ]
                refine takeInH 5 49 ?v23 rfl rfl (by kernel_rfl) (by kernel_rfl) (by kernel_rfl) (fun _ _ _ h => h) (by kernel_rfl) hS0 ?hy23 ?_
                case hy23 => (intro W hW; have e0 := bcell hW y0; have e1 := bcell hW y1; have e2 := bcell hW y2; have e3 := bcell hW y4; clear hW; go_simp; try rfl)
                simp only [Act.put, List.setIfInBounds_toArray, List.set_cons_zero, List.set_cons_succ]
                refine takeInH 6 50 ?v24 rfl rfl (by kernel_rfl) (by kernel_rfl) (by kernel_rfl) (fun _ _ _ h => h) (by kernel_rfl) hS0 ?hy24 ?_
                case hy24 => (intro W hW; clear hW; go_simp; try rfl)
                simp only [Act.put, List.setIfInBounds_toArray, List.set_cons_zero, List.set_cons_succ]
                refine takeInH 7 51 ?v25 rfl rfl (by kernel_rfl) (by kernel_rfl) (by kernel_rfl) (fun _ _ _ h => h) (by kernel_rfl) hS0 ?hy25 ?_
                case hy25 => (intro W hW; clear hW; go_simp; try rfl)
                simp only [Act.put, List.setIfInBounds_toArray, List.set_cons_zero, List.set_cons_succ]
                refine takeInH 8 52 ?v26 rfl rfl (by kernel_rfl) (by kernel_rfl) (by kernel_rfl) (fun _ _ _ h => h) (by kernel_rfl) hS0 ?hy26 ?_
                case hy26 => (intro W hW; have e0 := bcell hW y0; have e1 := bcell hW y1; have e2 := bcell hW y2; have e3 := bcell hW y4; clear hW; go_simp; try rfl)
                simp only [Act.put, List.setIfInBounds_toArray, List.set_cons_zero, List.set_cons_succ]
                refine takeInH 9 53 ?v27 rfl rfl (by kernel_rfl) (by kernel_rfl) (by kernel_rfl) (fun _ _ _ h => h) (by kernel_rfl) hS0 ?hy27 ?_
                case hy27 => (intro W hW; clear hW; go_simp; try rfl)
                simp only [Act.put, List.setIfInBounds_toArray, List.set_cons_zero, List.set_cons_succ]
                refine takeInH 10 54 ?v28 rfl rfl (by kernel_rfl) (by kernel_rfl) (by kernel_rfl) (fun _ _ _ h => h) (by kernel_rfl) hS0 ?hy28 ?_
                case hy28 => (intro W hW; clear hW; go_simp; try rfl)
                simp only [Act.put, List.setIfInBounds_toArray, List.set_cons_zero, List.set_cons_succ]
                refine takeInH 11 55 ?v29 rfl rfl (by kernel_rfl) (by kernel_rfl) (by kernel_rfl) (fun _ _ _ h => h) (by kernel_rfl) hS0 ?hy29 ?_
                case hy29 => (intro W hW; clear hW; go_simp; try rfl)
                simp only [Act.put, List.setIfInBounds_toArray, List.set_cons_zero, List.set_cons_succ]
                refine takeInH 12 56 ?v30 rfl rfl (by kernel_rfl) (by kernel_rfl) (by kernel_rfl) (fun _ _ _ h => h) (by kernel_rfl) hS0 ?hy30 ?_
                case hy30 => (intro W hW; have e0 := bcell hW y0; have e1 := bcell hW y1; have e2 := bcell hW y2; have e3 := bcell hW y4; clear hW; go_simp; try rfl)
                simp only [Act.put, List.setIfInBounds_toArray, List.set_cons_zero, List.set_cons_succ]
                refine takeInH 13 57 ?v31 rfl rfl (by kernel_rfl) (by kernel_rfl) (by kernel_rfl) (fun _ _ _ h => h) (by kernel_rfl) hS0 ?hy31 ?_
                case hy31 => (intro W hW; clear hW; go_simp; try rfl)
                simp only [Act.put, List.setIfInBounds_toArray, List.set_cons_zero, List.set_cons_succ]
                refine wpAnyH_ready (rs := [14]) (by kernel_rfl) (by simp) ?_
                refine AllReadyH.cons rfl (fun K hK => ?_) AllReadyH.nil
                go_simp
                refine (HW.out _ (NP.out.below hS0) (NC.out.below hS0)).mono ?_
                rintro e w9 ⟨rfl, hb⟩
                try go_wp2_with fail
                refine hK.out _ _ ?hs32 (fun hS1 => ?_)
                case hs32 => exact bel_next hS0 hb
                clear hK K
                try simp only [Act.put, List.setIfInBounds_toArray, List.set_cons_zero, List.set_cons_succ]
                refine takeInH 15 59 ?v33 rfl rfl (by kernel_rfl) (by kernel_rfl) (by kernel_rfl) (fun _ _ _ h => h) (by kernel_rfl) hS1 ?hy33 ?_
                case hy33 => (intro W hW; clear hW; go_simp; try rfl)
                simp only [Act.put, List.setIfInBounds_toArray, List.set_cons_zero, List.set_cons_succ]
                refine takeInH 16 60 ?v34 rfl rfl (by kernel_rfl) (by kernel_rfl) (by kernel_rfl) (fun _ _ _ h => h) (by kernel_rfl) hS1 ?hy34 ?_
                case hy34 => (intro W hW; clear hW; go_simp; try rfl)
                simp only [Act.put, List.setIfInBounds_toArray, List.set_cons_zero, List.set_cons_succ]
                refine wpAnyH_done (by kernel_rfl) ?_ _
                go_wp2
                go_roundw
                case rel => exact ⟨q + 1, by omega, by go_num, bel_next HB2.out hS1, HE⟩
                case measure => simp [intOf]; omega
            · have hdz : decide (s > z) = true := by rw [decide_eq_true_iff]; omega
              have hdy : decide (z < s) = true := by rw [decide_eq_true_iff]; omega
              have HE : Hid (false = closedB l) := by unfold Hid; rw [HD.out]; unfold okC; simp only [hz]; simp [hsz]
              clear hz HD
              go_wp2
              generalize hu2 : wr.alloc (bxE ((j : Int) + 1) s pa na ca pe ne ce) = u2 at *
              clear hu2
              refine wp_region_held_drew (S := fun W => Below u2.heap.size u2 W) (by kernel_rfl) ((Below.refl _ u2).drew) (fun hS0 => ?_)
              refine takeInH 0 44 ?v35 rfl rfl (by kernel_rfl) (by kernel_rfl) (by kernel_rfl) (fun _ _ _ h => h) (by kernel_rfl) hS0 ?hy35 ?_
              case hy35 => (intro W hW; clear hW; go_simp; try rfl)
              simp only [Act.put, List.setIfInBounds_toArray, List.set_cons_zero, List.set_cons_succ]
              refine takeInH 1 45 ?v36 rfl rfl (by kernel_rfl) (by kernel_rfl) (by kernel_rfl) (fun _ _ _ h => h) (by kernel_rfl) hS0 ?hy36 ?_
              case hy36 => (intro W hW; clear hW; go_simp; try rfl)
              simp only [Act.put, List.setIfInBounds_toArray, List.set_cons_zero, List.set_cons_succ]
              refine takeInH 2 46 ?v37 rfl rfl (by kernel_rfl) (by kernel_rfl) (by kernel_rfl) (fun _ _ _ h => h) (by kernel_rfl) hS0 ?hy37 ?_
              case hy37 => (intro W hW; have e0 := bcell hW y0; have e1 := bcell hW y1; have e2 := bcell hW y2; have e3 := bcell hW y4; clear hW; go_simp; try rfl)
              simp only [Act.put, List.setIfInBounds_toArray, List.set_cons_zero, List.set_cons_succ]
              refine takeInH 3 47 ?v38 rfl rfl (by kernel_rfl) (by kernel_rfl) (by kernel_rfl) (fun _ _ _ h => h) (by kernel_rfl) hS0 ?hy38 ?_
              case hy38 => (intro W hW; clear hW; go_simp; try rfl)
              simp only [Act.put, List.setIfInBounds_toArray, List.set_cons_zero, List.set_cons_succ]
              refine takeInH 4 48 ?v39 rfl rfl (by kernel_rfl) (by kernel_rfl) (by kernel_rfl) (fun _ _ _ h => h) (by kernel_rfl) hS0 ?hy39 ?_
              case hy39 => (intro W hW; clear hW; go_simp; try rfl)
              simp only [Act.put, List.setIfInBounds_toArray, List.set_cons_zero, List.set_cons_succ]
              refine takeInH 5 49 ?v40 rfl rfl (by kernel_rfl) (by kernel_rfl) (by kernel_rfl) (fun _ _ _ h => h) (by kernel_rfl) hS0 ?hy40 ?_
              case hy40 => (intro W hW; have e0 := bcell hW y0; have e1 := bcell hW y1; have e2 := bcell hW y2; have e3 := bcell hW y4; clear hW; go_simp; try rfl)
              simp only [Act.put, List.setIfInBounds_toArray, List.set_cons_zero, List.set_cons_succ]
              refine takeInH 6 50 ?v41 rfl rfl (by kernel_rfl) (by kernel_rfl) (by kernel_rfl) (fun _ _ _ h => h) (by kernel_rfl) hS0 ?hy41 ?_
              case hy41 => (intro W hW; clear hW; go_simp; try rfl)
              simp only [Act.put, List.setIfInBounds_toArray, List.set_cons_zero, List.set_cons_succ]
              refine takeInH 7 51 ?v42 rfl rfl (by kernel_rfl) (by kernel_rfl) (by kernel_rfl) (fun _ _ _ h => h) (by kernel_rfl) hS0 ?hy42 ?_
              case hy42 => (intro W hW; clear hW; go_simp; try rfl)
              simp only [Act.put, List.setIfInBounds_toArray, List.set_cons_zero, List.set_cons_succ]
              refine takeInH 8 52 ?v43 rfl rfl (by kernel_rfl) (by kernel_rfl) (by kernel_rfl) (fun _ _ _ h => h) (by kernel_rfl) hS0 ?hy43 ?_
              case hy43 => (intro W hW; have e0 := bcell hW y0; have e1 := bcell hW y1; have e2 := bcell hW y2; have e3 := bcell hW y4; clear hW; go_simp; try rfl)
              simp only [Act.put, List.setIfInBounds_toArray, List.set_cons_zero, List.set_cons_succ]
              refine takeInH 9 53 ?v44 rfl rfl (by kernel_rfl) (by kernel_rfl) (by kernel_rfl) (fun _ _ _ h => h) (by kernel_rfl) hS0 ?hy44 ?_
              case hy44 => (intro W hW; clear hW; go_simp; try rfl)
              simp only [Act.put, List.setIfInBounds_toArray, List.set_cons_zero, List.set_cons_succ]
              refine takeInH 10 54 ?v45 rfl rfl (by kernel_rfl) (by kernel_rfl) (by kernel_rfl) (fun _ _ _ h => h) (by kernel_rfl) hS0 ?hy45 ?_
              case hy45 => (intro W hW; clear hW; go_simp; try rfl)
              simp only [Act.put, List.setIfInBounds_toArray, List.set_cons_zero, List.set_cons_succ]
              refine takeNoH 11 55 rfl rfl (by kernel_rfl) (by kernel_rfl) (by kernel_rfl) (fun _ _ _ h => h) (by kernel_rfl) hS0 ?_
              simp only [Act.put, List.setIfInBounds_toArray, List.set_cons_zero, List.set_cons_succ]
              refine takeNoH 12 56 rfl rfl (by kernel_rfl) (by kernel_rfl) (by kernel_rfl) (fun _ _ _ h => h) (by kernel_rfl) hS0 ?_
              simp only [Act.put, List.setIfInBounds_toArray, List.set_cons_zero, List.set_cons_succ]
              refine takeNoH 13 57 rfl rfl (by kernel_rfl) (by kernel_rfl) (by kernel_rfl) (fun _ _ _ h => h) (by kernel_rfl) hS0 ?_
              simp only [Act.put, List.setIfInBounds_toArray, List.set_cons_zero, List.set_cons_succ]
              refine takeNoH 14 58 rfl rfl (by kernel_rfl) (by kernel_rfl) (by kernel_rfl) (fun _ _ _ h => h) (by kernel_rfl) hS0 ?_
              simp only [Act.put, List.setIfInBounds_toArray, List.set_cons_zero, List.set_cons_succ]
              refine takeNoH 15 59 rfl rfl (by kernel_rfl) (by kernel_rfl) (by kernel_rfl) (fun _ _ _ h => h) (by kernel_rfl) hS0 ?_
              simp only [Act.put, List.setIfInBounds_toArray, List.set_cons_zero, List.set_cons_succ]
              refine takeInH 16 60 ?v46 rfl rfl (by kernel_rfl) (by kernel_rfl) (by kernel_rfl) (fun _ _ _ h => h) (by kernel_rfl) hS0 ?hy46 ?_
              case hy46 => (intro W hW; clear hW; go_simp; try rfl)
              simp only [Act.put, List.setIfInBounds_toArray, List.set_cons_zero, List.set_cons_succ]
              refine wpAnyH_done (by kernel_rfl) ?_ _
              go_wp2
              go_ret
              exact ⟨retB HE.out, bel_next HBu.out (bel_next HB2.out hS0)⟩
          · have hkl : q = k := by omega
            subst hkl
            have HE : Hid (true = closedB l) := by
              unfold Hid
              rw [hA.out, List.drop_of_length_le (by rw [hlen.out]; exact Nat.le_refl _)]
              rfl
            go_wp2
            go_ret
            exact ⟨retB HE.out, bel_next HBu.out hB.out⟩
      · have HE : Hid (false = closedB l) := by
          unfold Hid closedB
          rw [HALL.out, hol2, hlen.out]
          simp [heq]
        have he1 : ((ol : Int) == (k : Int)) = false := by simp; omega
        have he2 : ¬ (ol : Int) = (k : Int) := by omega
        have he3 : ((ol : Int) != (k : Int)) = true := by simp; omega
        clear hol2 heq
        go_wp2_with (go_at_call 51; refine HOR.out.mono ?_; rintro e u ⟨p6, c6, rfl, _, _, hb⟩)
        go_ret
        exact ⟨retB HE.out, bel_next hB.out hb⟩
end Go.Proofs.Ytohhlidlgibieaa

/- What 'Ahead' does. -/
namespace Go.Proofs.Ytohhlidlgibieaa
open Go.RowKit
set_option linter.unusedVariables false

/-- One is ahead of another one (at this commit: by its Seq alone). -/
def ahdB (d : Dot) (c : List Int) : Bool := decide (d.2 ≤ getZ c d.1)
set_option maxHeartbeats 1000000 in
theorem Ahead_any (r s : Int) (pa : Option Addr) (na ca : Nat) (pe : Option Addr) (ne ce : Nat) (r' s' : Int) (pb : Option Addr) (nb cb : Nat) (pf : Option Addr) (nf cf : Nat) (c : List Int) (w : World) (hN : NS w pb nb c) (b : Bool) (hb : b = ahdB (r, s) c) :
    Calls Try.prog 23 #[.agg #[.int .i64 r, .int .i64 s, .slice pa na ca, .slice pe ne ce], .agg #[.int .i64 r', .int .i64 s', .slice pb nb cb, .slice pf nf cf]] w fun e w' => e = .returned (.bool b) ∧ Below w.heap.size w w' := by
  have HG := hide (fun W (h : NS W pb nb c) => Get_any pb nb cb c r W h)
  have HE : Hid (decide (s ≤ getZ c r) = b) := by unfold Hid; rw [hb]; rfl
  clear hb
  have HU := hide (bel2 w (bxE r s pa na ca pe ne ce) (bxE r' s' pb nb cb pf nf cf))
  have NU := hide ((hN.alloc (bxE r s pa na ca pe ne ce)).alloc (bxE r' s' pb nb cb pf nf cf))
  have c0 : ((w.alloc (bxE r s pa na ca pe ne ce)).alloc (bxE r' s' pb nb cb pf nf cf)).cell? ⟨w.heap.size, 0, none⟩ = some (.int .i64 r) := cell_old _ (cell_new w _ _ _ rfl 0 _ rfl)
  have c1 : ((w.alloc (bxE r s pa na ca pe ne ce)).alloc (bxE r' s' pb nb cb pf nf cf)).cell? ⟨w.heap.size, 1, none⟩ = some (.int .i64 s) := cell_old _ (cell_new w _ _ _ rfl 1 _ rfl)
  have d2 : ((w.alloc (bxE r s pa na ca pe ne ce)).alloc (bxE r' s' pb nb cb pf nf cf)).cell? ⟨w.heap.size + 1, 2, none⟩ = some (.slice pb nb cb) := cell_new _ _ _ _ (by simp) 2 _ rfl
  clear hN
  go_enter Try.func23, Try.ntmps23
  go_wp2
  generalize hu : (w.alloc (bxE r s pa na ca pe ne ce)).alloc (bxE r' s' pb nb cb pf nf cf) = u at *
  clear hu
  generalize getZ c r = z at HG HE
  refine wp_region_held_drew (S := fun W => Below u.heap.size u W) (by kernel_rfl) ((Below.refl _ u).drew) (fun hS0 => ?_)
  refine takeInH 0 5 ?v1 rfl rfl (by kernel_rfl) (by kernel_rfl) (by kernel_rfl) (fun _ _ _ h => h) (by kernel_rfl) hS0 ?hy1 ?_
  case hy1 => (intro W hW; clear hW; go_simp; try rfl)
  simp only [Act.put, List.setIfInBounds_toArray, List.set_cons_zero, List.set_cons_succ]
  refine takeInH 1 6 ?v2 rfl rfl (by kernel_rfl) (by kernel_rfl) (by kernel_rfl) (fun _ _ _ h => h) (by kernel_rfl) hS0 ?hy2 ?_
  case hy2 => (intro W hW; clear hW; go_simp; try rfl)
  simp only [Act.put, List.setIfInBounds_toArray, List.set_cons_zero, List.set_cons_succ]
  refine takeInH 2 7 ?v3 rfl rfl (by kernel_rfl) (by kernel_rfl) (by kernel_rfl) (fun _ _ _ h => h) (by kernel_rfl) hS0 ?hy3 ?_
  case hy3 => (intro W hW; have e0 := bcell hW c0; have e1 := bcell hW c1; have e2 := bcell hW d2; clear hW; go_simp; try rfl)
  simp only [Act.put, List.setIfInBounds_toArray, List.set_cons_zero, List.set_cons_succ]
  refine takeInH 3 8 ?v4 rfl rfl (by kernel_rfl) (by kernel_rfl) (by kernel_rfl) (fun _ _ _ h => h) (by kernel_rfl) hS0 ?hy4 ?_
  case hy4 => (intro W hW; clear hW; go_simp; try rfl)
  simp only [Act.put, List.setIfInBounds_toArray, List.set_cons_zero, List.set_cons_succ]
  refine takeInH 4 9 ?v5 rfl rfl (by kernel_rfl) (by kernel_rfl) (by kernel_rfl) (fun _ _ _ h => h) (by kernel_rfl) hS0 ?hy5 ?_
  case hy5 => (intro W hW; have e0 := bcell hW c0; have e1 := bcell hW c1; have e2 := bcell hW d2; clear hW; go_simp; try rfl)
  simp only [Act.put, List.setIfInBounds_toArray, List.set_cons_zero, List.set_cons_succ]
  refine takeInH 5 10 ?v6 rfl rfl (by kernel_rfl) (by kernel_rfl) (by kernel_rfl) (fun _ _ _ h => h) (by kernel_rfl) hS0 ?hy6 ?_
  case hy6 => (intro W hW; clear hW; go_simp; try rfl)
  simp only [Act.put, List.setIfInBounds_toArray, List.set_cons_zero, List.set_cons_succ]
  refine takeInH 6 11 ?v7 rfl rfl (by kernel_rfl) (by kernel_rfl) (by kernel_rfl) (fun _ _ _ h => h) (by kernel_rfl) hS0 ?hy7 ?_
  case hy7 => (intro W hW; clear hW; go_simp; try rfl)
  simp only [Act.put, List.setIfInBounds_toArray, List.set_cons_zero, List.set_cons_succ]
  refine takeInH 7 12 ?v8 rfl rfl (by kernel_rfl) (by kernel_rfl) (by kernel_rfl) (fun _ _ _ h => h) (by kernel_rfl) hS0 ?hy8 ?_
  case hy8 => (intro W hW; have e0 := bcell hW c0; have e1 := bcell hW c1; have e2 := bcell hW d2; clear hW; go_simp; try rfl)
  simp only [Act.put, List.setIfInBounds_toArray, List.set_cons_zero, List.set_cons_succ]
  refine wpAnyH_ready (rs := [8]) (by kernel_rfl) (by simp) ?_
  refine AllReadyH.cons rfl (fun K hK => ?_) AllReadyH.nil
  go_simp
  refine (HG.out _ (NU.out.below hS0)).mono ?_
  rintro e w' ⟨rfl, hb⟩
  try go_wp2_with fail
  refine hK.out _ _ ?hs9 (fun hS1 => ?_)
  case hs9 => exact bel_next hS0 hb
  clear hK K
  try simp only [Act.put, List.setIfInBounds_toArray, List.set_cons_zero, List.set_cons_succ]
  refine takeInH 9 14 ?v10 rfl rfl (by kernel_rfl) (by kernel_rfl) (by kernel_rfl) (fun _ _ _ h => h) (by kernel_rfl) hS1 ?hy10 ?_
  case hy10 => (intro W hW; clear hW; go_simp; try rfl)
  simp only [Act.put, List.setIfInBounds_toArray, List.set_cons_zero, List.set_cons_succ]
  refine takeInH 10 4 ?v11 rfl rfl (by kernel_rfl) (by kernel_rfl) (by kernel_rfl) (fun _ _ _ h => h) (by kernel_rfl) hS1 ?hy11 ?_
  case hy11 => (intro W hW; clear hW; go_simp; try rfl)
  simp only [Act.put, List.setIfInBounds_toArray, List.set_cons_zero, List.set_cons_succ]
  refine wpAnyH_done (by kernel_rfl) ?_ _
  go_wp2
  go_ret
  exact ⟨retB HE.out, bel_next HU.out hS1⟩
end Go.Proofs.Ytohhlidlgibieaa

/- What the statements' 'awake' does. -/
namespace Go.Proofs.Ytohhlidlgibieaa
open Go.RowKit
set_option linter.unusedVariables false

/-- The effect of 'awake'. -/
def effK : Eff := (1, 0, [107], 0, 0, [])
theorem effK_by : ByF effK := ⟨By.cons (by decide) (by decide) By.nil, By.nil⟩
theorem str_k : strOfNums [107] = ⟨#[107]⟩ := rfl
theorem str_0 : strOfNums [] = ⟨#[]⟩ := rfl
theorem cp11 (a : Addr) : CP (some a) 1 1 := CP.some (Nat.le_refl _) (by decide)
theorem cp00 : CP none 0 0 := ⟨Nat.le_refl _, by decide, fun _ => rfl⟩
abbrev o1 : Obj := .cells #[.int .i64 1, .int .i64 0, .string ⟨#[107]⟩, .int .i64 0, .int .i64 0, .string ⟨#[]⟩] 35
abbrev o2 (h : Nat) : Obj := .cells #[.int .i64 1, .int .i64 1, .slice none 0 0, .slice (some ⟨h, 0, none⟩) 1 1] 28
abbrev o3 : Obj := .cells #[.int .i64 1] 3
abbrev o4 (h : Nat) : Obj := .cells #[.int .i64 2, .int .i64 1, .slice (some ⟨h + 1 + 1, 0, none⟩) 1 1, .slice (some ⟨h, 0, none⟩) 1 1] 28
set_option maxHeartbeats 2000000 in
set_option maxRecDepth 100000 in
theorem awake5 (w : World) : Calls Try.prog 8 #[] w fun e w' => e = .returned (.bool true) ∧ Below w.heap.size w w' := by
  obtain ⟨h, hh⟩ : ∃ h, h = w.heap.size := ⟨_, rfl⟩
  have E4 : Hid (ES ((((w.alloc o1).alloc (o2 h)).alloc o3).alloc (o4 h)) (some ⟨h, 0, none⟩) 1 [effK]) := by
    have e1 : ES (w.alloc o1) (some ⟨h, 0, none⟩) 1 [effK] := ⟨RS.new encF_len w h hh [effK] _ rfl _ _ 1 rfl (by decide), fun x hx => by rw [List.mem_singleton.1 hx]; exact effK_by⟩
    exact ((e1.alloc _).alloc _).alloc _
  have N4 : Hid (NS ((((w.alloc o1).alloc (o2 h)).alloc o3).alloc (o4 h)) (some ⟨h + 1 + 1, 0, none⟩) 1 [1]) := by
    have e1 : NS ((((w.alloc o1).alloc (o2 h))).alloc o3) (some ⟨h + 1 + 1, 0, none⟩) 1 [1] := NS.one _ _ (by simp [hh]) 1
    exact e1.alloc _
  have B4 : Hid (Below w.heap.size w ((((w.alloc o1).alloc (o2 h)).alloc o3).alloc (o4 h))) := bel_next (bel_next (bel_next (bel1 w o1) (bel1 _ (o2 h))) (bel1 _ o3)) (bel1 _ (o4 h))
  have hc1 : (((w.alloc o1).alloc (o2 h)).alloc o3).alloc (o4 h) = (((w.alloc o1).alloc (o2 h)).alloc o3).alloc (o4 h) := rfl
  have a0 : ((((w.alloc o1).alloc (o2 h)).alloc o3).alloc (o4 h)).cell? ⟨h + 1, 0, none⟩ = some (.int .i64 1) := cell_old _ (cell_old _ (cell_new _ _ _ _ (by simp [hh]) 0 _ rfl))
  have a1 : ((((w.alloc o1).alloc (o2 h)).alloc o3).alloc (o4 h)).cell? ⟨h + 1, 1, none⟩ = some (.int .i64 1) := cell_old _ (cell_old _ (cell_new _ _ _ _ (by simp [hh]) 1 _ rfl))
  have a2 : ((((w.alloc o1).alloc (o2 h)).alloc o3).alloc (o4 h)).cell? ⟨h + 1, 2, none⟩ = some (.slice none 0 0) := cell_old _ (cell_old _ (cell_new _ _ _ _ (by simp [hh]) 2 _ rfl))
  have a3 : ((((w.alloc o1).alloc (o2 h)).alloc o3).alloc (o4 h)).cell? ⟨h + 1, 3, none⟩ = some (.slice (some ⟨h, 0, none⟩) 1 1) := cell_old _ (cell_old _ (cell_new _ _ _ _ (by simp [hh]) 3 _ rfl))
  have b0 : ((((w.alloc o1).alloc (o2 h)).alloc o3).alloc (o4 h)).cell? ⟨h + 1 + 1 + 1, 0, none⟩ = some (.int .i64 2) := cell_new _ _ _ _ (by simp [hh]) 0 _ rfl
  have b1 : ((((w.alloc o1).alloc (o2 h)).alloc o3).alloc (o4 h)).cell? ⟨h + 1 + 1 + 1, 1, none⟩ = some (.int .i64 1) := cell_new _ _ _ _ (by simp [hh]) 1 _ rfl
  have b2 : ((((w.alloc o1).alloc (o2 h)).alloc o3).alloc (o4 h)).cell? ⟨h + 1 + 1 + 1, 2, none⟩ = some (.slice (some ⟨h + 1 + 1, 0, none⟩) 1 1) := cell_new _ _ _ _ (by simp [hh]) 2 _ rfl
  have b3 : ((((w.alloc o1).alloc (o2 h)).alloc o3).alloc (o4 h)).cell? ⟨h + 1 + 1 + 1, 3, none⟩ = some (.slice (some ⟨h, 0, none⟩) 1 1) := cell_new _ _ _ _ (by simp [hh]) 3 _ rfl
  have HA1 := hide (fun W (hN : NS W (some ⟨h + 1 + 1, 0, none⟩) 1 [1]) => Ahead_any 1 1 none 0 0 (some ⟨h, 0, none⟩) 1 1 2 1 (some ⟨h + 1 + 1, 0, none⟩) 1 1 (some ⟨h, 0, none⟩) 1 1 [1] W hN true (by decide))
  have HA2 := hide (fun W => Ahead_any 2 1 (some ⟨h + 1 + 1, 0, none⟩) 1 1 (some ⟨h, 0, none⟩) 1 1 1 1 none 0 0 (some ⟨h, 0, none⟩) 1 1 [] W (NS.nil W none) false (by decide))
  have HK := hide (fun W (hN : NS W (some ⟨h + 1 + 1, 0, none⟩) 1 [1]) (hE : ES W (some ⟨h, 0, none⟩) 1 [effK]) => CheckE_any 2 1 (some ⟨h + 1 + 1, 0, none⟩) 1 1 (some ⟨h, 0, none⟩) 1 1 [1] [effK] W hN hE)
  have hk : errB (mayE ((2, 1), [1], [effK])) = 0 := by decide
  rw [hk] at HK
  have HC := hide (fun W g (hE : EVS W (some ⟨g, 0, none⟩) 2 [((2, 1), [1], [effK]), ((1, 1), [], [effK])]) => Closed_any (some ⟨g, 0, none⟩) 2 2 _ W hE (by decide))
  have hcl : closedB [((2, 1), [1], [effK]), ((1, 1), [], [effK])] = true := by decide
  rw [hcl] at HC
  clear hk hcl hc1
  subst hh
  go_enter Try.func8, Try.ntmps8
  go_wp2_with (go_at_call 23; refine Stop.at ?_)
  unfold Stop
  generalize hW : (((w.alloc o1).alloc (o2 w.heap.size)).alloc o3).alloc (o4 w.heap.size) = W4 at *
  clear hW
  refine (HA1.out _ N4.out).mono ?_
  rintro e u1 ⟨rfl, hb⟩
  replace E4 := hide (E4.out.below hb)
  replace N4 := hide (N4.out.below hb)
  replace B4 := hide (bel_next B4.out hb)
  replace a0 := bcell hb a0
  replace a1 := bcell hb a1
  replace a2 := bcell hb a2
  replace a3 := bcell hb a3
  replace b0 := bcell hb b0
  replace b1 := bcell hb b1
  replace b2 := bcell hb b2
  replace b3 := bcell hb b3
  clear hb
  go_wp2_with (go_at_call 23; refine Stop.at ?_)
  unfold Stop
  refine (HA2.out _).mono ?_
  rintro e u2 ⟨rfl, hb⟩
  replace E4 := hide (E4.out.below hb)
  replace N4 := hide (N4.out.below hb)
  replace B4 := hide (bel_next B4.out hb)
  replace a0 := bcell hb a0
  replace a1 := bcell hb a1
  replace a2 := bcell hb a2
  replace a3 := bcell hb a3
  replace b0 := bcell hb b0
  replace b1 := bcell hb b1
  replace b2 := bcell hb b2
  replace b3 := bcell hb b3
  clear hb
  go_wp2_with (go_at_call 24; refine Stop.at ?_)
  unfold Stop
  refine (HC.out _ _ (EVS.new u2 _ rfl [(2, 1, (some ⟨w.heap.size + 1 + 1, 0, none⟩, 1, 1), (some ⟨w.heap.size, 0, none⟩, 1, 1)), (1, 1, (none, 0, 0), (some ⟨w.heap.size, 0, none⟩, 1, 1))] _ _ rfl _ _ 2 rfl rfl (by decide) ?_)).mono ?_
  · intro i x e hx he
    rcases i with _ | _ | i
    · simp at hx he
      subst hx he
      exact ⟨rfl, ⟨N4.out, cp11 _⟩, E4.out, cp11 _⟩
    · simp at hx he
      subst hx he
      exact ⟨rfl, ⟨NS.nil _ _, cp00⟩, E4.out, cp11 _⟩
    · simp at hx
  rintro e u3 ⟨rfl, hb0⟩
  have hb := bel_next (bel1 u2 _) hb0
  clear hb0
  replace E4 := hide (E4.out.below hb)
  replace N4 := hide (N4.out.below hb)
  replace B4 := hide (bel_next B4.out hb)
  replace b0 := bcell hb b0
  replace b1 := bcell hb b1
  replace b2 := bcell hb b2
  replace b3 := bcell hb b3
  clear hb a0 a1 a2 a3
  go_wp2_with (go_at_call 15; refine Stop.at ?_)
  unfold Stop
  refine (HK.out _ N4.out E4.out).mono ?_
  rintro e u4 ⟨rfl, hb⟩
  go_wp2
  go_ret
  exact ⟨rfl, bel_next B4.out hb⟩
end Go.Proofs.Ytohhlidlgibieaa

/- Whether effects, and events, are alike: the program's and the document's answer. -/
namespace Go.Proofs.Ytohhlidlgibieaa
open Go.RowKit
set_option linter.unusedVariables false

theorem eff_beq (x y : Eff) (hx : ByF x) (hy : ByF y) : (x.1 == y.1 && (x.2.1 == y.2.1 && ((strOfNums x.2.2.1).toList == (strOfNums y.2.2.1).toList && (x.2.2.2.1 == y.2.2.2.1 && (x.2.2.2.2.1 == y.2.2.2.2.1 && (strOfNums x.2.2.2.2.2).toList == (strOfNums y.2.2.2.2.2).toList))))) = decide (x = y) := by
  rw [str_toList _ _ hx.1 hy.1, str_toList _ _ hx.2 hy.2]
  obtain ⟨a, b, c, d, e, f⟩ := x
  obtain ⟨a', b', c', d', e', f'⟩ := y
  rw [Bool.eq_iff_iff]
  simp [Prod.ext_iff]
theorem eff_eq (x y : Eff) (hx : ByF x) (hy : ByF y) : x = y ↔ (x.1 = y.1 ∧ x.2.1 = y.2.1 ∧ (strOfNums x.2.2.1).toList = (strOfNums y.2.2.1).toList ∧ x.2.2.2.1 = y.2.2.2.1 ∧ x.2.2.2.2.1 = y.2.2.2.2.1 ∧ (strOfNums x.2.2.2.2.2).toList = (strOfNums y.2.2.2.2.2).toList) := by
  have h := eff_beq x y hx hy
  rw [Bool.eq_iff_iff, decide_eq_true_iff] at h
  rw [← h]
  simp
theorem eq_dropE {l m : List Eff} {k : Nat} {x y : Eff} (h : l[k]? = some x) (h2 : m[k]? = some y) : (l.drop k = m.drop k) ↔ (x = y ∧ l.drop (k + 1) = m.drop (k + 1)) := by
  obtain ⟨h1, e1⟩ := List.getElem?_eq_some_iff.1 h
  obtain ⟨h3, e2⟩ := List.getElem?_eq_some_iff.1 h2
  rw [List.drop_eq_getElem_cons h1, List.drop_eq_getElem_cons h3, List.cons.injEq, e1, e2]

set_option maxHeartbeats 8000000 in
theorem equalF_any (a a' : Option Addr) (n cap n' cap' : Nat) (l m : List Eff) (w : World) (hE : ES w a n l) (hE' : ES w a' n' m) :
    Calls Try.prog 31 #[.slice a n cap, .slice a' n' cap'] w fun e w' => e = .returned (.bool (decide (l = m))) ∧ Below w.heap.size w w' := by
  have hmax := hE.1.2.1
  have hmax' := hE'.1.2.1
  unfold maxLen at hmax hmax'
  have HL := hide hE.1.1
  have HL' := hide hE'.1.1
  have HE1 := hide hE
  have HE2 := hide hE'
  clear hE hE'
  by_cases hnn : n = n'
  · subst hnn
    go_enter Try.func31, Try.ntmps31
    go_wp2
    go_loopw [13] (fun i wr => ∃ k : Nat, k ≤ n ∧ i = .int .i64 k ∧ Hid (Below w.heap.size w wr) ∧ Hid ((l = m) ↔ (l.drop k = m.drop k))) (fun i _ => n - (intOf i).toNat)
    case atStart => exact ⟨0, by omega, rfl, Below.refl _ _, by unfold Hid; simp⟩
    case round =>
      obtain ⟨k, hk, rfl, hB, hH⟩ := hrel
      by_cases hlt : k < n
      · skip
        obtain ⟨x, hx⟩ : ∃ x, l[k]? = some x := ⟨_, List.getElem?_eq_getElem (by rw [HL.out]; exact hlt)⟩
        obtain ⟨y, hy⟩ : ∃ y, m[k]? = some y := ⟨_, List.getElem?_eq_getElem (by rw [HL'.out]; exact hlt)⟩
        rcases HE1.out.1.2.2 with h0 | ⟨b, off, rfl, _⟩
        · omega
        rcases HE2.out.1.2.2 with h0 | ⟨b', off', rfl, _⟩
        · omega
        obtain ⟨c0, c1, c2, c3, c4, c5⟩ := HE1.out.at k x hx
        obtain ⟨d0, d1, d2, d3, d4, d5⟩ := HE2.out.at k y hy
        replace c0 := bcell hB.out c0
        replace c1 := bcell hB.out c1
        replace c2 := bcell hB.out c2
        replace c3 := bcell hB.out c3
        replace c4 := bcell hB.out c4
        replace c5 := bcell hB.out c5
        replace d0 := bcell hB.out d0
        replace d1 := bcell hB.out d1
        replace d2 := bcell hB.out d2
        replace d3 := bcell hB.out d3
        replace d4 := bcell hB.out d4
        replace d5 := bcell hB.out d5
        have hst : Hid ((l = m) ↔ (x = y ∧ l.drop (k + 1) = m.drop (k + 1))) := by unfold Hid; rw [← eq_dropE hx hy]; exact hH.out
        have hxy := eff_eq x y (HE1.out.2 x (List.mem_of_getElem? hx)) (HE2.out.2 y (List.mem_of_getElem? hy))
        clear hx hy hH
        obtain ⟨xk, xo, xky, xn, xt, xw⟩ := x
        obtain ⟨yk, yo, yky, yn, yt, yw⟩ := y
        have HXY := hide hxy
        clear hxy
        simp only [] at HXY c0 c1 c2 c3 c4 c5 d0 d1 d2 d3 d4 d5
        generalize strOfNums xky = sk at *
        generalize strOfNums xw = sw at *
        generalize strOfNums yky = sk' at *
        generalize strOfNums yw = sw' at *
        by_cases q0 : xk = yk
        · skip
          by_cases q1 : xo = yo
          · skip
            by_cases q2 : sk.toList = sk'.toList
            · skip
              by_cases q3 : xn = yn
              · skip
                by_cases q4 : xt = yt
                · skip
                  by_cases q5 : sw.toList = sw'.toList
                  · skip
                    have hst2 : Hid ((l = m) ↔ (l.drop (k + 1) = m.drop (k + 1))) := by unfold Hid; rw [hst.out, HXY.out]; simp [q0, q1, q2, q3, q4, q5]
                    clear hst HXY
                    go_wp2
                    refine wp_region_held_drew (S := fun W => Below wr.heap.size wr W) (by kernel_rfl) ((Below.refl _ wr).drew) (fun hS0 => ?_)
                    refine takeInH 0 16 ?v1 rfl rfl (by kernel_rfl) (by kernel_rfl) (by kernel_rfl) (fun _ _ _ h => h) (by kernel_rfl) hS0 ?hy1 ?_
                    case hy1 => (intro W hW; clear hW; go_simp; try rfl)
                    simp only [Act.put, List.setIfInBounds_toArray, List.set_cons_zero, List.set_cons_succ]
                    refine takeInH 1 17 ?v2 rfl rfl (by kernel_rfl) (by kernel_rfl) (by kernel_rfl) (fun _ _ _ h => h) (by kernel_rfl) hS0 ?hy2 ?_
                    case hy2 => (intro W hW; clear hW; go_simp; try rfl)
                    simp only [Act.put, List.setIfInBounds_toArray, List.set_cons_zero, List.set_cons_succ]
                    refine takeInH 2 18 ?v3 rfl rfl (by kernel_rfl) (by kernel_rfl) (by kernel_rfl) (fun _ _ _ h => h) (by kernel_rfl) hS0 ?hy3 ?_
                    case hy3 => (intro W hW; clear hW; go_simp; try rfl)
                    simp only [Act.put, List.setIfInBounds_toArray, List.set_cons_zero, List.set_cons_succ]
                    refine takeInH 3 19 ?v4 rfl rfl (by kernel_rfl) (by kernel_rfl) (by kernel_rfl) (fun _ _ _ h => h) (by kernel_rfl) hS0 ?hy4 ?_
                    case hy4 => (intro W hW; have e0 := bcell hW c0; have e1 := bcell hW c1; have e2 := bcell hW c2; have e3 := bcell hW c3; have e4 := bcell hW c4; have e5 := bcell hW c5; have e6 := bcell hW d0; have e7 := bcell hW d1; have e8 := bcell hW d2; have e9 := bcell hW d3; have e10 := bcell hW d4; have e11 := bcell hW d5; clear hW; go_simp; try rfl)
                    simp only [Act.put, List.setIfInBounds_toArray, List.set_cons_zero, List.set_cons_succ]
                    refine takeInH 4 20 ?v5 rfl rfl (by kernel_rfl) (by kernel_rfl) (by kernel_rfl) (fun _ _ _ h => h) (by kernel_rfl) hS0 ?hy5 ?_
                    case hy5 => (intro W hW; clear hW; go_simp; try rfl)
                    simp only [Act.put, List.setIfInBounds_toArray, List.set_cons_zero, List.set_cons_succ]
                    refine takeInH 5 21 ?v6 rfl rfl (by kernel_rfl) (by kernel_rfl) (by kernel_rfl) (fun _ _ _ h => h) (by kernel_rfl) hS0 ?hy6 ?_
                    case hy6 => (intro W hW; clear hW; go_simp; try rfl)
                    simp only [Act.put, List.setIfInBounds_toArray, List.set_cons_zero, List.set_cons_succ]
                    refine takeInH 6 22 ?v7 rfl rfl (by kernel_rfl) (by kernel_rfl) (by kernel_rfl) (fun _ _ _ h => h) (by kernel_rfl) hS0 ?hy7 ?_
                    case hy7 => (intro W hW; clear hW; go_simp; try rfl)
                    simp only [Act.put, List.setIfInBounds_toArray, List.set_cons_zero, List.set_cons_succ]
                    refine takeInH 7 23 ?v8 rfl rfl (by kernel_rfl) (by kernel_rfl) (by kernel_rfl) (fun _ _ _ h => h) (by kernel_rfl) hS0 ?hy8 ?_
                    case hy8 => (intro W hW; have e0 := bcell hW c0; have e1 := bcell hW c1; have e2 := bcell hW c2; have e3 := bcell hW c3; have e4 := bcell hW c4; have e5 := bcell hW c5; have e6 := bcell hW d0; have e7 := bcell hW d1; have e8 := bcell hW d2; have e9 := bcell hW d3; have e10 := bcell hW d4; have e11 := bcell hW d5; clear hW; go_simp; try rfl)
                    simp only [Act.put, List.setIfInBounds_toArray, List.set_cons_zero, List.set_cons_succ]
                    refine takeInH 8 24 ?v9 rfl rfl (by kernel_rfl) (by kernel_rfl) (by kernel_rfl) (fun _ _ _ h => h) (by kernel_rfl) hS0 ?hy9 ?_
                    case hy9 => (intro W hW; clear hW; go_simp; try rfl)
                    simp only [Act.put, List.setIfInBounds_toArray, List.set_cons_zero, List.set_cons_succ]
                    refine wpAnyH_done (by kernel_rfl) ?_ _
                    go_wp2
                    go_roundw
                    case rel => exact ⟨k + 1, by omega, by go_num, bel_next hB.out (by assumption), hst2⟩
                    case measure => simp [intOf]; omega
                  · skip
                    have HE : Hid (false = decide (l = m)) := by unfold Hid; symm; rw [decide_eq_false_iff_not, hst.out, HXY.out]; rintro ⟨⟨h0, h1, h2, h3, h4, h5⟩, _⟩; contradiction
                    clear hst HXY
                    go_wp2
                    refine wp_region_held_drew (S := fun W => Below wr.heap.size wr W) (by kernel_rfl) ((Below.refl _ wr).drew) (fun hS0 => ?_)
                    refine takeInH 0 16 ?v10 rfl rfl (by kernel_rfl) (by kernel_rfl) (by kernel_rfl) (fun _ _ _ h => h) (by kernel_rfl) hS0 ?hy10 ?_
                    case hy10 => (intro W hW; clear hW; go_simp; try rfl)
                    simp only [Act.put, List.setIfInBounds_toArray, List.set_cons_zero, List.set_cons_succ]
                    refine takeInH 1 17 ?v11 rfl rfl (by kernel_rfl) (by kernel_rfl) (by kernel_rfl) (fun _ _ _ h => h) (by kernel_rfl) hS0 ?hy11 ?_
                    case hy11 => (intro W hW; clear hW; go_simp; try rfl)
                    simp only [Act.put, List.setIfInBounds_toArray, List.set_cons_zero, List.set_cons_succ]
                    refine takeInH 2 18 ?v12 rfl rfl (by kernel_rfl) (by kernel_rfl) (by kernel_rfl) (fun _ _ _ h => h) (by kernel_rfl) hS0 ?hy12 ?_
                    case hy12 => (intro W hW; clear hW; go_simp; try rfl)
                    simp only [Act.put, List.setIfInBounds_toArray, List.set_cons_zero, List.set_cons_succ]
                    refine takeInH 3 19 ?v13 rfl rfl (by kernel_rfl) (by kernel_rfl) (by kernel_rfl) (fun _ _ _ h => h) (by kernel_rfl) hS0 ?hy13 ?_
                    case hy13 => (intro W hW; have e0 := bcell hW c0; have e1 := bcell hW c1; have e2 := bcell hW c2; have e3 := bcell hW c3; have e4 := bcell hW c4; have e5 := bcell hW c5; have e6 := bcell hW d0; have e7 := bcell hW d1; have e8 := bcell hW d2; have e9 := bcell hW d3; have e10 := bcell hW d4; have e11 := bcell hW d5; clear hW; go_simp; try rfl)
                    simp only [Act.put, List.setIfInBounds_toArray, List.set_cons_zero, List.set_cons_succ]
                    refine takeInH 4 20 ?v14 rfl rfl (by kernel_rfl) (by kernel_rfl) (by kernel_rfl) (fun _ _ _ h => h) (by kernel_rfl) hS0 ?hy14 ?_
                    case hy14 => (intro W hW; clear hW; go_simp; try rfl)
                    simp only [Act.put, List.setIfInBounds_toArray, List.set_cons_zero, List.set_cons_succ]
                    refine takeInH 5 21 ?v15 rfl rfl (by kernel_rfl) (by kernel_rfl) (by kernel_rfl) (fun _ _ _ h => h) (by kernel_rfl) hS0 ?hy15 ?_
                    case hy15 => (intro W hW; clear hW; go_simp; try rfl)
                    simp only [Act.put, List.setIfInBounds_toArray, List.set_cons_zero, List.set_cons_succ]
                    refine takeInH 6 22 ?v16 rfl rfl (by kernel_rfl) (by kernel_rfl) (by kernel_rfl) (fun _ _ _ h => h) (by kernel_rfl) hS0 ?hy16 ?_
                    case hy16 => (intro W hW; clear hW; go_simp; try rfl)
                    simp only [Act.put, List.setIfInBounds_toArray, List.set_cons_zero, List.set_cons_succ]
                    refine takeInH 7 23 ?v17 rfl rfl (by kernel_rfl) (by kernel_rfl) (by kernel_rfl) (fun _ _ _ h => h) (by kernel_rfl) hS0 ?hy17 ?_
                    case hy17 => (intro W hW; have e0 := bcell hW c0; have e1 := bcell hW c1; have e2 := bcell hW c2; have e3 := bcell hW c3; have e4 := bcell hW c4; have e5 := bcell hW c5; have e6 := bcell hW d0; have e7 := bcell hW d1; have e8 := bcell hW d2; have e9 := bcell hW d3; have e10 := bcell hW d4; have e11 := bcell hW d5; clear hW; go_simp; try rfl)
                    simp only [Act.put, List.setIfInBounds_toArray, List.set_cons_zero, List.set_cons_succ]
                    refine takeInH 8 24 ?v18 rfl rfl (by kernel_rfl) (by kernel_rfl) (by kernel_rfl) (fun _ _ _ h => h) (by kernel_rfl) hS0 ?hy18 ?_
                    case hy18 => (intro W hW; clear hW; go_simp; try rfl)
                    simp only [Act.put, List.setIfInBounds_toArray, List.set_cons_zero, List.set_cons_succ]
                    refine wpAnyH_done (by kernel_rfl) ?_ _
                    go_wp2
                    go_ret
                    exact ⟨retB HE.out, bel_next hB.out (by assumption)⟩
                · skip
                  have HE : Hid (false = decide (l = m)) := by unfold Hid; symm; rw [decide_eq_false_iff_not, hst.out, HXY.out]; rintro ⟨⟨h0, h1, h2, h3, h4, h5⟩, _⟩; contradiction
                  clear hst HXY
                  go_wp2
                  refine wp_region_held_drew (S := fun W => Below wr.heap.size wr W) (by kernel_rfl) ((Below.refl _ wr).drew) (fun hS0 => ?_)
                  refine takeInH 0 16 ?v19 rfl rfl (by kernel_rfl) (by kernel_rfl) (by kernel_rfl) (fun _ _ _ h => h) (by kernel_rfl) hS0 ?hy19 ?_
                  case hy19 => (intro W hW; clear hW; go_simp; try rfl)
                  simp only [Act.put, List.setIfInBounds_toArray, List.set_cons_zero, List.set_cons_succ]
                  refine takeInH 1 17 ?v20 rfl rfl (by kernel_rfl) (by kernel_rfl) (by kernel_rfl) (fun _ _ _ h => h) (by kernel_rfl) hS0 ?hy20 ?_
                  case hy20 => (intro W hW; clear hW; go_simp; try rfl)
                  simp only [Act.put, List.setIfInBounds_toArray, List.set_cons_zero, List.set_cons_succ]
                  refine takeInH 2 18 ?v21 rfl rfl (by kernel_rfl) (by kernel_rfl) (by kernel_rfl) (fun _ _ _ h => h) (by kernel_rfl) hS0 ?hy21 ?_
                  case hy21 => (intro W hW; clear hW; go_simp; try rfl)
                  simp only [Act.put, List.setIfInBounds_toArray, List.set_cons_zero, List.set_cons_succ]
                  refine takeInH 3 19 ?v22 rfl rfl (by kernel_rfl) (by kernel_rfl) (by kernel_rfl) (fun _ _ _ h => h) (by kernel_rfl) hS0 ?hy22 ?_
                  case hy22 => (intro W hW; have e0 := bcell hW c0; have e1 := bcell hW c1; have e2 := bcell hW c2; have e3 := bcell hW c3; have e4 := bcell hW c4; have e5 := bcell hW c5; have e6 := bcell hW d0; have e7 := bcell hW d1; have e8 := bcell hW d2; have e9 := bcell hW d3; have e10 := bcell hW d4; have e11 := bcell hW d5; clear hW; go_simp; try rfl)
                  simp only [Act.put, List.setIfInBounds_toArray, List.set_cons_zero, List.set_cons_succ]
                  refine takeInH 4 20 ?v23 rfl rfl (by kernel_rfl) (by kernel_rfl) (by kernel_rfl) (fun _ _ _ h => h) (by kernel_rfl) hS0 ?hy23 ?_
                  case hy23 => (intro W hW; clear hW; go_simp; try rfl)
                  simp only [Act.put, List.setIfInBounds_toArray, List.set_cons_zero, List.set_cons_succ]
                  refine takeInH 5 21 ?v24 rfl rfl (by kernel_rfl) (by kernel_rfl) (by kernel_rfl) (fun _ _ _ h => h) (by kernel_rfl) hS0 ?hy24 ?_
                  case hy24 => (intro W hW; clear hW; go_simp; try rfl)
                  simp only [Act.put, List.setIfInBounds_toArray, List.set_cons_zero, List.set_cons_succ]
                  refine takeInH 6 22 ?v25 rfl rfl (by kernel_rfl) (by kernel_rfl) (by kernel_rfl) (fun _ _ _ h => h) (by kernel_rfl) hS0 ?hy25 ?_
                  case hy25 => (intro W hW; clear hW; go_simp; try rfl)
                  simp only [Act.put, List.setIfInBounds_toArray, List.set_cons_zero, List.set_cons_succ]
                  refine takeInH 7 23 ?v26 rfl rfl (by kernel_rfl) (by kernel_rfl) (by kernel_rfl) (fun _ _ _ h => h) (by kernel_rfl) hS0 ?hy26 ?_
                  case hy26 => (intro W hW; have e0 := bcell hW c0; have e1 := bcell hW c1; have e2 := bcell hW c2; have e3 := bcell hW c3; have e4 := bcell hW c4; have e5 := bcell hW c5; have e6 := bcell hW d0; have e7 := bcell hW d1; have e8 := bcell hW d2; have e9 := bcell hW d3; have e10 := bcell hW d4; have e11 := bcell hW d5; clear hW; go_simp; try rfl)
                  simp only [Act.put, List.setIfInBounds_toArray, List.set_cons_zero, List.set_cons_succ]
                  refine takeInH 8 24 ?v27 rfl rfl (by kernel_rfl) (by kernel_rfl) (by kernel_rfl) (fun _ _ _ h => h) (by kernel_rfl) hS0 ?hy27 ?_
                  case hy27 => (intro W hW; clear hW; go_simp; try rfl)
                  simp only [Act.put, List.setIfInBounds_toArray, List.set_cons_zero, List.set_cons_succ]
                  refine wpAnyH_done (by kernel_rfl) ?_ _
                  go_wp2
                  go_ret
                  exact ⟨retB HE.out, bel_next hB.out (by assumption)⟩
              · skip
                have HE : Hid (false = decide (l = m)) := by unfold Hid; symm; rw [decide_eq_false_iff_not, hst.out, HXY.out]; rintro ⟨⟨h0, h1, h2, h3, h4, h5⟩, _⟩; contradiction
                clear hst HXY
                go_wp2
                refine wp_region_held_drew (S := fun W => Below wr.heap.size wr W) (by kernel_rfl) ((Below.refl _ wr).drew) (fun hS0 => ?_)
                refine takeInH 0 16 ?v28 rfl rfl (by kernel_rfl) (by kernel_rfl) (by kernel_rfl) (fun _ _ _ h => h) (by kernel_rfl) hS0 ?hy28 ?_
                case hy28 => (intro W hW; clear hW; go_simp; try rfl)
                simp only [Act.put, List.setIfInBounds_toArray, List.set_cons_zero, List.set_cons_succ]
                refine takeInH 1 17 ?v29 rfl rfl (by kernel_rfl) (by kernel_rfl) (by kernel_rfl) (fun _ _ _ h => h) (by kernel_rfl) hS0 ?hy29 ?_
                case hy29 => (intro W hW; clear hW; go_simp; try rfl)
                simp only [Act.put, List.setIfInBounds_toArray, List.set_cons_zero, List.set_cons_succ]
                refine takeInH 2 18 ?v30 rfl rfl (by kernel_rfl) (by kernel_rfl) (by kernel_rfl) (fun _ _ _ h => h) (by kernel_rfl) hS0 ?hy30 ?_
                case hy30 => (intro W hW; clear hW; go_simp; try rfl)
                simp only [Act.put, List.setIfInBounds_toArray, List.set_cons_zero, List.set_cons_succ]
                refine takeInH 3 19 ?v31 rfl rfl (by kernel_rfl) (by kernel_rfl) (by kernel_rfl) (fun _ _ _ h => h) (by kernel_rfl) hS0 ?hy31 ?_
                case hy31 => (intro W hW; have e0 := bcell hW c0; have e1 := bcell hW c1; have e2 := bcell hW c2; have e3 := bcell hW c3; have e4 := bcell hW c4; have e5 := bcell hW c5; have e6 := bcell hW d0; have e7 := bcell hW d1; have e8 := bcell hW d2; have e9 := bcell hW d3; have e10 := bcell hW d4; have e11 := bcell hW d5; clear hW; go_simp; try rfl)
                simp only [Act.put, List.setIfInBounds_toArray, List.set_cons_zero, List.set_cons_succ]
                refine takeInH 4 20 ?v32 rfl rfl (by kernel_rfl) (by kernel_rfl) (by kernel_rfl) (fun _ _ _ h => h) (by kernel_rfl) hS0 ?hy32 ?_
                case hy32 => (intro W hW; clear hW; go_simp; try rfl)
                simp only [Act.put, List.setIfInBounds_toArray, List.set_cons_zero, List.set_cons_succ]
                refine takeInH 5 21 ?v33 rfl rfl (by kernel_rfl) (by kernel_rfl) (by kernel_rfl) (fun _ _ _ h => h) (by kernel_rfl) hS0 ?hy33 ?_
                case hy33 => (intro W hW; clear hW; go_simp; try rfl)
                simp only [Act.put, List.setIfInBounds_toArray, List.set_cons_zero, List.set_cons_succ]
                refine takeInH 6 22 ?v34 rfl rfl (by kernel_rfl) (by kernel_rfl) (by kernel_rfl) (fun _ _ _ h => h) (by kernel_rfl) hS0 ?hy34 ?_
                case hy34 => (intro W hW; clear hW; go_simp; try rfl)
                simp only [Act.put, List.setIfInBounds_toArray, List.set_cons_zero, List.set_cons_succ]
                refine takeInH 7 23 ?v35 rfl rfl (by kernel_rfl) (by kernel_rfl) (by kernel_rfl) (fun _ _ _ h => h) (by kernel_rfl) hS0 ?hy35 ?_
                case hy35 => (intro W hW; have e0 := bcell hW c0; have e1 := bcell hW c1; have e2 := bcell hW c2; have e3 := bcell hW c3; have e4 := bcell hW c4; have e5 := bcell hW c5; have e6 := bcell hW d0; have e7 := bcell hW d1; have e8 := bcell hW d2; have e9 := bcell hW d3; have e10 := bcell hW d4; have e11 := bcell hW d5; clear hW; go_simp; try rfl)
                simp only [Act.put, List.setIfInBounds_toArray, List.set_cons_zero, List.set_cons_succ]
                refine takeInH 8 24 ?v36 rfl rfl (by kernel_rfl) (by kernel_rfl) (by kernel_rfl) (fun _ _ _ h => h) (by kernel_rfl) hS0 ?hy36 ?_
                case hy36 => (intro W hW; clear hW; go_simp; try rfl)
                simp only [Act.put, List.setIfInBounds_toArray, List.set_cons_zero, List.set_cons_succ]
                refine wpAnyH_done (by kernel_rfl) ?_ _
                go_wp2
                go_ret
                exact ⟨retB HE.out, bel_next hB.out (by assumption)⟩
            · skip
              have HE : Hid (false = decide (l = m)) := by unfold Hid; symm; rw [decide_eq_false_iff_not, hst.out, HXY.out]; rintro ⟨⟨h0, h1, h2, h3, h4, h5⟩, _⟩; contradiction
              clear hst HXY
              go_wp2
              refine wp_region_held_drew (S := fun W => Below wr.heap.size wr W) (by kernel_rfl) ((Below.refl _ wr).drew) (fun hS0 => ?_)
              refine takeInH 0 16 ?v37 rfl rfl (by kernel_rfl) (by kernel_rfl) (by kernel_rfl) (fun _ _ _ h => h) (by kernel_rfl) hS0 ?hy37 ?_
              case hy37 => (intro W hW; clear hW; go_simp; try rfl)
              simp only [Act.put, List.setIfInBounds_toArray, List.set_cons_zero, List.set_cons_succ]
              refine takeInH 1 17 ?v38 rfl rfl (by kernel_rfl) (by kernel_rfl) (by kernel_rfl) (fun _ _ _ h => h) (by kernel_rfl) hS0 ?hy38 ?_
              case hy38 => (intro W hW; clear hW; go_simp; try rfl)
              simp only [Act.put, List.setIfInBounds_toArray, List.set_cons_zero, List.set_cons_succ]
              refine takeInH 2 18 ?v39 rfl rfl (by kernel_rfl) (by kernel_rfl) (by kernel_rfl) (fun _ _ _ h => h) (by kernel_rfl) hS0 ?hy39 ?_
              case hy39 => (intro W hW; clear hW; go_simp; try rfl)
              simp only [Act.put, List.setIfInBounds_toArray, List.set_cons_zero, List.set_cons_succ]
              refine takeInH 3 19 ?v40 rfl rfl (by kernel_rfl) (by kernel_rfl) (by kernel_rfl) (fun _ _ _ h => h) (by kernel_rfl) hS0 ?hy40 ?_
              case hy40 => (intro W hW; have e0 := bcell hW c0; have e1 := bcell hW c1; have e2 := bcell hW c2; have e3 := bcell hW c3; have e4 := bcell hW c4; have e5 := bcell hW c5; have e6 := bcell hW d0; have e7 := bcell hW d1; have e8 := bcell hW d2; have e9 := bcell hW d3; have e10 := bcell hW d4; have e11 := bcell hW d5; clear hW; go_simp; try rfl)
              simp only [Act.put, List.setIfInBounds_toArray, List.set_cons_zero, List.set_cons_succ]
              refine takeInH 4 20 ?v41 rfl rfl (by kernel_rfl) (by kernel_rfl) (by kernel_rfl) (fun _ _ _ h => h) (by kernel_rfl) hS0 ?hy41 ?_
              case hy41 => (intro W hW; clear hW; go_simp; try rfl)
              simp only [Act.put, List.setIfInBounds_toArray, List.set_cons_zero, List.set_cons_succ]
              refine takeInH 5 21 ?v42 rfl rfl (by kernel_rfl) (by kernel_rfl) (by kernel_rfl) (fun _ _ _ h => h) (by kernel_rfl) hS0 ?hy42 ?_
              case hy42 => (intro W hW; clear hW; go_simp; try rfl)
              simp only [Act.put, List.setIfInBounds_toArray, List.set_cons_zero, List.set_cons_succ]
              refine takeInH 6 22 ?v43 rfl rfl (by kernel_rfl) (by kernel_rfl) (by kernel_rfl) (fun _ _ _ h => h) (by kernel_rfl) hS0 ?hy43 ?_
              case hy43 => (intro W hW; clear hW; go_simp; try rfl)
              simp only [Act.put, List.setIfInBounds_toArray, List.set_cons_zero, List.set_cons_succ]
              refine takeInH 7 23 ?v44 rfl rfl (by kernel_rfl) (by kernel_rfl) (by kernel_rfl) (fun _ _ _ h => h) (by kernel_rfl) hS0 ?hy44 ?_
              case hy44 => (intro W hW; have e0 := bcell hW c0; have e1 := bcell hW c1; have e2 := bcell hW c2; have e3 := bcell hW c3; have e4 := bcell hW c4; have e5 := bcell hW c5; have e6 := bcell hW d0; have e7 := bcell hW d1; have e8 := bcell hW d2; have e9 := bcell hW d3; have e10 := bcell hW d4; have e11 := bcell hW d5; clear hW; go_simp; try rfl)
              simp only [Act.put, List.setIfInBounds_toArray, List.set_cons_zero, List.set_cons_succ]
              refine takeInH 8 24 ?v45 rfl rfl (by kernel_rfl) (by kernel_rfl) (by kernel_rfl) (fun _ _ _ h => h) (by kernel_rfl) hS0 ?hy45 ?_
              case hy45 => (intro W hW; clear hW; go_simp; try rfl)
              simp only [Act.put, List.setIfInBounds_toArray, List.set_cons_zero, List.set_cons_succ]
              refine wpAnyH_done (by kernel_rfl) ?_ _
              go_wp2
              go_ret
              exact ⟨retB HE.out, bel_next hB.out (by assumption)⟩
          · skip
            have HE : Hid (false = decide (l = m)) := by unfold Hid; symm; rw [decide_eq_false_iff_not, hst.out, HXY.out]; rintro ⟨⟨h0, h1, h2, h3, h4, h5⟩, _⟩; contradiction
            clear hst HXY
            go_wp2
            refine wp_region_held_drew (S := fun W => Below wr.heap.size wr W) (by kernel_rfl) ((Below.refl _ wr).drew) (fun hS0 => ?_)
            refine takeInH 0 16 ?v46 rfl rfl (by kernel_rfl) (by kernel_rfl) (by kernel_rfl) (fun _ _ _ h => h) (by kernel_rfl) hS0 ?hy46 ?_
            case hy46 => (intro W hW; clear hW; go_simp; try rfl)
            simp only [Act.put, List.setIfInBounds_toArray, List.set_cons_zero, List.set_cons_succ]
            refine takeInH 1 17 ?v47 rfl rfl (by kernel_rfl) (by kernel_rfl) (by kernel_rfl) (fun _ _ _ h => h) (by kernel_rfl) hS0 ?hy47 ?_
            case hy47 => (intro W hW; clear hW; go_simp; try rfl)
            simp only [Act.put, List.setIfInBounds_toArray, List.set_cons_zero, List.set_cons_succ]
            refine takeInH 2 18 ?v48 rfl rfl (by kernel_rfl) (by kernel_rfl) (by kernel_rfl) (fun _ _ _ h => h) (by kernel_rfl) hS0 ?hy48 ?_
            case hy48 => (intro W hW; clear hW; go_simp; try rfl)
            simp only [Act.put, List.setIfInBounds_toArray, List.set_cons_zero, List.set_cons_succ]
            refine takeInH 3 19 ?v49 rfl rfl (by kernel_rfl) (by kernel_rfl) (by kernel_rfl) (fun _ _ _ h => h) (by kernel_rfl) hS0 ?hy49 ?_
            case hy49 => (intro W hW; have e0 := bcell hW c0; have e1 := bcell hW c1; have e2 := bcell hW c2; have e3 := bcell hW c3; have e4 := bcell hW c4; have e5 := bcell hW c5; have e6 := bcell hW d0; have e7 := bcell hW d1; have e8 := bcell hW d2; have e9 := bcell hW d3; have e10 := bcell hW d4; have e11 := bcell hW d5; clear hW; go_simp; try rfl)
            simp only [Act.put, List.setIfInBounds_toArray, List.set_cons_zero, List.set_cons_succ]
            refine takeInH 4 20 ?v50 rfl rfl (by kernel_rfl) (by kernel_rfl) (by kernel_rfl) (fun _ _ _ h => h) (by kernel_rfl) hS0 ?hy50 ?_
            case hy50 => (intro W hW; clear hW; go_simp; try rfl)
            simp only [Act.put, List.setIfInBounds_toArray, List.set_cons_zero, List.set_cons_succ]
            refine takeInH 5 21 ?v51 rfl rfl (by kernel_rfl) (by kernel_rfl) (by kernel_rfl) (fun _ _ _ h => h) (by kernel_rfl) hS0 ?hy51 ?_
            case hy51 => (intro W hW; clear hW; go_simp; try rfl)
            simp only [Act.put, List.setIfInBounds_toArray, List.set_cons_zero, List.set_cons_succ]
            refine takeInH 6 22 ?v52 rfl rfl (by kernel_rfl) (by kernel_rfl) (by kernel_rfl) (fun _ _ _ h => h) (by kernel_rfl) hS0 ?hy52 ?_
            case hy52 => (intro W hW; clear hW; go_simp; try rfl)
            simp only [Act.put, List.setIfInBounds_toArray, List.set_cons_zero, List.set_cons_succ]
            refine takeInH 7 23 ?v53 rfl rfl (by kernel_rfl) (by kernel_rfl) (by kernel_rfl) (fun _ _ _ h => h) (by kernel_rfl) hS0 ?hy53 ?_
            case hy53 => (intro W hW; have e0 := bcell hW c0; have e1 := bcell hW c1; have e2 := bcell hW c2; have e3 := bcell hW c3; have e4 := bcell hW c4; have e5 := bcell hW c5; have e6 := bcell hW d0; have e7 := bcell hW d1; have e8 := bcell hW d2; have e9 := bcell hW d3; have e10 := bcell hW d4; have e11 := bcell hW d5; clear hW; go_simp; try rfl)
            simp only [Act.put, List.setIfInBounds_toArray, List.set_cons_zero, List.set_cons_succ]
            refine takeInH 8 24 ?v54 rfl rfl (by kernel_rfl) (by kernel_rfl) (by kernel_rfl) (fun _ _ _ h => h) (by kernel_rfl) hS0 ?hy54 ?_
            case hy54 => (intro W hW; clear hW; go_simp; try rfl)
            simp only [Act.put, List.setIfInBounds_toArray, List.set_cons_zero, List.set_cons_succ]
            refine wpAnyH_done (by kernel_rfl) ?_ _
            go_wp2
            go_ret
            exact ⟨retB HE.out, bel_next hB.out (by assumption)⟩
        · skip
          have HE : Hid (false = decide (l = m)) := by unfold Hid; symm; rw [decide_eq_false_iff_not, hst.out, HXY.out]; rintro ⟨⟨h0, h1, h2, h3, h4, h5⟩, _⟩; contradiction
          clear hst HXY
          go_wp2
          refine wp_region_held_drew (S := fun W => Below wr.heap.size wr W) (by kernel_rfl) ((Below.refl _ wr).drew) (fun hS0 => ?_)
          refine takeInH 0 16 ?v55 rfl rfl (by kernel_rfl) (by kernel_rfl) (by kernel_rfl) (fun _ _ _ h => h) (by kernel_rfl) hS0 ?hy55 ?_
          case hy55 => (intro W hW; clear hW; go_simp; try rfl)
          simp only [Act.put, List.setIfInBounds_toArray, List.set_cons_zero, List.set_cons_succ]
          refine takeInH 1 17 ?v56 rfl rfl (by kernel_rfl) (by kernel_rfl) (by kernel_rfl) (fun _ _ _ h => h) (by kernel_rfl) hS0 ?hy56 ?_
          case hy56 => (intro W hW; clear hW; go_simp; try rfl)
          simp only [Act.put, List.setIfInBounds_toArray, List.set_cons_zero, List.set_cons_succ]
          refine takeInH 2 18 ?v57 rfl rfl (by kernel_rfl) (by kernel_rfl) (by kernel_rfl) (fun _ _ _ h => h) (by kernel_rfl) hS0 ?hy57 ?_
          case hy57 => (intro W hW; clear hW; go_simp; try rfl)
          simp only [Act.put, List.setIfInBounds_toArray, List.set_cons_zero, List.set_cons_succ]
          refine takeInH 3 19 ?v58 rfl rfl (by kernel_rfl) (by kernel_rfl) (by kernel_rfl) (fun _ _ _ h => h) (by kernel_rfl) hS0 ?hy58 ?_
          case hy58 => (intro W hW; have e0 := bcell hW c0; have e1 := bcell hW c1; have e2 := bcell hW c2; have e3 := bcell hW c3; have e4 := bcell hW c4; have e5 := bcell hW c5; have e6 := bcell hW d0; have e7 := bcell hW d1; have e8 := bcell hW d2; have e9 := bcell hW d3; have e10 := bcell hW d4; have e11 := bcell hW d5; clear hW; go_simp; try rfl)
          simp only [Act.put, List.setIfInBounds_toArray, List.set_cons_zero, List.set_cons_succ]
          refine takeInH 4 20 ?v59 rfl rfl (by kernel_rfl) (by kernel_rfl) (by kernel_rfl) (fun _ _ _ h => h) (by kernel_rfl) hS0 ?hy59 ?_
          case hy59 => (intro W hW; clear hW; go_simp; try rfl)
          simp only [Act.put, List.setIfInBounds_toArray, List.set_cons_zero, List.set_cons_succ]
          refine takeInH 5 21 ?v60 rfl rfl (by kernel_rfl) (by kernel_rfl) (by kernel_rfl) (fun _ _ _ h => h) (by kernel_rfl) hS0 ?hy60 ?_
          case hy60 => (intro W hW; clear hW; go_simp; try rfl)
          simp only [Act.put, List.setIfInBounds_toArray, List.set_cons_zero, List.set_cons_succ]
          refine takeInH 6 22 ?v61 rfl rfl (by kernel_rfl) (by kernel_rfl) (by kernel_rfl) (fun _ _ _ h => h) (by kernel_rfl) hS0 ?hy61 ?_
          case hy61 => (intro W hW; clear hW; go_simp; try rfl)
          simp only [Act.put, List.setIfInBounds_toArray, List.set_cons_zero, List.set_cons_succ]
          refine takeInH 7 23 ?v62 rfl rfl (by kernel_rfl) (by kernel_rfl) (by kernel_rfl) (fun _ _ _ h => h) (by kernel_rfl) hS0 ?hy62 ?_
          case hy62 => (intro W hW; have e0 := bcell hW c0; have e1 := bcell hW c1; have e2 := bcell hW c2; have e3 := bcell hW c3; have e4 := bcell hW c4; have e5 := bcell hW c5; have e6 := bcell hW d0; have e7 := bcell hW d1; have e8 := bcell hW d2; have e9 := bcell hW d3; have e10 := bcell hW d4; have e11 := bcell hW d5; clear hW; go_simp; try rfl)
          simp only [Act.put, List.setIfInBounds_toArray, List.set_cons_zero, List.set_cons_succ]
          refine takeInH 8 24 ?v63 rfl rfl (by kernel_rfl) (by kernel_rfl) (by kernel_rfl) (fun _ _ _ h => h) (by kernel_rfl) hS0 ?hy63 ?_
          case hy63 => (intro W hW; clear hW; go_simp; try rfl)
          simp only [Act.put, List.setIfInBounds_toArray, List.set_cons_zero, List.set_cons_succ]
          refine wpAnyH_done (by kernel_rfl) ?_ _
          go_wp2
          go_ret
          exact ⟨retB HE.out, bel_next hB.out (by assumption)⟩
      · have hkl : k = n := by omega
        subst hkl
        have HE : Hid (true = decide (l = m)) := by
          have h2 := hH.out
          rw [List.drop_of_length_le (by rw [HL.out]; exact Nat.le_refl _), List.drop_of_length_le (by rw [HL'.out]; exact Nat.le_refl _)] at h2
          unfold Hid; symm; rw [decide_eq_true_iff, h2]
        go_wp2
        go_ret
        exact ⟨retB HE.out, hB.out⟩
  · have HE : Hid (false = decide (l = m)) := by
      unfold Hid; symm; rw [decide_eq_false_iff_not]
      intro h
      rw [h] at HL
      have h1 := HL.out
      have h2 := HL'.out
      omega
    have hn1 : ((n : Int) == (n' : Int)) = false := by simp; omega
    have hn2 : ¬ (n : Int) = (n' : Int) := by omega
    have hn3 : ((n : Int) != (n' : Int)) = true := by simp; omega
    go_enter Try.func31, Try.ntmps31
    go_wp2
    go_ret
    exact ⟨retB HE.out, Below.refl _ _⟩
def sameB (x y : Evt) : Bool := decide (x.1 = y.1) && decide (x.2.1 = y.2.1) && decide (x.2.2 = y.2.2)
theorem sameB_iff {r s r' s' : Int} {c c' : List Int} {l l' : List Eff} : sameB ((r, s), c, l) ((r', s'), c', l') = true ↔ (r = r' ∧ s = s') ∧ c = c' ∧ l = l' := by simp [sameB, and_assoc]
theorem sameB_self (x : Evt) : sameB x x = true := by simp [sameB]
set_option maxHeartbeats 4000000 in
theorem SameE_any (r s : Int) (pa : Option Addr) (na ca : Nat) (pe : Option Addr) (ne ce : Nat) (r' s' : Int) (pb : Option Addr) (nb cb : Nat) (pf : Option Addr) (nf cf : Nat) (c c' : List Int) (l l' : List Eff) (w : World) (hN : NS w pa na c) (hN' : NS w pb nb c') (hE : ES w pe ne l) (hE' : ES w pf nf l') :
    Calls Try.prog 12 #[.agg #[.int .i64 r, .int .i64 s, .slice pa na ca, .slice pe ne ce], .agg #[.int .i64 r', .int .i64 s', .slice pb nb cb, .slice pf nf cf]] w fun e w' => e = .returned (.bool (sameB ((r, s), c, l) ((r', s'), c', l'))) ∧ Below w.heap.size w w' := by
  have HU := hide (bel2 w (bxE r s pa na ca pe ne ce) (bxE r' s' pb nb cb pf nf cf))
  have N1 := hide ((hN.alloc (bxE r s pa na ca pe ne ce)).alloc (bxE r' s' pb nb cb pf nf cf))
  have N2 := hide ((hN'.alloc (bxE r s pa na ca pe ne ce)).alloc (bxE r' s' pb nb cb pf nf cf))
  have E1 := hide ((hE.alloc (bxE r s pa na ca pe ne ce)).alloc (bxE r' s' pb nb cb pf nf cf))
  have E2 := hide ((hE'.alloc (bxE r s pa na ca pe ne ce)).alloc (bxE r' s' pb nb cb pf nf cf))
  have X1 := hide ((BX.new w _ rfl #[.int .i64 r, .int .i64 s, .slice pa na ca, .slice pe ne ce] 28).alloc (bxE r' s' pb nb cb pf nf cf))
  have X2 := hide (BX.new (w.alloc (bxE r s pa na ca pe ne ce)) (w.heap.size + 1) (by simp) #[.int .i64 r', .int .i64 s', .slice pb nb cb, .slice pf nf cf] 28)
  have HC := hide (fun W (h1 : NS W pa na c) (h2 : NS W pb nb c') => equalC_any pa pb na ca nb cb c c' W h1 h2)
  have HF := hide (fun W (h1 : ES W pe ne l) (h2 : ES W pf nf l') => equalF_any pe pf ne ce nf cf l l' W h1 h2)
  clear hN hN' hE hE'
  by_cases h1 : r = r'
  · by_cases h2 : s = s'
    · rcases hc : decide (c = c') with _ | _
      · have HE : Hid (false = sameB ((r, s), c, l) ((r', s'), c', l')) := by unfold Hid; symm; rw [← Bool.not_eq_true, sameB_iff]; rintro ⟨_, h, _⟩; exact (decide_eq_false_iff_not.1 hc) h
        rw [hc] at HC
        clear hc
        subst h1 h2
        go_enter Try.func12, Try.ntmps12
        go_wp2_with (go_at_call 30; refine (HC.out _ N1.out N2.out).mono ?_; rintro e u ⟨rfl, hb⟩)
        go_ret
        exact ⟨retB HE.out, bel_next HU.out hb⟩
      · have HE : Hid (decide (l = l') = sameB ((r, s), c, l) ((r', s'), c', l')) := by unfold Hid; have h := of_decide_eq_true hc; rw [Bool.eq_iff_iff, sameB_iff, decide_eq_true_iff]; simp [h1, h2, h]
        rw [hc] at HC
        clear hc
        subst h1 h2
        generalize decide (l = l') = bb at HF HE
        go_enter Try.func12, Try.ntmps12
        go_wp2_with (first
          | (go_at_call 30; refine (HC.out _ N1.out N2.out).mono ?_; rintro e u ⟨rfl, hb⟩; replace E1 := hide (E1.out.below hb); replace E2 := hide (E2.out.below hb); replace HU := hide (bel_next HU.out hb); have x3 := (X1.out.below hb).cell 3 _ rfl; have y3 := (X2.out.below hb).cell 3 _ rfl; clear hb)
          | (go_at_call 31; refine (HF.out _ E1.out E2.out).mono ?_; rintro e u2 ⟨rfl, hb⟩))
        go_ret
        exact ⟨retB HE.out, bel_next HU.out hb⟩
    · have HE : Hid (false = sameB ((r, s), c, l) ((r', s'), c', l')) := by unfold Hid; symm; rw [← Bool.not_eq_true, sameB_iff]; rintro ⟨⟨_, h⟩, _⟩; exact h2 h
      subst h1
      go_enter Try.func12, Try.ntmps12
      go_wp2
      go_ret
      exact ⟨retB HE.out, HU.out⟩
  · have HE : Hid (false = sameB ((r, s), c, l) ((r', s'), c', l')) := by unfold Hid; symm; rw [← Bool.not_eq_true, sameB_iff]; rintro ⟨⟨h, _⟩, _⟩; exact h1 h
    go_enter Try.func12, Try.ntmps12
    go_wp2
    go_ret
    exact ⟨retB HE.out, HU.out⟩
set_option maxHeartbeats 4000000 in
theorem SameR_evt (r s : Int) (pa : Option Addr) (na ca : Nat) (pe : Option Addr) (ne ce : Nat) (r' s' : Int) (pb : Option Addr) (nb cb : Nat) (pf : Option Addr) (nf cf : Nat) (c c' : List Int) (l m : List Eff) (w : World) (hN : NS w pa na c) (hN' : NS w pb nb c') (hE : ES w pe ne l) (hE' : ES w pf nf m) :
    Calls Try.prog 13 #[.agg #[.int .i64 r, .int .i64 s, .slice pa na ca, .slice pe ne ce], .agg #[.int .i64 r', .int .i64 s', .slice pb nb cb, .slice pf nf cf]] w fun e w' => e = .returned (.bool (sameB ((r, s), c, l) ((r', s'), c', m))) ∧ Below w.heap.size w w' := by
  have HU := hide (bel2 w (bxE r s pa na ca pe ne ce) (bxE r' s' pb nb cb pf nf cf))
  have N1 := hide ((hN.alloc (bxE r s pa na ca pe ne ce)).alloc (bxE r' s' pb nb cb pf nf cf))
  have N2 := hide ((hN'.alloc (bxE r s pa na ca pe ne ce)).alloc (bxE r' s' pb nb cb pf nf cf))
  have E1 := hide ((hE.alloc (bxE r s pa na ca pe ne ce)).alloc (bxE r' s' pb nb cb pf nf cf))
  have E2 := hide ((hE'.alloc (bxE r s pa na ca pe ne ce)).alloc (bxE r' s' pb nb cb pf nf cf))
  have X1 := hide ((BX.new w _ rfl #[.int .i64 r, .int .i64 s, .slice pa na ca, .slice pe ne ce] 28).alloc (bxE r' s' pb nb cb pf nf cf))
  have X2 := hide (BX.new (w.alloc (bxE r s pa na ca pe ne ce)) (w.heap.size + 1) (by simp) #[.int .i64 r', .int .i64 s', .slice pb nb cb, .slice pf nf cf] 28)
  have HC := hide (fun W (h1 : NS W pa na c) (h2 : NS W pb nb c') => same_any pa pb na ca nb cb c c' W h1 h2)
  have hmx := hE.1.2.1
  have hmy := hE'.1.2.1
  unfold maxLen at hmx hmy
  have HL := hide hE.1.1
  have HL' := hide hE'.1.1
  clear hN hN' hE hE'
  by_cases h1 : r = r'
  · by_cases h2 : s = s'
    · rcases hc : decide (c = c') with _ | _
      · have HE : Hid (false = sameB ((r, s), c, l) ((r', s'), c', m)) := by unfold Hid; symm; rw [← Bool.not_eq_true, sameB_iff]; rintro ⟨_, h, _⟩; exact (decide_eq_false_iff_not.1 hc) h
        rw [hc] at HC
        clear hc
        subst h1 h2
        go_enter Try.func13, Try.ntmps13
        go_wp2_with (go_at_call 32; refine (HC.out _ N1.out N2.out).mono ?_; rintro e u ⟨rfl, hb⟩)
        go_ret
        exact ⟨retB HE.out, bel_next HU.out hb⟩
      · have HQ0 : Hid (sameB ((r, s), c, l) ((r', s'), c', m) = decide (l = m)) := by unfold Hid; have h := of_decide_eq_true hc; rw [Bool.eq_iff_iff, sameB_iff, decide_eq_true_iff]; simp [h1, h2, h]
        rw [hc] at HC
        clear hc
        subst h1 h2
        by_cases hnn : ne = nf
        · subst hnn
          go_enter Try.func13, Try.ntmps13
          go_wp2_with (go_at_call 32; refine (HC.out _ N1.out N2.out).mono ?_; rintro e u ⟨rfl, hb⟩; have HE1 := hide (E1.out.below hb); have HE2 := hide (E2.out.below hb); have HV := hide (bel_next HU.out hb); have X1u := hide (X1.out.below hb); have X2u := hide (X2.out.below hb); have x3 := X1u.out.cell 3 _ rfl; have y3 := X2u.out.cell 3 _ rfl; clear hb N1 N2 E1 E2 X1 X2 HU)
          clear x3 y3
          go_loopw [5] (fun i wr => ∃ k : Nat, k ≤ ne ∧ i = .int .i64 k ∧ Hid (Below u.heap.size u wr) ∧ Hid ((l = m) ↔ (l.drop k = m.drop k))) (fun i _ => ne - (intOf i).toNat)
          case atStart => exact ⟨0, by omega, rfl, Below.refl _ _, by unfold Hid; simp⟩
          case round =>
            obtain ⟨k, hk, rfl, hB, hH⟩ := hrel
            by_cases hlt : k < ne
            · skip
              obtain ⟨x, hx⟩ : ∃ x, l[k]? = some x := ⟨_, List.getElem?_eq_getElem (by rw [HL.out]; exact hlt)⟩
              obtain ⟨y, hy⟩ : ∃ y, m[k]? = some y := ⟨_, List.getElem?_eq_getElem (by rw [HL'.out]; exact hlt)⟩
              rcases HE1.out.1.2.2 with h0 | ⟨b, off, rfl, _⟩
              · omega
              rcases HE2.out.1.2.2 with h0 | ⟨b', off', rfl, _⟩
              · omega
              obtain ⟨c0, c1, c2, c3, c4, c5⟩ := HE1.out.at k x hx
              obtain ⟨d0, d1, d2, d3, d4, d5⟩ := HE2.out.at k y hy
              replace c0 := bcell hB.out c0
              replace c1 := bcell hB.out c1
              replace c2 := bcell hB.out c2
              replace c3 := bcell hB.out c3
              replace c4 := bcell hB.out c4
              replace c5 := bcell hB.out c5
              replace d0 := bcell hB.out d0
              replace d1 := bcell hB.out d1
              replace d2 := bcell hB.out d2
              replace d3 := bcell hB.out d3
              replace d4 := bcell hB.out d4
              replace d5 := bcell hB.out d5
              have hst : Hid ((l = m) ↔ (x = y ∧ l.drop (k + 1) = m.drop (k + 1))) := by unfold Hid; rw [← eq_dropE hx hy]; exact hH.out
              have hxy := eff_eq x y (HE1.out.2 x (List.mem_of_getElem? hx)) (HE2.out.2 y (List.mem_of_getElem? hy))
              clear hx hy hH
              obtain ⟨xk, xo, xky, xn, xt, xw⟩ := x
              obtain ⟨yk, yo, yky, yn, yt, yw⟩ := y
              have HXY := hide hxy
              clear hxy
              simp only [] at HXY c0 c1 c2 c3 c4 c5 d0 d1 d2 d3 d4 d5
              generalize strOfNums xky = sk at *
              generalize strOfNums xw = sw at *
              generalize strOfNums yky = sk' at *
              generalize strOfNums yw = sw' at *
              have x3 := (X1u.out.below hB.out).cell 3 _ rfl
              have y3 := (X2u.out.below hB.out).cell 3 _ rfl
              by_cases q0 : xk = yk
              · skip
                by_cases q1 : xo = yo
                · skip
                  by_cases q2 : sk.toList = sk'.toList
                  · skip
                    by_cases q3 : xn = yn
                    · skip
                      by_cases q4 : xt = yt
                      · skip
                        by_cases q5 : sw.toList = sw'.toList
                        · skip
                          have hst2 : Hid ((l = m) ↔ (l.drop (k + 1) = m.drop (k + 1))) := by unfold Hid; rw [hst.out, HXY.out]; simp [q0, q1, q2, q3, q4, q5]
                          clear hst HXY
                          go_wp2
                          refine wp_region_held_drew (S := fun W => Below wr.heap.size wr W) (by kernel_rfl) ((Below.refl _ wr).drew) (fun hS0 => ?_)
                          refine takeInH 0 35 ?v64 rfl rfl (by kernel_rfl) (by kernel_rfl) (by kernel_rfl) (fun _ _ _ h => h) (by kernel_rfl) hS0 ?hy64 ?_
                          case hy64 => (intro W hW; clear hW; go_simp; try rfl)
                          simp only [Act.put, List.setIfInBounds_toArray, List.set_cons_zero, List.set_cons_succ]
                          refine takeInH 1 36 ?v65 rfl rfl (by kernel_rfl) (by kernel_rfl) (by kernel_rfl) (fun _ _ _ h => h) (by kernel_rfl) hS0 ?hy65 ?_
                          case hy65 => (intro W hW; have e0 := bcell hW c0; have e1 := bcell hW c1; have e2 := bcell hW c2; have e3 := bcell hW c3; have e4 := bcell hW c4; have e5 := bcell hW c5; have e6 := bcell hW d0; have e7 := bcell hW d1; have e8 := bcell hW d2; have e9 := bcell hW d3; have e10 := bcell hW d4; have e11 := bcell hW d5; have e12 := bcell hW x3; have e13 := bcell hW y3; clear hW; go_simp; try rfl)
                          simp only [Act.put, List.setIfInBounds_toArray, List.set_cons_zero, List.set_cons_succ]
                          refine takeInH 2 37 ?v66 rfl rfl (by kernel_rfl) (by kernel_rfl) (by kernel_rfl) (fun _ _ _ h => h) (by kernel_rfl) hS0 ?hy66 ?_
                          case hy66 => (intro W hW; clear hW; go_simp; try rfl)
                          simp only [Act.put, List.setIfInBounds_toArray, List.set_cons_zero, List.set_cons_succ]
                          refine takeInH 3 38 ?v67 rfl rfl (by kernel_rfl) (by kernel_rfl) (by kernel_rfl) (fun _ _ _ h => h) (by kernel_rfl) hS0 ?hy67 ?_
                          case hy67 => (intro W hW; clear hW; go_simp; try rfl)
                          simp only [Act.put, List.setIfInBounds_toArray, List.set_cons_zero, List.set_cons_succ]
                          refine takeInH 4 39 ?v68 rfl rfl (by kernel_rfl) (by kernel_rfl) (by kernel_rfl) (fun _ _ _ h => h) (by kernel_rfl) hS0 ?hy68 ?_
                          case hy68 => (intro W hW; have e0 := bcell hW c0; have e1 := bcell hW c1; have e2 := bcell hW c2; have e3 := bcell hW c3; have e4 := bcell hW c4; have e5 := bcell hW c5; have e6 := bcell hW d0; have e7 := bcell hW d1; have e8 := bcell hW d2; have e9 := bcell hW d3; have e10 := bcell hW d4; have e11 := bcell hW d5; have e12 := bcell hW x3; have e13 := bcell hW y3; clear hW; go_simp; try rfl)
                          simp only [Act.put, List.setIfInBounds_toArray, List.set_cons_zero, List.set_cons_succ]
                          refine takeInH 5 40 ?v69 rfl rfl (by kernel_rfl) (by kernel_rfl) (by kernel_rfl) (fun _ _ _ h => h) (by kernel_rfl) hS0 ?hy69 ?_
                          case hy69 => (intro W hW; clear hW; go_simp; try rfl)
                          simp only [Act.put, List.setIfInBounds_toArray, List.set_cons_zero, List.set_cons_succ]
                          refine takeInH 6 41 ?v70 rfl rfl (by kernel_rfl) (by kernel_rfl) (by kernel_rfl) (fun _ _ _ h => h) (by kernel_rfl) hS0 ?hy70 ?_
                          case hy70 => (intro W hW; have e0 := bcell hW c0; have e1 := bcell hW c1; have e2 := bcell hW c2; have e3 := bcell hW c3; have e4 := bcell hW c4; have e5 := bcell hW c5; have e6 := bcell hW d0; have e7 := bcell hW d1; have e8 := bcell hW d2; have e9 := bcell hW d3; have e10 := bcell hW d4; have e11 := bcell hW d5; have e12 := bcell hW x3; have e13 := bcell hW y3; clear hW; go_simp; try rfl)
                          simp only [Act.put, List.setIfInBounds_toArray, List.set_cons_zero, List.set_cons_succ]
                          refine takeInH 7 42 ?v71 rfl rfl (by kernel_rfl) (by kernel_rfl) (by kernel_rfl) (fun _ _ _ h => h) (by kernel_rfl) hS0 ?hy71 ?_
                          case hy71 => (intro W hW; clear hW; go_simp; try rfl)
                          simp only [Act.put, List.setIfInBounds_toArray, List.set_cons_zero, List.set_cons_succ]
                          refine takeInH 8 43 ?v72 rfl rfl (by kernel_rfl) (by kernel_rfl) (by kernel_rfl) (fun _ _ _ h => h) (by kernel_rfl) hS0 ?hy72 ?_
                          case hy72 => (intro W hW; clear hW; go_simp; try rfl)
                          simp only [Act.put, List.setIfInBounds_toArray, List.set_cons_zero, List.set_cons_succ]
                          refine takeInH 9 44 ?v73 rfl rfl (by kernel_rfl) (by kernel_rfl) (by kernel_rfl) (fun _ _ _ h => h) (by kernel_rfl) hS0 ?hy73 ?_
                          case hy73 => (intro W hW; have e0 := bcell hW c0; have e1 := bcell hW c1; have e2 := bcell hW c2; have e3 := bcell hW c3; have e4 := bcell hW c4; have e5 := bcell hW c5; have e6 := bcell hW d0; have e7 := bcell hW d1; have e8 := bcell hW d2; have e9 := bcell hW d3; have e10 := bcell hW d4; have e11 := bcell hW d5; have e12 := bcell hW x3; have e13 := bcell hW y3; clear hW; go_simp; try rfl)
                          simp only [Act.put, List.setIfInBounds_toArray, List.set_cons_zero, List.set_cons_succ]
                          refine takeInH 10 45 ?v74 rfl rfl (by kernel_rfl) (by kernel_rfl) (by kernel_rfl) (fun _ _ _ h => h) (by kernel_rfl) hS0 ?hy74 ?_
                          case hy74 => (intro W hW; clear hW; go_simp; try rfl)
                          simp only [Act.put, List.setIfInBounds_toArray, List.set_cons_zero, List.set_cons_succ]
                          refine wpAnyH_done (by kernel_rfl) ?_ _
                          go_wp2
                          go_roundw
                          case rel => exact ⟨k + 1, by omega, by go_num, bel_next hB.out (by assumption), hst2⟩
                          case measure => simp [intOf]; omega
                        · skip
                          have HE : Hid (false = sameB ((r, s), c, l) ((r, s), c', m)) := by unfold Hid; rw [HQ0.out]; symm; rw [decide_eq_false_iff_not, hst.out, HXY.out]; rintro ⟨⟨h0, h1, h2, h3, h4, h5⟩, _⟩; contradiction
                          clear hst HXY
                          go_wp2
                          refine wp_region_held_drew (S := fun W => Below wr.heap.size wr W) (by kernel_rfl) ((Below.refl _ wr).drew) (fun hS0 => ?_)
                          refine takeInH 0 35 ?v75 rfl rfl (by kernel_rfl) (by kernel_rfl) (by kernel_rfl) (fun _ _ _ h => h) (by kernel_rfl) hS0 ?hy75 ?_
                          case hy75 => (intro W hW; clear hW; go_simp; try rfl)
                          simp only [Act.put, List.setIfInBounds_toArray, List.set_cons_zero, List.set_cons_succ]
                          refine takeInH 1 36 ?v76 rfl rfl (by kernel_rfl) (by kernel_rfl) (by kernel_rfl) (fun _ _ _ h => h) (by kernel_rfl) hS0 ?hy76 ?_
                          case hy76 => (intro W hW; have e0 := bcell hW c0; have e1 := bcell hW c1; have e2 := bcell hW c2; have e3 := bcell hW c3; have e4 := bcell hW c4; have e5 := bcell hW c5; have e6 := bcell hW d0; have e7 := bcell hW d1; have e8 := bcell hW d2; have e9 := bcell hW d3; have e10 := bcell hW d4; have e11 := bcell hW d5; have e12 := bcell hW x3; have e13 := bcell hW y3; clear hW; go_simp; try rfl)
                          simp only [Act.put, List.setIfInBounds_toArray, List.set_cons_zero, List.set_cons_succ]
                          refine takeInH 2 37 ?v77 rfl rfl (by kernel_rfl) (by kernel_rfl) (by kernel_rfl) (fun _ _ _ h => h) (by kernel_rfl) hS0 ?hy77 ?_
                          case hy77 => (intro W hW; clear hW; go_simp; try rfl)
                          simp only [Act.put, List.setIfInBounds_toArray, List.set_cons_zero, List.set_cons_succ]
                          refine takeInH 3 38 ?v78 rfl rfl (by kernel_rfl) (by kernel_rfl) (by kernel_rfl) (fun _ _ _ h => h) (by kernel_rfl) hS0 ?hy78 ?_
                          case hy78 => (intro W hW; clear hW; go_simp; try rfl)
                          simp only [Act.put, List.setIfInBounds_toArray, List.set_cons_zero, List.set_cons_succ]
                          refine takeInH 4 39 ?v79 rfl rfl (by kernel_rfl) (by kernel_rfl) (by kernel_rfl) (fun _ _ _ h => h) (by kernel_rfl) hS0 ?hy79 ?_
                          case hy79 => (intro W hW; have e0 := bcell hW c0; have e1 := bcell hW c1; have e2 := bcell hW c2; have e3 := bcell hW c3; have e4 := bcell hW c4; have e5 := bcell hW c5; have e6 := bcell hW d0; have e7 := bcell hW d1; have e8 := bcell hW d2; have e9 := bcell hW d3; have e10 := bcell hW d4; have e11 := bcell hW d5; have e12 := bcell hW x3; have e13 := bcell hW y3; clear hW; go_simp; try rfl)
                          simp only [Act.put, List.setIfInBounds_toArray, List.set_cons_zero, List.set_cons_succ]
                          refine takeInH 5 40 ?v80 rfl rfl (by kernel_rfl) (by kernel_rfl) (by kernel_rfl) (fun _ _ _ h => h) (by kernel_rfl) hS0 ?hy80 ?_
                          case hy80 => (intro W hW; clear hW; go_simp; try rfl)
                          simp only [Act.put, List.setIfInBounds_toArray, List.set_cons_zero, List.set_cons_succ]
                          refine takeInH 6 41 ?v81 rfl rfl (by kernel_rfl) (by kernel_rfl) (by kernel_rfl) (fun _ _ _ h => h) (by kernel_rfl) hS0 ?hy81 ?_
                          case hy81 => (intro W hW; have e0 := bcell hW c0; have e1 := bcell hW c1; have e2 := bcell hW c2; have e3 := bcell hW c3; have e4 := bcell hW c4; have e5 := bcell hW c5; have e6 := bcell hW d0; have e7 := bcell hW d1; have e8 := bcell hW d2; have e9 := bcell hW d3; have e10 := bcell hW d4; have e11 := bcell hW d5; have e12 := bcell hW x3; have e13 := bcell hW y3; clear hW; go_simp; try rfl)
                          simp only [Act.put, List.setIfInBounds_toArray, List.set_cons_zero, List.set_cons_succ]
                          refine takeInH 7 42 ?v82 rfl rfl (by kernel_rfl) (by kernel_rfl) (by kernel_rfl) (fun _ _ _ h => h) (by kernel_rfl) hS0 ?hy82 ?_
                          case hy82 => (intro W hW; clear hW; go_simp; try rfl)
                          simp only [Act.put, List.setIfInBounds_toArray, List.set_cons_zero, List.set_cons_succ]
                          refine takeInH 8 43 ?v83 rfl rfl (by kernel_rfl) (by kernel_rfl) (by kernel_rfl) (fun _ _ _ h => h) (by kernel_rfl) hS0 ?hy83 ?_
                          case hy83 => (intro W hW; clear hW; go_simp; try rfl)
                          simp only [Act.put, List.setIfInBounds_toArray, List.set_cons_zero, List.set_cons_succ]
                          refine takeInH 9 44 ?v84 rfl rfl (by kernel_rfl) (by kernel_rfl) (by kernel_rfl) (fun _ _ _ h => h) (by kernel_rfl) hS0 ?hy84 ?_
                          case hy84 => (intro W hW; have e0 := bcell hW c0; have e1 := bcell hW c1; have e2 := bcell hW c2; have e3 := bcell hW c3; have e4 := bcell hW c4; have e5 := bcell hW c5; have e6 := bcell hW d0; have e7 := bcell hW d1; have e8 := bcell hW d2; have e9 := bcell hW d3; have e10 := bcell hW d4; have e11 := bcell hW d5; have e12 := bcell hW x3; have e13 := bcell hW y3; clear hW; go_simp; try rfl)
                          simp only [Act.put, List.setIfInBounds_toArray, List.set_cons_zero, List.set_cons_succ]
                          refine takeInH 10 45 ?v85 rfl rfl (by kernel_rfl) (by kernel_rfl) (by kernel_rfl) (fun _ _ _ h => h) (by kernel_rfl) hS0 ?hy85 ?_
                          case hy85 => (intro W hW; clear hW; go_simp; try rfl)
                          simp only [Act.put, List.setIfInBounds_toArray, List.set_cons_zero, List.set_cons_succ]
                          refine wpAnyH_done (by kernel_rfl) ?_ _
                          go_wp2
                          go_ret
                          exact ⟨retB HE.out, bel_next HV.out (bel_next hB.out (by assumption))⟩
                      · skip
                        have HE : Hid (false = sameB ((r, s), c, l) ((r, s), c', m)) := by unfold Hid; rw [HQ0.out]; symm; rw [decide_eq_false_iff_not, hst.out, HXY.out]; rintro ⟨⟨h0, h1, h2, h3, h4, h5⟩, _⟩; contradiction
                        clear hst HXY
                        go_wp2
                        refine wp_region_held_drew (S := fun W => Below wr.heap.size wr W) (by kernel_rfl) ((Below.refl _ wr).drew) (fun hS0 => ?_)
                        refine takeInH 0 35 ?v86 rfl rfl (by kernel_rfl) (by kernel_rfl) (by kernel_rfl) (fun _ _ _ h => h) (by kernel_rfl) hS0 ?hy86 ?_
                        case hy86 => (intro W hW; clear hW; go_simp; try rfl)
                        simp only [Act.put, List.setIfInBounds_toArray, List.set_cons_zero, List.set_cons_succ]
                        refine takeInH 1 36 ?v87 rfl rfl (by kernel_rfl) (by kernel_rfl) (by kernel_rfl) (fun _ _ _ h => h) (by kernel_rfl) hS0 ?hy87 ?_
                        case hy87 => (intro W hW; have e0 := bcell hW c0; have e1 := bcell hW c1; have e2 := bcell hW c2; have e3 := bcell hW c3; have e4 := bcell hW c4; have e5 := bcell hW c5; have e6 := bcell hW d0; have e7 := bcell hW d1; have e8 := bcell hW d2; have e9 := bcell hW d3; have e10 := bcell hW d4; have e11 := bcell hW d5; have e12 := bcell hW x3; have e13 := bcell hW y3; clear hW; go_simp; try rfl)
                        simp only [Act.put, List.setIfInBounds_toArray, List.set_cons_zero, List.set_cons_succ]
                        refine takeInH 2 37 ?v88 rfl rfl (by kernel_rfl) (by kernel_rfl) (by kernel_rfl) (fun _ _ _ h => h) (by kernel_rfl) hS0 ?hy88 ?_
                        case hy88 => (intro W hW; clear hW; go_simp; try rfl)
                        simp only [Act.put, List.setIfInBounds_toArray, List.set_cons_zero, List.set_cons_succ]
                        refine takeInH 3 38 ?v89 rfl rfl (by kernel_rfl) (by kernel_rfl) (by kernel_rfl) (fun _ _ _ h => h) (by kernel_rfl) hS0 ?hy89 ?_
                        case hy89 => (intro W hW; clear hW; go_simp; try rfl)
                        simp only [Act.put, List.setIfInBounds_toArray, List.set_cons_zero, List.set_cons_succ]
                        refine takeInH 4 39 ?v90 rfl rfl (by kernel_rfl) (by kernel_rfl) (by kernel_rfl) (fun _ _ _ h => h) (by kernel_rfl) hS0 ?hy90 ?_
                        case hy90 => (intro W hW; have e0 := bcell hW c0; have e1 := bcell hW c1; have e2 := bcell hW c2; have e3 := bcell hW c3; have e4 := bcell hW c4; have e5 := bcell hW c5; have e6 := bcell hW d0; have e7 := bcell hW d1; have e8 := bcell hW d2; have e9 := bcell hW d3; have e10 := bcell hW d4; have e11 := bcell hW d5; have e12 := bcell hW x3; have e13 := bcell hW y3; clear hW; go_simp; try rfl)
                        simp only [Act.put, List.setIfInBounds_toArray, List.set_cons_zero, List.set_cons_succ]
                        refine takeInH 5 40 ?v91 rfl rfl (by kernel_rfl) (by kernel_rfl) (by kernel_rfl) (fun _ _ _ h => h) (by kernel_rfl) hS0 ?hy91 ?_
                        case hy91 => (intro W hW; clear hW; go_simp; try rfl)
                        simp only [Act.put, List.setIfInBounds_toArray, List.set_cons_zero, List.set_cons_succ]
                        refine takeInH 6 41 ?v92 rfl rfl (by kernel_rfl) (by kernel_rfl) (by kernel_rfl) (fun _ _ _ h => h) (by kernel_rfl) hS0 ?hy92 ?_
                        case hy92 => (intro W hW; have e0 := bcell hW c0; have e1 := bcell hW c1; have e2 := bcell hW c2; have e3 := bcell hW c3; have e4 := bcell hW c4; have e5 := bcell hW c5; have e6 := bcell hW d0; have e7 := bcell hW d1; have e8 := bcell hW d2; have e9 := bcell hW d3; have e10 := bcell hW d4; have e11 := bcell hW d5; have e12 := bcell hW x3; have e13 := bcell hW y3; clear hW; go_simp; try rfl)
                        simp only [Act.put, List.setIfInBounds_toArray, List.set_cons_zero, List.set_cons_succ]
                        refine takeInH 7 42 ?v93 rfl rfl (by kernel_rfl) (by kernel_rfl) (by kernel_rfl) (fun _ _ _ h => h) (by kernel_rfl) hS0 ?hy93 ?_
                        case hy93 => (intro W hW; clear hW; go_simp; try rfl)
                        simp only [Act.put, List.setIfInBounds_toArray, List.set_cons_zero, List.set_cons_succ]
                        refine takeInH 8 43 ?v94 rfl rfl (by kernel_rfl) (by kernel_rfl) (by kernel_rfl) (fun _ _ _ h => h) (by kernel_rfl) hS0 ?hy94 ?_
                        case hy94 => (intro W hW; clear hW; go_simp; try rfl)
                        simp only [Act.put, List.setIfInBounds_toArray, List.set_cons_zero, List.set_cons_succ]
                        refine takeInH 9 44 ?v95 rfl rfl (by kernel_rfl) (by kernel_rfl) (by kernel_rfl) (fun _ _ _ h => h) (by kernel_rfl) hS0 ?hy95 ?_
                        case hy95 => (intro W hW; have e0 := bcell hW c0; have e1 := bcell hW c1; have e2 := bcell hW c2; have e3 := bcell hW c3; have e4 := bcell hW c4; have e5 := bcell hW c5; have e6 := bcell hW d0; have e7 := bcell hW d1; have e8 := bcell hW d2; have e9 := bcell hW d3; have e10 := bcell hW d4; have e11 := bcell hW d5; have e12 := bcell hW x3; have e13 := bcell hW y3; clear hW; go_simp; try rfl)
                        simp only [Act.put, List.setIfInBounds_toArray, List.set_cons_zero, List.set_cons_succ]
                        refine takeInH 10 45 ?v96 rfl rfl (by kernel_rfl) (by kernel_rfl) (by kernel_rfl) (fun _ _ _ h => h) (by kernel_rfl) hS0 ?hy96 ?_
                        case hy96 => (intro W hW; clear hW; go_simp; try rfl)
                        simp only [Act.put, List.setIfInBounds_toArray, List.set_cons_zero, List.set_cons_succ]
                        refine wpAnyH_done (by kernel_rfl) ?_ _
                        go_wp2
                        go_ret
                        exact ⟨retB HE.out, bel_next HV.out (bel_next hB.out (by assumption))⟩
                    · skip
                      have HE : Hid (false = sameB ((r, s), c, l) ((r, s), c', m)) := by unfold Hid; rw [HQ0.out]; symm; rw [decide_eq_false_iff_not, hst.out, HXY.out]; rintro ⟨⟨h0, h1, h2, h3, h4, h5⟩, _⟩; contradiction
                      clear hst HXY
                      go_wp2
                      refine wp_region_held_drew (S := fun W => Below wr.heap.size wr W) (by kernel_rfl) ((Below.refl _ wr).drew) (fun hS0 => ?_)
                      refine takeInH 0 35 ?v97 rfl rfl (by kernel_rfl) (by kernel_rfl) (by kernel_rfl) (fun _ _ _ h => h) (by kernel_rfl) hS0 ?hy97 ?_
                      case hy97 => (intro W hW; clear hW; go_simp; try rfl)
                      simp only [Act.put, List.setIfInBounds_toArray, List.set_cons_zero, List.set_cons_succ]
                      refine takeInH 1 36 ?v98 rfl rfl (by kernel_rfl) (by kernel_rfl) (by kernel_rfl) (fun _ _ _ h => h) (by kernel_rfl) hS0 ?hy98 ?_
                      case hy98 => (intro W hW; have e0 := bcell hW c0; have e1 := bcell hW c1; have e2 := bcell hW c2; have e3 := bcell hW c3; have e4 := bcell hW c4; have e5 := bcell hW c5; have e6 := bcell hW d0; have e7 := bcell hW d1; have e8 := bcell hW d2; have e9 := bcell hW d3; have e10 := bcell hW d4; have e11 := bcell hW d5; have e12 := bcell hW x3; have e13 := bcell hW y3; clear hW; go_simp; try rfl)
                      simp only [Act.put, List.setIfInBounds_toArray, List.set_cons_zero, List.set_cons_succ]
                      refine takeInH 2 37 ?v99 rfl rfl (by kernel_rfl) (by kernel_rfl) (by kernel_rfl) (fun _ _ _ h => h) (by kernel_rfl) hS0 ?hy99 ?_
                      case hy99 => (intro W hW; clear hW; go_simp; try rfl)
                      simp only [Act.put, List.setIfInBounds_toArray, List.set_cons_zero, List.set_cons_succ]
                      refine takeInH 3 38 ?v100 rfl rfl (by kernel_rfl) (by kernel_rfl) (by kernel_rfl) (fun _ _ _ h => h) (by kernel_rfl) hS0 ?hy100 ?_
                      case hy100 => (intro W hW; clear hW; go_simp; try rfl)
                      simp only [Act.put, List.setIfInBounds_toArray, List.set_cons_zero, List.set_cons_succ]
                      refine takeInH 4 39 ?v101 rfl rfl (by kernel_rfl) (by kernel_rfl) (by kernel_rfl) (fun _ _ _ h => h) (by kernel_rfl) hS0 ?hy101 ?_
                      case hy101 => (intro W hW; have e0 := bcell hW c0; have e1 := bcell hW c1; have e2 := bcell hW c2; have e3 := bcell hW c3; have e4 := bcell hW c4; have e5 := bcell hW c5; have e6 := bcell hW d0; have e7 := bcell hW d1; have e8 := bcell hW d2; have e9 := bcell hW d3; have e10 := bcell hW d4; have e11 := bcell hW d5; have e12 := bcell hW x3; have e13 := bcell hW y3; clear hW; go_simp; try rfl)
                      simp only [Act.put, List.setIfInBounds_toArray, List.set_cons_zero, List.set_cons_succ]
                      refine takeInH 5 40 ?v102 rfl rfl (by kernel_rfl) (by kernel_rfl) (by kernel_rfl) (fun _ _ _ h => h) (by kernel_rfl) hS0 ?hy102 ?_
                      case hy102 => (intro W hW; clear hW; go_simp; try rfl)
                      simp only [Act.put, List.setIfInBounds_toArray, List.set_cons_zero, List.set_cons_succ]
                      refine takeInH 6 41 ?v103 rfl rfl (by kernel_rfl) (by kernel_rfl) (by kernel_rfl) (fun _ _ _ h => h) (by kernel_rfl) hS0 ?hy103 ?_
                      case hy103 => (intro W hW; have e0 := bcell hW c0; have e1 := bcell hW c1; have e2 := bcell hW c2; have e3 := bcell hW c3; have e4 := bcell hW c4; have e5 := bcell hW c5; have e6 := bcell hW d0; have e7 := bcell hW d1; have e8 := bcell hW d2; have e9 := bcell hW d3; have e10 := bcell hW d4; have e11 := bcell hW d5; have e12 := bcell hW x3; have e13 := bcell hW y3; clear hW; go_simp; try rfl)
                      simp only [Act.put, List.setIfInBounds_toArray, List.set_cons_zero, List.set_cons_succ]
                      refine takeInH 7 42 ?v104 rfl rfl (by kernel_rfl) (by kernel_rfl) (by kernel_rfl) (fun _ _ _ h => h) (by kernel_rfl) hS0 ?hy104 ?_
                      case hy104 => (intro W hW; clear hW; go_simp; try rfl)
                      simp only [Act.put, List.setIfInBounds_toArray, List.set_cons_zero, List.set_cons_succ]
                      refine takeInH 8 43 ?v105 rfl rfl (by kernel_rfl) (by kernel_rfl) (by kernel_rfl) (fun _ _ _ h => h) (by kernel_rfl) hS0 ?hy105 ?_
                      case hy105 => (intro W hW; clear hW; go_simp; try rfl)
                      simp only [Act.put, List.setIfInBounds_toArray, List.set_cons_zero, List.set_cons_succ]
                      refine takeInH 9 44 ?v106 rfl rfl (by kernel_rfl) (by kernel_rfl) (by kernel_rfl) (fun _ _ _ h => h) (by kernel_rfl) hS0 ?hy106 ?_
                      case hy106 => (intro W hW; have e0 := bcell hW c0; have e1 := bcell hW c1; have e2 := bcell hW c2; have e3 := bcell hW c3; have e4 := bcell hW c4; have e5 := bcell hW c5; have e6 := bcell hW d0; have e7 := bcell hW d1; have e8 := bcell hW d2; have e9 := bcell hW d3; have e10 := bcell hW d4; have e11 := bcell hW d5; have e12 := bcell hW x3; have e13 := bcell hW y3; clear hW; go_simp; try rfl)
                      simp only [Act.put, List.setIfInBounds_toArray, List.set_cons_zero, List.set_cons_succ]
                      refine takeInH 10 45 ?v107 rfl rfl (by kernel_rfl) (by kernel_rfl) (by kernel_rfl) (fun _ _ _ h => h) (by kernel_rfl) hS0 ?hy107 ?_
                      case hy107 => (intro W hW; clear hW; go_simp; try rfl)
                      simp only [Act.put, List.setIfInBounds_toArray, List.set_cons_zero, List.set_cons_succ]
                      refine wpAnyH_done (by kernel_rfl) ?_ _
                      go_wp2
                      go_ret
                      exact ⟨retB HE.out, bel_next HV.out (bel_next hB.out (by assumption))⟩
                  · skip
                    have HE : Hid (false = sameB ((r, s), c, l) ((r, s), c', m)) := by unfold Hid; rw [HQ0.out]; symm; rw [decide_eq_false_iff_not, hst.out, HXY.out]; rintro ⟨⟨h0, h1, h2, h3, h4, h5⟩, _⟩; contradiction
                    clear hst HXY
                    go_wp2
                    refine wp_region_held_drew (S := fun W => Below wr.heap.size wr W) (by kernel_rfl) ((Below.refl _ wr).drew) (fun hS0 => ?_)
                    refine takeInH 0 35 ?v108 rfl rfl (by kernel_rfl) (by kernel_rfl) (by kernel_rfl) (fun _ _ _ h => h) (by kernel_rfl) hS0 ?hy108 ?_
                    case hy108 => (intro W hW; clear hW; go_simp; try rfl)
                    simp only [Act.put, List.setIfInBounds_toArray, List.set_cons_zero, List.set_cons_succ]
                    refine takeInH 1 36 ?v109 rfl rfl (by kernel_rfl) (by kernel_rfl) (by kernel_rfl) (fun _ _ _ h => h) (by kernel_rfl) hS0 ?hy109 ?_
                    case hy109 => (intro W hW; have e0 := bcell hW c0; have e1 := bcell hW c1; have e2 := bcell hW c2; have e3 := bcell hW c3; have e4 := bcell hW c4; have e5 := bcell hW c5; have e6 := bcell hW d0; have e7 := bcell hW d1; have e8 := bcell hW d2; have e9 := bcell hW d3; have e10 := bcell hW d4; have e11 := bcell hW d5; have e12 := bcell hW x3; have e13 := bcell hW y3; clear hW; go_simp; try rfl)
                    simp only [Act.put, List.setIfInBounds_toArray, List.set_cons_zero, List.set_cons_succ]
                    refine takeInH 2 37 ?v110 rfl rfl (by kernel_rfl) (by kernel_rfl) (by kernel_rfl) (fun _ _ _ h => h) (by kernel_rfl) hS0 ?hy110 ?_
                    case hy110 => (intro W hW; clear hW; go_simp; try rfl)
                    simp only [Act.put, List.setIfInBounds_toArray, List.set_cons_zero, List.set_cons_succ]
                    refine takeInH 3 38 ?v111 rfl rfl (by kernel_rfl) (by kernel_rfl) (by kernel_rfl) (fun _ _ _ h => h) (by kernel_rfl) hS0 ?hy111 ?_
                    case hy111 => (intro W hW; clear hW; go_simp; try rfl)
                    simp only [Act.put, List.setIfInBounds_toArray, List.set_cons_zero, List.set_cons_succ]
                    refine takeInH 4 39 ?v112 rfl rfl (by kernel_rfl) (by kernel_rfl) (by kernel_rfl) (fun _ _ _ h => h) (by kernel_rfl) hS0 ?hy112 ?_
                    case hy112 => (intro W hW; have e0 := bcell hW c0; have e1 := bcell hW c1; have e2 := bcell hW c2; have e3 := bcell hW c3; have e4 := bcell hW c4; have e5 := bcell hW c5; have e6 := bcell hW d0; have e7 := bcell hW d1; have e8 := bcell hW d2; have e9 := bcell hW d3; have e10 := bcell hW d4; have e11 := bcell hW d5; have e12 := bcell hW x3; have e13 := bcell hW y3; clear hW; go_simp; try rfl)
                    simp only [Act.put, List.setIfInBounds_toArray, List.set_cons_zero, List.set_cons_succ]
                    refine takeInH 5 40 ?v113 rfl rfl (by kernel_rfl) (by kernel_rfl) (by kernel_rfl) (fun _ _ _ h => h) (by kernel_rfl) hS0 ?hy113 ?_
                    case hy113 => (intro W hW; clear hW; go_simp; try rfl)
                    simp only [Act.put, List.setIfInBounds_toArray, List.set_cons_zero, List.set_cons_succ]
                    refine takeInH 6 41 ?v114 rfl rfl (by kernel_rfl) (by kernel_rfl) (by kernel_rfl) (fun _ _ _ h => h) (by kernel_rfl) hS0 ?hy114 ?_
                    case hy114 => (intro W hW; have e0 := bcell hW c0; have e1 := bcell hW c1; have e2 := bcell hW c2; have e3 := bcell hW c3; have e4 := bcell hW c4; have e5 := bcell hW c5; have e6 := bcell hW d0; have e7 := bcell hW d1; have e8 := bcell hW d2; have e9 := bcell hW d3; have e10 := bcell hW d4; have e11 := bcell hW d5; have e12 := bcell hW x3; have e13 := bcell hW y3; clear hW; go_simp; try rfl)
                    simp only [Act.put, List.setIfInBounds_toArray, List.set_cons_zero, List.set_cons_succ]
                    refine takeInH 7 42 ?v115 rfl rfl (by kernel_rfl) (by kernel_rfl) (by kernel_rfl) (fun _ _ _ h => h) (by kernel_rfl) hS0 ?hy115 ?_
                    case hy115 => (intro W hW; clear hW; go_simp; try rfl)
                    simp only [Act.put, List.setIfInBounds_toArray, List.set_cons_zero, List.set_cons_succ]
                    refine takeInH 8 43 ?v116 rfl rfl (by kernel_rfl) (by kernel_rfl) (by kernel_rfl) (fun _ _ _ h => h) (by kernel_rfl) hS0 ?hy116 ?_
                    case hy116 => (intro W hW; clear hW; go_simp; try rfl)
                    simp only [Act.put, List.setIfInBounds_toArray, List.set_cons_zero, List.set_cons_succ]
                    refine takeInH 9 44 ?v117 rfl rfl (by kernel_rfl) (by kernel_rfl) (by kernel_rfl) (fun _ _ _ h => h) (by kernel_rfl) hS0 ?hy117 ?_
                    case hy117 => (intro W hW; have e0 := bcell hW c0; have e1 := bcell hW c1; have e2 := bcell hW c2; have e3 := bcell hW c3; have e4 := bcell hW c4; have e5 := bcell hW c5; have e6 := bcell hW d0; have e7 := bcell hW d1; have e8 := bcell hW d2; have e9 := bcell hW d3; have e10 := bcell hW d4; have e11 := bcell hW d5; have e12 := bcell hW x3; have e13 := bcell hW y3; clear hW; go_simp; try rfl)
                    simp only [Act.put, List.setIfInBounds_toArray, List.set_cons_zero, List.set_cons_succ]
                    refine takeInH 10 45 ?v118 rfl rfl (by kernel_rfl) (by kernel_rfl) (by kernel_rfl) (fun _ _ _ h => h) (by kernel_rfl) hS0 ?hy118 ?_
                    case hy118 => (intro W hW; clear hW; go_simp; try rfl)
                    simp only [Act.put, List.setIfInBounds_toArray, List.set_cons_zero, List.set_cons_succ]
                    refine wpAnyH_done (by kernel_rfl) ?_ _
                    go_wp2
                    go_ret
                    exact ⟨retB HE.out, bel_next HV.out (bel_next hB.out (by assumption))⟩
                · skip
                  have HE : Hid (false = sameB ((r, s), c, l) ((r, s), c', m)) := by unfold Hid; rw [HQ0.out]; symm; rw [decide_eq_false_iff_not, hst.out, HXY.out]; rintro ⟨⟨h0, h1, h2, h3, h4, h5⟩, _⟩; contradiction
                  clear hst HXY
                  go_wp2
                  refine wp_region_held_drew (S := fun W => Below wr.heap.size wr W) (by kernel_rfl) ((Below.refl _ wr).drew) (fun hS0 => ?_)
                  refine takeInH 0 35 ?v119 rfl rfl (by kernel_rfl) (by kernel_rfl) (by kernel_rfl) (fun _ _ _ h => h) (by kernel_rfl) hS0 ?hy119 ?_
                  case hy119 => (intro W hW; clear hW; go_simp; try rfl)
                  simp only [Act.put, List.setIfInBounds_toArray, List.set_cons_zero, List.set_cons_succ]
                  refine takeInH 1 36 ?v120 rfl rfl (by kernel_rfl) (by kernel_rfl) (by kernel_rfl) (fun _ _ _ h => h) (by kernel_rfl) hS0 ?hy120 ?_
                  case hy120 => (intro W hW; have e0 := bcell hW c0; have e1 := bcell hW c1; have e2 := bcell hW c2; have e3 := bcell hW c3; have e4 := bcell hW c4; have e5 := bcell hW c5; have e6 := bcell hW d0; have e7 := bcell hW d1; have e8 := bcell hW d2; have e9 := bcell hW d3; have e10 := bcell hW d4; have e11 := bcell hW d5; have e12 := bcell hW x3; have e13 := bcell hW y3; clear hW; go_simp; try rfl)
                  simp only [Act.put, List.setIfInBounds_toArray, List.set_cons_zero, List.set_cons_succ]
                  refine takeInH 2 37 ?v121 rfl rfl (by kernel_rfl) (by kernel_rfl) (by kernel_rfl) (fun _ _ _ h => h) (by kernel_rfl) hS0 ?hy121 ?_
                  case hy121 => (intro W hW; clear hW; go_simp; try rfl)
                  simp only [Act.put, List.setIfInBounds_toArray, List.set_cons_zero, List.set_cons_succ]
                  refine takeInH 3 38 ?v122 rfl rfl (by kernel_rfl) (by kernel_rfl) (by kernel_rfl) (fun _ _ _ h => h) (by kernel_rfl) hS0 ?hy122 ?_
                  case hy122 => (intro W hW; clear hW; go_simp; try rfl)
                  simp only [Act.put, List.setIfInBounds_toArray, List.set_cons_zero, List.set_cons_succ]
                  refine takeInH 4 39 ?v123 rfl rfl (by kernel_rfl) (by kernel_rfl) (by kernel_rfl) (fun _ _ _ h => h) (by kernel_rfl) hS0 ?hy123 ?_
                  case hy123 => (intro W hW; have e0 := bcell hW c0; have e1 := bcell hW c1; have e2 := bcell hW c2; have e3 := bcell hW c3; have e4 := bcell hW c4; have e5 := bcell hW c5; have e6 := bcell hW d0; have e7 := bcell hW d1; have e8 := bcell hW d2; have e9 := bcell hW d3; have e10 := bcell hW d4; have e11 := bcell hW d5; have e12 := bcell hW x3; have e13 := bcell hW y3; clear hW; go_simp; try rfl)
                  simp only [Act.put, List.setIfInBounds_toArray, List.set_cons_zero, List.set_cons_succ]
                  refine takeInH 5 40 ?v124 rfl rfl (by kernel_rfl) (by kernel_rfl) (by kernel_rfl) (fun _ _ _ h => h) (by kernel_rfl) hS0 ?hy124 ?_
                  case hy124 => (intro W hW; clear hW; go_simp; try rfl)
                  simp only [Act.put, List.setIfInBounds_toArray, List.set_cons_zero, List.set_cons_succ]
                  refine takeInH 6 41 ?v125 rfl rfl (by kernel_rfl) (by kernel_rfl) (by kernel_rfl) (fun _ _ _ h => h) (by kernel_rfl) hS0 ?hy125 ?_
                  case hy125 => (intro W hW; have e0 := bcell hW c0; have e1 := bcell hW c1; have e2 := bcell hW c2; have e3 := bcell hW c3; have e4 := bcell hW c4; have e5 := bcell hW c5; have e6 := bcell hW d0; have e7 := bcell hW d1; have e8 := bcell hW d2; have e9 := bcell hW d3; have e10 := bcell hW d4; have e11 := bcell hW d5; have e12 := bcell hW x3; have e13 := bcell hW y3; clear hW; go_simp; try rfl)
                  simp only [Act.put, List.setIfInBounds_toArray, List.set_cons_zero, List.set_cons_succ]
                  refine takeInH 7 42 ?v126 rfl rfl (by kernel_rfl) (by kernel_rfl) (by kernel_rfl) (fun _ _ _ h => h) (by kernel_rfl) hS0 ?hy126 ?_
                  case hy126 => (intro W hW; clear hW; go_simp; try rfl)
                  simp only [Act.put, List.setIfInBounds_toArray, List.set_cons_zero, List.set_cons_succ]
                  refine takeInH 8 43 ?v127 rfl rfl (by kernel_rfl) (by kernel_rfl) (by kernel_rfl) (fun _ _ _ h => h) (by kernel_rfl) hS0 ?hy127 ?_
                  case hy127 => (intro W hW; clear hW; go_simp; try rfl)
                  simp only [Act.put, List.setIfInBounds_toArray, List.set_cons_zero, List.set_cons_succ]
                  refine takeInH 9 44 ?v128 rfl rfl (by kernel_rfl) (by kernel_rfl) (by kernel_rfl) (fun _ _ _ h => h) (by kernel_rfl) hS0 ?hy128 ?_
                  case hy128 => (intro W hW; have e0 := bcell hW c0; have e1 := bcell hW c1; have e2 := bcell hW c2; have e3 := bcell hW c3; have e4 := bcell hW c4; have e5 := bcell hW c5; have e6 := bcell hW d0; have e7 := bcell hW d1; have e8 := bcell hW d2; have e9 := bcell hW d3; have e10 := bcell hW d4; have e11 := bcell hW d5; have e12 := bcell hW x3; have e13 := bcell hW y3; clear hW; go_simp; try rfl)
                  simp only [Act.put, List.setIfInBounds_toArray, List.set_cons_zero, List.set_cons_succ]
                  refine takeInH 10 45 ?v129 rfl rfl (by kernel_rfl) (by kernel_rfl) (by kernel_rfl) (fun _ _ _ h => h) (by kernel_rfl) hS0 ?hy129 ?_
                  case hy129 => (intro W hW; clear hW; go_simp; try rfl)
                  simp only [Act.put, List.setIfInBounds_toArray, List.set_cons_zero, List.set_cons_succ]
                  refine wpAnyH_done (by kernel_rfl) ?_ _
                  go_wp2
                  go_ret
                  exact ⟨retB HE.out, bel_next HV.out (bel_next hB.out (by assumption))⟩
              · skip
                have HE : Hid (false = sameB ((r, s), c, l) ((r, s), c', m)) := by unfold Hid; rw [HQ0.out]; symm; rw [decide_eq_false_iff_not, hst.out, HXY.out]; rintro ⟨⟨h0, h1, h2, h3, h4, h5⟩, _⟩; contradiction
                clear hst HXY
                go_wp2
                refine wp_region_held_drew (S := fun W => Below wr.heap.size wr W) (by kernel_rfl) ((Below.refl _ wr).drew) (fun hS0 => ?_)
                refine takeInH 0 35 ?v130 rfl rfl (by kernel_rfl) (by kernel_rfl) (by kernel_rfl) (fun _ _ _ h => h) (by kernel_rfl) hS0 ?hy130 ?_
                case hy130 => (intro W hW; clear hW; go_simp; try rfl)
                simp only [Act.put, List.setIfInBounds_toArray, List.set_cons_zero, List.set_cons_succ]
                refine takeInH 1 36 ?v131 rfl rfl (by kernel_rfl) (by kernel_rfl) (by kernel_rfl) (fun _ _ _ h => h) (by kernel_rfl) hS0 ?hy131 ?_
                case hy131 => (intro W hW; have e0 := bcell hW c0; have e1 := bcell hW c1; have e2 := bcell hW c2; have e3 := bcell hW c3; have e4 := bcell hW c4; have e5 := bcell hW c5; have e6 := bcell hW d0; have e7 := bcell hW d1; have e8 := bcell hW d2; have e9 := bcell hW d3; have e10 := bcell hW d4; have e11 := bcell hW d5; have e12 := bcell hW x3; have e13 := bcell hW y3; clear hW; go_simp; try rfl)
                simp only [Act.put, List.setIfInBounds_toArray, List.set_cons_zero, List.set_cons_succ]
                refine takeInH 2 37 ?v132 rfl rfl (by kernel_rfl) (by kernel_rfl) (by kernel_rfl) (fun _ _ _ h => h) (by kernel_rfl) hS0 ?hy132 ?_
                case hy132 => (intro W hW; clear hW; go_simp; try rfl)
                simp only [Act.put, List.setIfInBounds_toArray, List.set_cons_zero, List.set_cons_succ]
                refine takeInH 3 38 ?v133 rfl rfl (by kernel_rfl) (by kernel_rfl) (by kernel_rfl) (fun _ _ _ h => h) (by kernel_rfl) hS0 ?hy133 ?_
                case hy133 => (intro W hW; clear hW; go_simp; try rfl)
                simp only [Act.put, List.setIfInBounds_toArray, List.set_cons_zero, List.set_cons_succ]
                refine takeInH 4 39 ?v134 rfl rfl (by kernel_rfl) (by kernel_rfl) (by kernel_rfl) (fun _ _ _ h => h) (by kernel_rfl) hS0 ?hy134 ?_
                case hy134 => (intro W hW; have e0 := bcell hW c0; have e1 := bcell hW c1; have e2 := bcell hW c2; have e3 := bcell hW c3; have e4 := bcell hW c4; have e5 := bcell hW c5; have e6 := bcell hW d0; have e7 := bcell hW d1; have e8 := bcell hW d2; have e9 := bcell hW d3; have e10 := bcell hW d4; have e11 := bcell hW d5; have e12 := bcell hW x3; have e13 := bcell hW y3; clear hW; go_simp; try rfl)
                simp only [Act.put, List.setIfInBounds_toArray, List.set_cons_zero, List.set_cons_succ]
                refine takeInH 5 40 ?v135 rfl rfl (by kernel_rfl) (by kernel_rfl) (by kernel_rfl) (fun _ _ _ h => h) (by kernel_rfl) hS0 ?hy135 ?_
                case hy135 => (intro W hW; clear hW; go_simp; try rfl)
                simp only [Act.put, List.setIfInBounds_toArray, List.set_cons_zero, List.set_cons_succ]
                refine takeInH 6 41 ?v136 rfl rfl (by kernel_rfl) (by kernel_rfl) (by kernel_rfl) (fun _ _ _ h => h) (by kernel_rfl) hS0 ?hy136 ?_
                case hy136 => (intro W hW; have e0 := bcell hW c0; have e1 := bcell hW c1; have e2 := bcell hW c2; have e3 := bcell hW c3; have e4 := bcell hW c4; have e5 := bcell hW c5; have e6 := bcell hW d0; have e7 := bcell hW d1; have e8 := bcell hW d2; have e9 := bcell hW d3; have e10 := bcell hW d4; have e11 := bcell hW d5; have e12 := bcell hW x3; have e13 := bcell hW y3; clear hW; go_simp; try rfl)
                simp only [Act.put, List.setIfInBounds_toArray, List.set_cons_zero, List.set_cons_succ]
                refine takeInH 7 42 ?v137 rfl rfl (by kernel_rfl) (by kernel_rfl) (by kernel_rfl) (fun _ _ _ h => h) (by kernel_rfl) hS0 ?hy137 ?_
                case hy137 => (intro W hW; clear hW; go_simp; try rfl)
                simp only [Act.put, List.setIfInBounds_toArray, List.set_cons_zero, List.set_cons_succ]
                refine takeInH 8 43 ?v138 rfl rfl (by kernel_rfl) (by kernel_rfl) (by kernel_rfl) (fun _ _ _ h => h) (by kernel_rfl) hS0 ?hy138 ?_
                case hy138 => (intro W hW; clear hW; go_simp; try rfl)
                simp only [Act.put, List.setIfInBounds_toArray, List.set_cons_zero, List.set_cons_succ]
                refine takeInH 9 44 ?v139 rfl rfl (by kernel_rfl) (by kernel_rfl) (by kernel_rfl) (fun _ _ _ h => h) (by kernel_rfl) hS0 ?hy139 ?_
                case hy139 => (intro W hW; have e0 := bcell hW c0; have e1 := bcell hW c1; have e2 := bcell hW c2; have e3 := bcell hW c3; have e4 := bcell hW c4; have e5 := bcell hW c5; have e6 := bcell hW d0; have e7 := bcell hW d1; have e8 := bcell hW d2; have e9 := bcell hW d3; have e10 := bcell hW d4; have e11 := bcell hW d5; have e12 := bcell hW x3; have e13 := bcell hW y3; clear hW; go_simp; try rfl)
                simp only [Act.put, List.setIfInBounds_toArray, List.set_cons_zero, List.set_cons_succ]
                refine takeInH 10 45 ?v140 rfl rfl (by kernel_rfl) (by kernel_rfl) (by kernel_rfl) (fun _ _ _ h => h) (by kernel_rfl) hS0 ?hy140 ?_
                case hy140 => (intro W hW; clear hW; go_simp; try rfl)
                simp only [Act.put, List.setIfInBounds_toArray, List.set_cons_zero, List.set_cons_succ]
                refine wpAnyH_done (by kernel_rfl) ?_ _
                go_wp2
                go_ret
                exact ⟨retB HE.out, bel_next HV.out (bel_next hB.out (by assumption))⟩
            · have hkl : k = ne := by omega
              subst hkl
              have x3 := (X1u.out.below hB.out).cell 3 _ rfl
              have HE : Hid (true = sameB ((r, s), c, l) ((r, s), c', m)) := by
                have h2 := hH.out
                rw [List.drop_of_length_le (by rw [HL.out]; exact Nat.le_refl _), List.drop_of_length_le (by rw [HL'.out]; exact Nat.le_refl _)] at h2
                unfold Hid; rw [HQ0.out]; symm; rw [decide_eq_true_iff, h2]
              go_wp2
              go_ret
              exact ⟨retB HE.out, bel_next HV.out hB.out⟩
        · have HE : Hid (false = sameB ((r, s), c, l) ((r, s), c', m)) := by
            unfold Hid; rw [HQ0.out]; symm; rw [decide_eq_false_iff_not]
            intro h
            rw [h] at HL
            have h1 := HL.out
            have h2 := HL'.out
            omega
          have hn1 : ((ne : Int) == (nf : Int)) = false := by simp; omega
          have hn2 : ¬ (ne : Int) = (nf : Int) := by omega
          have hn3 : ((ne : Int) != (nf : Int)) = true := by simp; omega
          go_enter Try.func13, Try.ntmps13
          go_wp2_with (go_at_call 32; refine (HC.out _ N1.out N2.out).mono ?_; rintro e u ⟨rfl, hb⟩; have HV := hide (bel_next HU.out hb); have x3 := (X1.out.below hb).cell 3 _ rfl; have y3 := (X2.out.below hb).cell 3 _ rfl; clear hb)
          go_ret
          exact ⟨retB HE.out, HV.out⟩
    · have HE : Hid (false = sameB ((r, s), c, l) ((r', s'), c', m)) := by unfold Hid; symm; rw [← Bool.not_eq_true, sameB_iff]; rintro ⟨⟨_, h⟩, _⟩; exact h2 h
      subst h1
      go_enter Try.func13, Try.ntmps13
      go_wp2
      go_ret
      exact ⟨retB HE.out, HU.out⟩
  · have HE : Hid (false = sameB ((r, s), c, l) ((r', s'), c', m)) := by unfold Hid; symm; rw [← Bool.not_eq_true, sameB_iff]; rintro ⟨⟨h, _⟩, _⟩; exact h1 h
    go_enter Try.func13, Try.ntmps13
    go_wp2
    go_ret
    exact ⟨retB HE.out, HU.out⟩
end Go.Proofs.Ytohhlidlgibieaa

/- Which effects may be, by the document. -/
namespace Go.Proofs.Ytohhlidlgibieaa
open Go.RowKit
set_option linter.unusedVariables false

theorem may_yes {b : Bool} {k o n t : Int} {kl wl : Nat} (hf : mayS k o n t kl wl = b) (h : (1 ≤ kl ∧ kl ≤ 32 ∧ 0 ≤ o ∧ o ≤ 15) ∧ (((k = 1 ∨ k = 2) ∧ n = 0 ∧ t = 0 ∧ wl = 0) ∨ ((k = 3 ∨ k = 4) ∧ 1 ≤ n ∧ n ≤ 1000 ∧ t = 0 ∧ wl = 0) ∨ (k = 5 ∧ 1 ≤ n ∧ n ≤ 1000 ∧ 1 ≤ t ∧ t ≤ 5 ∧ wl = 0) ∨ (k = 6 ∧ n = 0 ∧ t = 0 ∧ wl ≤ 64))) : true = b := by
  rw [← hf]; symm; rw [mayS_iff, fits_iff]; exact h
set_option maxHeartbeats 4000000 in
theorem mayEff1 (o n t : Int) (sk sw : ByteArray) (b : Bool) (hf : mayS 1 o n t sk.size sw.size = b) (w : World) (h1 : 1 ≤ sk.size) (h2 : (sk.size : Int) ≤ 32) (h3 : 0 ≤ o) (h4 : o ≤ 15) :
    Calls Try.prog 10 #[.agg #[.int .i64 1, .int .i64 o, .string sk, .int .i64 n, .int .i64 t, .string sw]] w fun e w' => e = .returned (.bool b) ∧ Gr w w' := by
  have HF := hide hf
  clear hf
  have hE : sk.toList.isEmpty = false := by rw [isE, decide_eq_false_iff_not]; omega
  have hW := isE sw
  by_cases h5 : sw.size = 0
  · have h6 : sw.toList.isEmpty = true := by rw [isE]; simp [h5]
    clear hW
    go_enter Try.func10, Try.ntmps10
    go_wp2 <;> go_ret <;> (refine ⟨retB ?_, (Gr.refl w).alloc _⟩) <;> (try simp only [bne_iff_ne, ne_eq, bne_eq_false_iff_eq] at *) <;> first | (refine may_no HF.out ?_; omega) | (refine may_if HF.out (isE sw) ?_; omega) | (refine may_if (p := (sw.size : Int) ≤ 64) HF.out ?_ ?_ <;> first | rfl | omega) | (refine may_yes HF.out ?_; omega)
  · have h6 : sw.toList.isEmpty = false := by rw [isE]; simp [h5]
    clear hW
    go_enter Try.func10, Try.ntmps10
    go_wp2 <;> go_ret <;> (refine ⟨retB ?_, (Gr.refl w).alloc _⟩) <;> (try simp only [bne_iff_ne, ne_eq, bne_eq_false_iff_eq] at *) <;> first | (refine may_no HF.out ?_; omega) | (refine may_if HF.out (isE sw) ?_; omega) | (refine may_if (p := (sw.size : Int) ≤ 64) HF.out ?_ ?_ <;> first | rfl | omega) | (refine may_yes HF.out ?_; omega)
set_option maxHeartbeats 4000000 in
theorem mayEff2 (o n t : Int) (sk sw : ByteArray) (b : Bool) (hf : mayS 2 o n t sk.size sw.size = b) (w : World) (h1 : 1 ≤ sk.size) (h2 : (sk.size : Int) ≤ 32) (h3 : 0 ≤ o) (h4 : o ≤ 15) :
    Calls Try.prog 10 #[.agg #[.int .i64 2, .int .i64 o, .string sk, .int .i64 n, .int .i64 t, .string sw]] w fun e w' => e = .returned (.bool b) ∧ Gr w w' := by
  have HF := hide hf
  clear hf
  have hE : sk.toList.isEmpty = false := by rw [isE, decide_eq_false_iff_not]; omega
  have hW := isE sw
  by_cases h5 : sw.size = 0
  · have h6 : sw.toList.isEmpty = true := by rw [isE]; simp [h5]
    clear hW
    go_enter Try.func10, Try.ntmps10
    go_wp2 <;> go_ret <;> (refine ⟨retB ?_, (Gr.refl w).alloc _⟩) <;> (try simp only [bne_iff_ne, ne_eq, bne_eq_false_iff_eq] at *) <;> first | (refine may_no HF.out ?_; omega) | (refine may_if HF.out (isE sw) ?_; omega) | (refine may_if (p := (sw.size : Int) ≤ 64) HF.out ?_ ?_ <;> first | rfl | omega) | (refine may_yes HF.out ?_; omega)
  · have h6 : sw.toList.isEmpty = false := by rw [isE]; simp [h5]
    clear hW
    go_enter Try.func10, Try.ntmps10
    go_wp2 <;> go_ret <;> (refine ⟨retB ?_, (Gr.refl w).alloc _⟩) <;> (try simp only [bne_iff_ne, ne_eq, bne_eq_false_iff_eq] at *) <;> first | (refine may_no HF.out ?_; omega) | (refine may_if HF.out (isE sw) ?_; omega) | (refine may_if (p := (sw.size : Int) ≤ 64) HF.out ?_ ?_ <;> first | rfl | omega) | (refine may_yes HF.out ?_; omega)
set_option maxHeartbeats 4000000 in
theorem mayEff3 (o n t : Int) (sk sw : ByteArray) (b : Bool) (hf : mayS 3 o n t sk.size sw.size = b) (w : World) (h1 : 1 ≤ sk.size) (h2 : (sk.size : Int) ≤ 32) (h3 : 0 ≤ o) (h4 : o ≤ 15) :
    Calls Try.prog 10 #[.agg #[.int .i64 3, .int .i64 o, .string sk, .int .i64 n, .int .i64 t, .string sw]] w fun e w' => e = .returned (.bool b) ∧ Gr w w' := by
  have HF := hide hf
  clear hf
  have hE : sk.toList.isEmpty = false := by rw [isE, decide_eq_false_iff_not]; omega
  have hW := isE sw
  by_cases h5 : sw.size = 0
  · have h6 : sw.toList.isEmpty = true := by rw [isE]; simp [h5]
    clear hW
    go_enter Try.func10, Try.ntmps10
    go_wp2 <;> go_ret <;> (refine ⟨retB ?_, (Gr.refl w).alloc _⟩) <;> (try simp only [bne_iff_ne, ne_eq, bne_eq_false_iff_eq] at *) <;> first | (refine may_no HF.out ?_; omega) | (refine may_if HF.out (isE sw) ?_; omega) | (refine may_if (p := (sw.size : Int) ≤ 64) HF.out ?_ ?_ <;> first | rfl | omega) | (refine may_yes HF.out ?_; omega)
  · have h6 : sw.toList.isEmpty = false := by rw [isE]; simp [h5]
    clear hW
    go_enter Try.func10, Try.ntmps10
    go_wp2 <;> go_ret <;> (refine ⟨retB ?_, (Gr.refl w).alloc _⟩) <;> (try simp only [bne_iff_ne, ne_eq, bne_eq_false_iff_eq] at *) <;> first | (refine may_no HF.out ?_; omega) | (refine may_if HF.out (isE sw) ?_; omega) | (refine may_if (p := (sw.size : Int) ≤ 64) HF.out ?_ ?_ <;> first | rfl | omega) | (refine may_yes HF.out ?_; omega)
set_option maxHeartbeats 4000000 in
theorem mayEff4 (o n t : Int) (sk sw : ByteArray) (b : Bool) (hf : mayS 4 o n t sk.size sw.size = b) (w : World) (h1 : 1 ≤ sk.size) (h2 : (sk.size : Int) ≤ 32) (h3 : 0 ≤ o) (h4 : o ≤ 15) :
    Calls Try.prog 10 #[.agg #[.int .i64 4, .int .i64 o, .string sk, .int .i64 n, .int .i64 t, .string sw]] w fun e w' => e = .returned (.bool b) ∧ Gr w w' := by
  have HF := hide hf
  clear hf
  have hE : sk.toList.isEmpty = false := by rw [isE, decide_eq_false_iff_not]; omega
  have hW := isE sw
  by_cases h5 : sw.size = 0
  · have h6 : sw.toList.isEmpty = true := by rw [isE]; simp [h5]
    clear hW
    go_enter Try.func10, Try.ntmps10
    go_wp2 <;> go_ret <;> (refine ⟨retB ?_, (Gr.refl w).alloc _⟩) <;> (try simp only [bne_iff_ne, ne_eq, bne_eq_false_iff_eq] at *) <;> first | (refine may_no HF.out ?_; omega) | (refine may_if HF.out (isE sw) ?_; omega) | (refine may_if (p := (sw.size : Int) ≤ 64) HF.out ?_ ?_ <;> first | rfl | omega) | (refine may_yes HF.out ?_; omega)
  · have h6 : sw.toList.isEmpty = false := by rw [isE]; simp [h5]
    clear hW
    go_enter Try.func10, Try.ntmps10
    go_wp2 <;> go_ret <;> (refine ⟨retB ?_, (Gr.refl w).alloc _⟩) <;> (try simp only [bne_iff_ne, ne_eq, bne_eq_false_iff_eq] at *) <;> first | (refine may_no HF.out ?_; omega) | (refine may_if HF.out (isE sw) ?_; omega) | (refine may_if (p := (sw.size : Int) ≤ 64) HF.out ?_ ?_ <;> first | rfl | omega) | (refine may_yes HF.out ?_; omega)
set_option maxHeartbeats 4000000 in
theorem mayEff5 (o n t : Int) (sk sw : ByteArray) (b : Bool) (hf : mayS 5 o n t sk.size sw.size = b) (w : World) (h1 : 1 ≤ sk.size) (h2 : (sk.size : Int) ≤ 32) (h3 : 0 ≤ o) (h4 : o ≤ 15) :
    Calls Try.prog 10 #[.agg #[.int .i64 5, .int .i64 o, .string sk, .int .i64 n, .int .i64 t, .string sw]] w fun e w' => e = .returned (.bool b) ∧ Gr w w' := by
  have HF := hide hf
  clear hf
  have hE : sk.toList.isEmpty = false := by rw [isE, decide_eq_false_iff_not]; omega
  have hW := isE sw
  by_cases h5 : sw.size = 0
  · have h6 : sw.toList.isEmpty = true := by rw [isE]; simp [h5]
    clear hW
    go_enter Try.func10, Try.ntmps10
    go_wp2 <;> go_ret <;> (refine ⟨retB ?_, (Gr.refl w).alloc _⟩) <;> (try simp only [bne_iff_ne, ne_eq, bne_eq_false_iff_eq] at *) <;> first | (refine may_no HF.out ?_; omega) | (refine may_if HF.out (isE sw) ?_; omega) | (refine may_if (p := (sw.size : Int) ≤ 64) HF.out ?_ ?_ <;> first | rfl | omega) | (refine may_yes HF.out ?_; omega)
  · have h6 : sw.toList.isEmpty = false := by rw [isE]; simp [h5]
    clear hW
    go_enter Try.func10, Try.ntmps10
    go_wp2 <;> go_ret <;> (refine ⟨retB ?_, (Gr.refl w).alloc _⟩) <;> (try simp only [bne_iff_ne, ne_eq, bne_eq_false_iff_eq] at *) <;> first | (refine may_no HF.out ?_; omega) | (refine may_if HF.out (isE sw) ?_; omega) | (refine may_if (p := (sw.size : Int) ≤ 64) HF.out ?_ ?_ <;> first | rfl | omega) | (refine may_yes HF.out ?_; omega)
set_option maxHeartbeats 4000000 in
theorem mayEff6 (o n t : Int) (sk sw : ByteArray) (b : Bool) (hf : mayS 6 o n t sk.size sw.size = b) (w : World) (h1 : 1 ≤ sk.size) (h2 : (sk.size : Int) ≤ 32) (h3 : 0 ≤ o) (h4 : o ≤ 15) :
    Calls Try.prog 10 #[.agg #[.int .i64 6, .int .i64 o, .string sk, .int .i64 n, .int .i64 t, .string sw]] w fun e w' => e = .returned (.bool b) ∧ Gr w w' := by
  have HF := hide hf
  clear hf
  have hE : sk.toList.isEmpty = false := by rw [isE, decide_eq_false_iff_not]; omega
  have hW := isE sw
  by_cases h5 : sw.size = 0
  · have h6 : sw.toList.isEmpty = true := by rw [isE]; simp [h5]
    clear hW
    go_enter Try.func10, Try.ntmps10
    go_wp2 <;> go_ret <;> (refine ⟨retB ?_, (Gr.refl w).alloc _⟩) <;> (try simp only [bne_iff_ne, ne_eq, bne_eq_false_iff_eq] at *) <;> first | (refine may_no HF.out ?_; omega) | (refine may_if HF.out (isE sw) ?_; omega) | (refine may_if (p := (sw.size : Int) ≤ 64) HF.out ?_ ?_ <;> first | rfl | omega) | (refine may_yes HF.out ?_; omega)
  · have h6 : sw.toList.isEmpty = false := by rw [isE]; simp [h5]
    clear hW
    go_enter Try.func10, Try.ntmps10
    go_wp2 <;> go_ret <;> (refine ⟨retB ?_, (Gr.refl w).alloc _⟩) <;> (try simp only [bne_iff_ne, ne_eq, bne_eq_false_iff_eq] at *) <;> first | (refine may_no HF.out ?_; omega) | (refine may_if HF.out (isE sw) ?_; omega) | (refine may_if (p := (sw.size : Int) ≤ 64) HF.out ?_ ?_ <;> first | rfl | omega) | (refine may_yes HF.out ?_; omega)
set_option maxHeartbeats 4000000 in
theorem MayEffect_any (k o n t : Int) (sk sw : ByteArray) (b : Bool) (hf : mayS k o n t sk.size sw.size = b) (w : World) :
    Calls Try.prog 10 #[.agg #[.int .i64 k, .int .i64 o, .string sk, .int .i64 n, .int .i64 t, .string sw]] w fun e w' => e = .returned (.bool b) ∧ Gr w w' := by
  have HF := hide hf
  by_cases h1 : sk.size = 0
  · have hE : sk.toList.isEmpty = true := by rw [isE]; simp [h1]
    clear hf
    go_enter Try.func10, Try.ntmps10
    go_wp2
    go_ret
    exact ⟨retB (may_no HF.out (by omega)), (Gr.refl w).alloc _⟩
  · have hE : sk.toList.isEmpty = false := by rw [isE]; simp [h1]
    by_cases h2 : (sk.size : Int) > 32
    · clear hf
      go_enter Try.func10, Try.ntmps10
      go_wp2
      go_ret
      exact ⟨retB (may_no HF.out (by omega)), (Gr.refl w).alloc _⟩
    · skip
      by_cases h3 : o < 0
      · clear hf
        go_enter Try.func10, Try.ntmps10
        go_wp2
        go_ret
        exact ⟨retB (may_no HF.out (by omega)), (Gr.refl w).alloc _⟩
      · skip
        by_cases h4 : o > 15
        · clear hf
          go_enter Try.func10, Try.ntmps10
          go_wp2
          go_ret
          exact ⟨retB (may_no HF.out (by omega)), (Gr.refl w).alloc _⟩
        · skip
          by_cases h5 : k < 1
          · clear hf
            go_enter Try.func10, Try.ntmps10
            go_wp2
            go_ret
            exact ⟨retB (may_no HF.out (by omega)), (Gr.refl w).alloc _⟩
          · skip
            by_cases h6 : k > 6
            · clear hf
              go_enter Try.func10, Try.ntmps10
              go_wp2
              go_ret
              exact ⟨retB (may_no HF.out (by omega)), (Gr.refl w).alloc _⟩
            · skip
              have h7 : k = 1 ∨ k = 2 ∨ k = 3 ∨ k = 4 ∨ k = 5 ∨ k = 6 := by omega
              rcases h7 with rfl | rfl | rfl | rfl | rfl | rfl
              · exact mayEff1 o n t sk sw b hf w (by omega) (by omega) (by omega) (by omega)
              · exact mayEff2 o n t sk sw b hf w (by omega) (by omega) (by omega) (by omega)
              · exact mayEff3 o n t sk sw b hf w (by omega) (by omega) (by omega) (by omega)
              · exact mayEff4 o n t sk sw b hf w (by omega) (by omega) (by omega) (by omega)
              · exact mayEff5 o n t sk sw b hf w (by omega) (by omega) (by omega) (by omega)
              · exact mayEff6 o n t sk sw b hf w (by omega) (by omega) (by omega) (by omega)
end Go.Proofs.Ytohhlidlgibieaa

/- For the statement on any clock plain, set and ticked: what the contracts say at a replica that may be, and at one that may not. -/
namespace Go.Proofs.Ytohhlidlgibieaa
open Go.RowKit
set_option linter.unusedVariables false

theorem getZ_in (c : List Int) (r : Nat) (hr : r < 5) : getZ c (r + 1) = at5 c r := by
  unfold getZ; rw [if_pos (by omega)]; congr 1
theorem setA_in (c : List Int) (r : Nat) (x : Int) (hr : r < 5) (hx : inB x = true) : setA c (r + 1) x = some (pln (setL c r x)) ∧ setE (r + 1) x = 0 := by
  unfold setA setE
  rw [if_pos ⟨by omega, hx⟩, if_pos ⟨by omega, hx⟩]
  exact ⟨rfl, rfl⟩
theorem setA_bad (c : List Int) (r x : Int) (h : ¬ ((1 ≤ r ∧ r ≤ 5) ∧ inB x = true)) : setA c r x = none ∧ setE r x = 1 := by
  unfold setA setE
  rw [if_neg h, if_neg h]
  exact ⟨rfl, rfl⟩
theorem tickA_in (c : List Int) (r : Nat) (hr : r < 5) (hx : ¬ at5 c r = 1048576) : tickA c (r + 1) = some (pln (setL c r (at5 c r + 1))) ∧ tickE c (r + 1) = 0 := by
  unfold tickA tickE
  rw [getZ_in c r hr, if_pos ⟨by omega, hx⟩, if_pos (by omega), if_neg hx]
  exact ⟨rfl, rfl⟩
theorem tickA_full (c : List Int) (r : Nat) (hr : r < 5) (hx : at5 c r = 1048576) : tickA c (r + 1) = none ∧ tickE c (r + 1) = 6 := by
  unfold tickA tickE
  rw [getZ_in c r hr, if_neg (fun t => t.2 hx), if_pos (by omega), if_pos hx]
  exact ⟨rfl, rfl⟩
theorem tickA_bad (c : List Int) (r : Int) (h : ¬ (1 ≤ r ∧ r ≤ 5)) : tickA c r = none ∧ tickE c r = 1 := by
  unfold tickA tickE
  rw [if_neg (fun t => h t.1), if_neg h]
  exact ⟨rfl, rfl⟩

theorem own_nil_len {N : Nat} {w : World} {v : Value} (h : OwnN N w v []) : ∃ p c, v = .slice p 0 c := by
  obtain ⟨p, c, hv, _, _⟩ := h.open
  exact ⟨p, c, hv⟩
theorem getZ_out (c : List Int) (k : Nat) (hk : 5 ≤ k) : at5 c k = 0 := by
  unfold at5
  split
  · next h =>
    have := (mayC_iff.1 h).1
    simp [List.getD_eq_getElem?_getD, List.getElem?_eq_none (show c.length ≤ k by omega)]
  · rfl
set_option maxHeartbeats 400000 in
/-- The document's 'Get', of any replica. -/
theorem get_refZ (a : Option Addr) (n cap : Nat) (c : List Int) (r : Int) (w : World) (hN : NS w a n c) :
    Calls Try.prog 36 #[.slice a n cap, .int .i64 r] w fun e w' => e = .returned (.int .i64 (getZ c r)) ∧ w' = w := by
  by_cases h1 : r < 1
  · have hz : getZ c r = 0 := by unfold getZ; rw [if_neg (by omega)]
    rw [hz]
    have mb := may_ref a n cap c w hN
    clear hN hz
    rcases hm : mayC c with _ | _
    · rw [hm] at mb
      go_enter Try.func36, Try.ntmps36
      go_wp2_with (go_at_call 34; refine mb.mono ?_; rintro e w' ⟨rfl, rfl⟩)
      go_ret
      exact ⟨rfl, rfl⟩
    · rw [hm] at mb
      go_enter Try.func36, Try.ntmps36
      go_wp2_with (go_at_call 34; refine mb.mono ?_; rintro e w' ⟨rfl, rfl⟩)
      go_ret
      exact ⟨rfl, rfl⟩
  · refine get_ref_as a n cap c r _ w hN (r.toNat - 1) (by omega) ?_
    unfold getZ
    split
    · rfl
    · exact getZ_out c _ (by omega)
end Go.Proofs.Ytohhlidlgibieaa

