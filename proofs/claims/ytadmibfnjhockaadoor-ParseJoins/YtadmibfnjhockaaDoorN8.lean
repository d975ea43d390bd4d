/- Same of the document (layer 15). -/
import Derived.Test.YtadmibfnjhockaaDoorN7
namespace Go.Proofs.YtadmibfnjhockaaDoor
open Go.RowKit Go.Lib
set_option linter.unusedVariables false
/-- A line of a slice: its cells, and where its deeds lie. -/
theorem SF.dc {w : World} {b off n : Nat} {l : List Dc} (h : SF 7 RDc w (some ⟨b, off, none⟩) n l) (i : Nat) (hi : i < n) : ∃ (d : Dc) (p : Option Addr) (c : Nat), l[i]? = some d ∧ RS encDd 3 w p d.2.2.2.2.2.1.length d.2.2.2.2.2.1 ∧ CP p d.2.2.2.2.2.1.length c ∧ w.cell? ⟨b, off + i * 7, none⟩ = some (.int .i64 d.1) ∧ w.cell? ⟨b, off + i * 7 + 1, none⟩ = some (.bool d.2.1) ∧ w.cell? ⟨b, off + i * 7 + 2, none⟩ = some (.string d.2.2.1) ∧ w.cell? ⟨b, off + i * 7 + 3, none⟩ = some (.string d.2.2.2.1) ∧ w.cell? ⟨b, off + i * 7 + 4, none⟩ = some (.int .i64 d.2.2.2.2.1) ∧ w.cell? ⟨b, off + i * 7 + 5, none⟩ = some (.slice p d.2.2.2.2.2.1.length c) ∧ w.cell? ⟨b, off + i * 7 + 6, none⟩ = some (.int .i64 d.2.2.2.2.2.2) := by
  obtain ⟨r, d, F, hx, ⟨p, m, c, hr, h2, h3, _⟩, hc⟩ := h.at i hi
  have e := h2.1
  subst e
  refine ⟨d, p, c, hx, h2, h3, ?_, ?_, ?_, ?_, ?_, ?_, ?_⟩
  · exact hc 0 _ (by rw [hr]; rfl)
  · exact hc 1 _ (by rw [hr]; rfl)
  · exact hc 2 _ (by rw [hr]; rfl)
  · exact hc 3 _ (by rw [hr]; rfl)
  · exact hc 4 _ (by rw [hr]; rfl)
  · exact hc 5 _ (by rw [hr]; rfl)
  · exact hc 6 _ (by rw [hr]; rfl)
set_option maxRecDepth 2000 in
set_option maxHeartbeats 8000000 in
theorem Same15_ref (b : Bool) (a : Option Addr) (n cap : Nat) (l : List Dc) (a' : Option Addr) (n' cap' : Nat) (l' : List Dc) (hb : b = true ↔ l = l') (w : World) (hA : SF 7 RDc w a n l) (hA' : SF 7 RDc w a' n' l') : Calls Tryd.prog 9 #[.slice a n cap, .slice a' n' cap'] w fun e w' => e = .returned (.bool b) ∧ Below w.heap.size w w' := by
  have HA := hide hA
  have HA' := hide hA'
  have HBB := hide hb
  have hmx := hA.max
  unfold maxLen at hmx
  clear hA hA' hb
  by_cases hnn : n = n'
  · subst hnn
    go_enter Tryd.func9, Tryd.ntmps9
    go_wp2
    go_loopw [5] (fun v wr => ∃ k0 : Nat, k0 ≤ n ∧ v = .int .i64 k0 ∧ Hid (l.take k0 = l'.take k0) ∧ Hid (Below w.heap.size w wr)) (fun v _ => n - (intOf v).toNat)
    case atStart => exact ⟨0, by omega, rfl, (show _ = _ by simp), Below.refl _ _⟩
    case round =>
      obtain ⟨k0, hk, rfl, HF, HB⟩ := hrel
      by_cases hlt : k0 < n
      · obtain ⟨b1, o1, rfl⟩ := HA.out.addr (by omega)
        obtain ⟨b2, o2, rfl⟩ := HA'.out.addr (by omega)
        obtain ⟨⟨k1, k2, k3, k4, k5, k6, k7⟩, p, c, hx, hr1, _, c0, c1, c2, c3, c4, c5, c6⟩ := (HA.out.below RDc.st HB.out).dc k0 hlt
        obtain ⟨⟨m1, m2, m3, m4, m5, m6, m7⟩, p', c', hx', hr2, _, d0, d1, d2, d3, d4, d5, d6⟩ := (HA'.out.below RDc.st HB.out).dc k0 hlt
        simp only at c0 c1 c2 c3 c4 c5 c6 d0 d1 d2 d3 d4 d5 d6 hr1 hr2
        have hk0 : (0 : Int) ≤ (k0 : Int) := by omega
        have hk1 : (k0 : Int) < (n : Int) := by omega
        have HX1 := hide hx
        have HX2 := hide hx'
        have HR1 := hide hr1
        have HR2 := hide hr2
        clear hx hx' hr1 hr2
        by_cases he : ((k1, k2, k3, k4, k5, k6, k7) : Dc) = (m1, m2, m3, m4, m5, m6, m7)
        · have HON : Hid (∀ W, Below wr.heap.size wr W → Calls Tryd.prog 19 #[.agg #[.int .i64 k1, .bool k2, .string k3, .string k4, .int .i64 k5, .slice p k6.length c, .int .i64 k7], .agg #[.int .i64 m1, .bool m2, .string m3, .string m4, .int .i64 m5, .slice p' m6.length c', .int .i64 m7]] W fun e w' => e = .returned (.bool true) ∧ Below W.heap.size W w') := fun W hW => by
            have q := One15 true (k1, k2, k3, k4, k5, k6, k7) (m1, m2, m3, m4, m5, m6, m7) ⟨fun _ => he, fun _ => rfl⟩ p p' c c' W (HR1.out.below hW) (HR2.out.below hW)
            simp only [decV] at q
            exact q
          have HF2 : Hid (l.take (k0 + 1) = l'.take (k0 + 1)) := by unfold Hid; rw [takeG_snoc HX1.out, takeG_snoc HX2.out, HF.out, he]
          clear he
          go_upto_region 6 with fail
          refine wp_region_held_drew (S := fun W => Below wr.heap.size wr W) (by kernel_rfl) ((Below.refl _ wr).drew) (fun hS0 => ?_)
          refine takeInH 0 17 ?v1 rfl rfl (by kernel_rfl) (by kernel_rfl) (by kernel_rfl) (fun _ _ _ h => h) (by kernel_rfl) hS0 ?hy1 ?_
          case hy1 => (intro W hW; clear hW; go_simp; try rfl)
          simp only [Act.put, List.setIfInBounds_toArray, List.set_cons_zero, List.set_cons_succ]
          refine takeInH 1 18 ?v2 rfl rfl (by kernel_rfl) (by kernel_rfl) (by kernel_rfl) (fun _ _ _ h => h) (by kernel_rfl) hS0 ?hy2 ?_
          case hy2 => (intro W hW; clear hW; go_simp; try rfl)
          simp only [Act.put, List.setIfInBounds_toArray, List.set_cons_zero, List.set_cons_succ]
          refine takeInH 2 19 ?v3 rfl rfl (by kernel_rfl) (by kernel_rfl) (by kernel_rfl) (fun _ _ _ h => h) (by kernel_rfl) hS0 ?hy3 ?_
          case hy3 => (intro W hW; clear hW; go_simp; try rfl)
          simp only [Act.put, List.setIfInBounds_toArray, List.set_cons_zero, List.set_cons_succ]
          refine takeInH 3 20 ?v4 rfl rfl (by kernel_rfl) (by kernel_rfl) (by kernel_rfl) (fun _ _ _ h => h) (by kernel_rfl) hS0 ?hy4 ?_
          case hy4 => (intro W hW; have e0 := bcell hW c0; have e1 := bcell hW c1; have e2 := bcell hW c2; have e3 := bcell hW c3; have e4 := bcell hW c4; have e5 := bcell hW c5; have e6 := bcell hW c6; have e7 := bcell hW d0; have e8 := bcell hW d1; have e9 := bcell hW d2; have e10 := bcell hW d3; have e11 := bcell hW d4; have e12 := bcell hW d5; have e13 := bcell hW d6; clear hW; go_simp; try rfl)
          simp only [Act.put, List.setIfInBounds_toArray, List.set_cons_zero, List.set_cons_succ]
          refine takeInH 4 21 ?v5 rfl rfl (by kernel_rfl) (by kernel_rfl) (by kernel_rfl) (fun _ _ _ h => h) (by kernel_rfl) hS0 ?hy5 ?_
          case hy5 => (intro W hW; clear hW; go_simp; try rfl)
          simp only [Act.put, List.setIfInBounds_toArray, List.set_cons_zero, List.set_cons_succ]
          refine takeInH 5 22 ?v6 rfl rfl (by kernel_rfl) (by kernel_rfl) (by kernel_rfl) (fun _ _ _ h => h) (by kernel_rfl) hS0 ?hy6 ?_
          case hy6 => (intro W hW; clear hW; go_simp; try rfl)
          simp only [Act.put, List.setIfInBounds_toArray, List.set_cons_zero, List.set_cons_succ]
          refine takeInH 6 23 ?v7 rfl rfl (by kernel_rfl) (by kernel_rfl) (by kernel_rfl) (fun _ _ _ h => h) (by kernel_rfl) hS0 ?hy7 ?_
          case hy7 => (intro W hW; clear hW; go_simp; try rfl)
          simp only [Act.put, List.setIfInBounds_toArray, List.set_cons_zero, List.set_cons_succ]
          refine takeInH 7 24 ?v8 rfl rfl (by kernel_rfl) (by kernel_rfl) (by kernel_rfl) (fun _ _ _ h => h) (by kernel_rfl) hS0 ?hy8 ?_
          case hy8 => (intro W hW; have e0 := bcell hW c0; have e1 := bcell hW c1; have e2 := bcell hW c2; have e3 := bcell hW c3; have e4 := bcell hW c4; have e5 := bcell hW c5; have e6 := bcell hW c6; have e7 := bcell hW d0; have e8 := bcell hW d1; have e9 := bcell hW d2; have e10 := bcell hW d3; have e11 := bcell hW d4; have e12 := bcell hW d5; have e13 := bcell hW d6; clear hW; go_simp; try rfl)
          simp only [Act.put, List.setIfInBounds_toArray, List.set_cons_zero, List.set_cons_succ]
          refine wpAnyH_ready (rs := [8]) (by kernel_rfl) (by simp) ?_
          refine AllReadyH.cons rfl (fun K hK => ?_) AllReadyH.nil
          go_simp
          refine (HON.out _ hS0).mono ?_
          rintro e wy ⟨rfl, hb⟩
          refine hK.out _ _ ?hs9 (fun hS1 => ?_)
          case hs9 => exact bel_next hS0 hb
          clear hK K hb
          try simp only [Act.put, List.setIfInBounds_toArray, List.set_cons_zero, List.set_cons_succ]
          refine takeInH 9 26 ?v10 rfl rfl (by kernel_rfl) (by kernel_rfl) (by kernel_rfl) (fun _ _ _ h => h) (by kernel_rfl) hS1 ?hy10 ?_
          case hy10 => (intro W hW; clear hW; go_simp; try rfl)
          simp only [Act.put, List.setIfInBounds_toArray, List.set_cons_zero, List.set_cons_succ]
          refine wpAnyH_done (by kernel_rfl) ?_ _
          go_wp2
          go_roundw
          case rel => exact ⟨k0 + 1, by omega, by go_num, HF2, (show Hid _ from bel_next HB.out hS1)⟩
          case measure => simp [intOf]; omega
        · have HON : Hid (∀ W, Below wr.heap.size wr W → Calls Tryd.prog 19 #[.agg #[.int .i64 k1, .bool k2, .string k3, .string k4, .int .i64 k5, .slice p k6.length c, .int .i64 k7], .agg #[.int .i64 m1, .bool m2, .string m3, .string m4, .int .i64 m5, .slice p' m6.length c', .int .i64 m7]] W fun e w' => e = .returned (.bool false) ∧ Below W.heap.size W w') := fun W hW => by
            have q := One15 false (k1, k2, k3, k4, k5, k6, k7) (m1, m2, m3, m4, m5, m6, m7) ⟨fun h => absurd h (by decide), fun h => absurd h he⟩ p p' c c' W (HR1.out.below hW) (HR2.out.below hW)
            simp only [decV] at q
            exact q
          have HNO : Hid (b = false) := by
            cases b
            · rfl
            · exfalso
              have q := HBB.out.1 rfl
              have h1 := HX1.out
              rw [q, HX2.out] at h1
              exact he (Option.some.inj h1).symm
          clear he
          go_upto_region 6 with fail
          refine wp_region_held_drew (S := fun W => Below wr.heap.size wr W) (by kernel_rfl) ((Below.refl _ wr).drew) (fun hS0 => ?_)
          refine takeInH 0 17 ?v11 rfl rfl (by kernel_rfl) (by kernel_rfl) (by kernel_rfl) (fun _ _ _ h => h) (by kernel_rfl) hS0 ?hy11 ?_
          case hy11 => (intro W hW; clear hW; go_simp; try rfl)
          simp only [Act.put, List.setIfInBounds_toArray, List.set_cons_zero, List.set_cons_succ]
          refine takeInH 1 18 ?v12 rfl rfl (by kernel_rfl) (by kernel_rfl) (by kernel_rfl) (fun _ _ _ h => h) (by kernel_rfl) hS0 ?hy12 ?_
          case hy12 => (intro W hW; clear hW; go_simp; try rfl)
          simp only [Act.put, List.setIfInBounds_toArray, List.set_cons_zero, List.set_cons_succ]
          refine takeInH 2 19 ?v13 rfl rfl (by kernel_rfl) (by kernel_rfl) (by kernel_rfl) (fun _ _ _ h => h) (by kernel_rfl) hS0 ?hy13 ?_
          case hy13 => (intro W hW; clear hW; go_simp; try rfl)
          simp only [Act.put, List.setIfInBounds_toArray, List.set_cons_zero, List.set_cons_succ]
          refine takeInH 3 20 ?v14 rfl rfl (by kernel_rfl) (by kernel_rfl) (by kernel_rfl) (fun _ _ _ h => h) (by kernel_rfl) hS0 ?hy14 ?_
          case hy14 => (intro W hW; have e0 := bcell hW c0; have e1 := bcell hW c1; have e2 := bcell hW c2; have e3 := bcell hW c3; have e4 := bcell hW c4; have e5 := bcell hW c5; have e6 := bcell hW c6; have e7 := bcell hW d0; have e8 := bcell hW d1; have e9 := bcell hW d2; have e10 := bcell hW d3; have e11 := bcell hW d4; have e12 := bcell hW d5; have e13 := bcell hW d6; clear hW; go_simp; try rfl)
          simp only [Act.put, List.setIfInBounds_toArray, List.set_cons_zero, List.set_cons_succ]
          refine takeInH 4 21 ?v15 rfl rfl (by kernel_rfl) (by kernel_rfl) (by kernel_rfl) (fun _ _ _ h => h) (by kernel_rfl) hS0 ?hy15 ?_
          case hy15 => (intro W hW; clear hW; go_simp; try rfl)
          simp only [Act.put, List.setIfInBounds_toArray, List.set_cons_zero, List.set_cons_succ]
          refine takeInH 5 22 ?v16 rfl rfl (by kernel_rfl) (by kernel_rfl) (by kernel_rfl) (fun _ _ _ h => h) (by kernel_rfl) hS0 ?hy16 ?_
          case hy16 => (intro W hW; clear hW; go_simp; try rfl)
          simp only [Act.put, List.setIfInBounds_toArray, List.set_cons_zero, List.set_cons_succ]
          refine takeInH 6 23 ?v17 rfl rfl (by kernel_rfl) (by kernel_rfl) (by kernel_rfl) (fun _ _ _ h => h) (by kernel_rfl) hS0 ?hy17 ?_
          case hy17 => (intro W hW; clear hW; go_simp; try rfl)
          simp only [Act.put, List.setIfInBounds_toArray, List.set_cons_zero, List.set_cons_succ]
          refine takeInH 7 24 ?v18 rfl rfl (by kernel_rfl) (by kernel_rfl) (by kernel_rfl) (fun _ _ _ h => h) (by kernel_rfl) hS0 ?hy18 ?_
          case hy18 => (intro W hW; have e0 := bcell hW c0; have e1 := bcell hW c1; have e2 := bcell hW c2; have e3 := bcell hW c3; have e4 := bcell hW c4; have e5 := bcell hW c5; have e6 := bcell hW c6; have e7 := bcell hW d0; have e8 := bcell hW d1; have e9 := bcell hW d2; have e10 := bcell hW d3; have e11 := bcell hW d4; have e12 := bcell hW d5; have e13 := bcell hW d6; clear hW; go_simp; try rfl)
          simp only [Act.put, List.setIfInBounds_toArray, List.set_cons_zero, List.set_cons_succ]
          refine wpAnyH_ready (rs := [8]) (by kernel_rfl) (by simp) ?_
          refine AllReadyH.cons rfl (fun K hK => ?_) AllReadyH.nil
          go_simp
          refine (HON.out _ hS0).mono ?_
          rintro e wy ⟨rfl, hb⟩
          refine hK.out _ _ ?hs19 (fun hS1 => ?_)
          case hs19 => exact bel_next hS0 hb
          clear hK K hb
          try simp only [Act.put, List.setIfInBounds_toArray, List.set_cons_zero, List.set_cons_succ]
          refine takeInH 9 26 ?v20 rfl rfl (by kernel_rfl) (by kernel_rfl) (by kernel_rfl) (fun _ _ _ h => h) (by kernel_rfl) hS1 ?hy20 ?_
          case hy20 => (intro W hW; clear hW; go_simp; try rfl)
          simp only [Act.put, List.setIfInBounds_toArray, List.set_cons_zero, List.set_cons_succ]
          refine wpAnyH_done (by kernel_rfl) ?_ _
          go_wp2
          go_ret
          exact ⟨by rw [HNO.out]; rfl, bel_next HB.out hS1⟩
      · obtain rfl : k0 = n := by omega
        have HE : Hid (b = true) := by
          have e := HF.out
          rw [List.take_of_length_le (by rw [HA.out.len]; exact Nat.le_refl _), List.take_of_length_le (by rw [HA'.out.len]; exact Nat.le_refl _)] at e
          exact HBB.out.2 e
        clear HF
        go_wp2
        go_ret
        exact ⟨by rw [HE.out]; rfl, HB.out⟩
  · have q6 : ((n : Int) != (n' : Int)) = true := by simp; omega
    have HNO : Hid (b = false) := by
      cases b
      · rfl
      · exfalso
        have q := HBB.out.1 rfl
        exact hnn (by rw [← HA.out.len, ← HA'.out.len, q])
    clear hnn
    go_enter Tryd.func9, Tryd.ntmps9
    go_wp2
    go_ret
    exact ⟨by rw [HNO.out]; rfl, Below.refl _ _⟩
end Go.Proofs.YtadmibfnjhockaaDoor
