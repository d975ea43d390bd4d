/- What 'Join' does. -/
import Derived.Test.YtccpbkemiilgcaaDAdd
namespace Go.Proofs.Ytccpbkemiilgcaa
open Go.RowKit
set_option linter.unusedVariables false

theorem CS.cells2 {w : World} {G : Nat} {p1 p2 : Option Addr} {n1 c1 n2 c2 : Nat} {c d : List Int} (e0 : w.cell? ⟨G, 0, none⟩ = some (.slice p1 n1 c1)) (e1 : w.cell? ⟨G, 1, none⟩ = some (.slice p2 n2 c2)) (h1 : NS w p1 n1 c) (h2 : NS w p2 n2 d) : CS w (some ⟨G, 0, none⟩) 2 [c, d] := by
  refine ⟨rfl, by decide, .inr ⟨G, 0, rfl, fun i hi => ?_⟩⟩
  rcases i with _ | _ | i
  · exact ⟨p1, n1, c1, e0, h1⟩
  · exact ⟨p2, n2, c2, e1, h2⟩
  · omega
theorem joinTwo {w : World} {G : Nat} {p1 p2 : Option Addr} {n1 c1 n2 c2 : Nat} {c d : List Int} (e0 : w.cell? ⟨G, 0, none⟩ = some (.slice p1 n1 c1)) (e1 : w.cell? ⟨G, 1, none⟩ = some (.slice p2 n2 c2)) (h1 : NS w p1 n1 c) (h2 : NS w p2 n2 d) :
    Calls Try.prog 45 #[.slice (some ⟨G, 0, none⟩) 2 2] w fun e w' => ∃ v, e = .returned v ∧ OwnN w.heap.size w' v (pln (joinL c d)) ∧ Below w.heap.size w w' := by
  have h := Join_any (some ⟨G, 0, none⟩) 2 2 [c, d] w (CS.cells2 e0 e1 h1 h2)
  rw [joins2] at h
  exact h
def joinF (c c' : List Int) (m m' : List Dot) : Sn := foldX (joinL c c') (ordD (m ++ m'))
theorem joinF_as (c c' : List Int) (m m' : List Dot) : foldX (vec (pln (joinL c c'))) (ordD (m ++ m')) = joinF c c' m m' := by
  unfold joinF; rw [vec_pln (joinL c c') rfl (joinL_bd c c')]
theorem seen_both {c c' : List Int} {m m' : List Dot} (h1 : seenB c m = true) (h2 : seenB c' m' = true) : ∀ x ∈ ordD (m ++ m'), mayD x = true := by
  intro x hx
  rcases List.mem_append.1 (ordD_mem.1 hx) with h | h
  · exact ((seen_good h1).1.2.2 x h).1
  · exact ((seen_good h2).1.2.2 x h).1

set_option maxHeartbeats 1000000 in
set_option maxRecDepth 100000 in
theorem Join_bad1 (pa pm : Option Addr) (na ca nm cm : Nat) (c : List Int) (m : List Dot) (qa qm : Option Addr) (ja ba jm bm : Nat) (c' : List Int) (m' : List Dot) (w : World) (hN : NS w pa na c) (hD : DS w pm nm m) (hN' : NS w qa ja c') (hD' : DS w qm jm m') (hs : seenB c m = false) :
    Calls Try.prog 23 #[.agg #[.slice pa na ca, .slice pm nm cm], .agg #[.slice qa ja ba, .slice qm jm bm]] w (OutS w [] [] 1) := by
  have HKa := hide (fun W (h : NS W pa na c) (k : DS W pm nm m) => Check_any pa pm na ca nm cm c m W h k)
  have HKb := hide (fun W (h : NS W qa ja c') (k : DS W qm jm m') => Check_any qa qm ja ba jm bm c' m' W h k)
  have HN := hide hN
  have HD := hide hD
  have HN' := hide hN'
  have HD' := hide hD'
  have c0 : (((w.alloc (bxS pa pm na ca nm cm)).alloc (bxS qa qm ja ba jm bm)).alloc bxZ).cell? ⟨w.heap.size, 0, none⟩ = some (.slice pa na ca) := cell_old _ (cell_old _ (cell_new w _ _ _ rfl 0 _ rfl))
  have c1 : (((w.alloc (bxS pa pm na ca nm cm)).alloc (bxS qa qm ja ba jm bm)).alloc bxZ).cell? ⟨w.heap.size, 1, none⟩ = some (.slice pm nm cm) := cell_old _ (cell_old _ (cell_new w _ _ _ rfl 1 _ rfl))
  have c2 : (((w.alloc (bxS pa pm na ca nm cm)).alloc (bxS qa qm ja ba jm bm)).alloc bxZ).cell? ⟨w.heap.size + 1, 0, none⟩ = some (.slice qa ja ba) := cell_old _ (cell_new _ _ _ _ (by simp) 0 _ rfl)
  have c3 : (((w.alloc (bxS pa pm na ca nm cm)).alloc (bxS qa qm ja ba jm bm)).alloc bxZ).cell? ⟨w.heap.size + 1, 1, none⟩ = some (.slice qm jm bm) := cell_old _ (cell_new _ _ _ _ (by simp) 1 _ rfl)
  have hR : RC (((w.alloc (bxS pa pm na ca nm cm)).alloc (bxS qa qm ja ba jm bm)).alloc bxZ) (w.heap.size + 1 + 1) := by
    unfold RC
    rw [show w.heap.size + 1 + 1 = ((w.alloc (bxS pa pm na ca nm cm)).alloc (bxS qa qm ja ba jm bm)).heap.size by simp, heap_alloc_new]
  have HR := hide hR
  have HU := hide (bel3 w (bxS pa pm na ca nm cm) (bxS qa qm ja ba jm bm) bxZ)
  clear hN hD hN' hD' hR
  have hk := chkS_bad hs
  rw [← hk] at HKa
  clear hk hs
  go_enter Try.func23, Try.ntmps23
  go_wp2_with fail
  refine Calls.mono (HKa.out _ (HN.out.below HU.out) (HD.out.below HU.out)) ?_
  rintro e u ⟨rfl, hb⟩
  replace c0 := bcell hb c0
  replace c1 := bcell hb c1
  replace c2 := bcell hb c2
  replace c3 := bcell hb c3
  replace HU := hide (bel_next HU.out hb)
  replace HR := hide (HR.out.below hb)
  clear hb
  have e0 := HR.out.cells.1
  have e1 := HR.out.cells.2.1
  have z0 := HR.out.cells.2.2.1
  have z1 := HR.out.cells.2.2.2
  go_wp2
  refine bodyPost_ret (results_cell_tmp rfl _ _ _ _ _ _ _ _ rfl rfl (HR.out.put _ _) Try.underlying26 rfl Try.infoSeen) rfl ?_
  exact OutS.none _ _ _ (bel_put HU.out (by omega) _ _)

set_option maxHeartbeats 1000000 in
set_option maxRecDepth 100000 in
theorem Join_bad2 (pa pm : Option Addr) (na ca nm cm : Nat) (c : List Int) (m : List Dot) (qa qm : Option Addr) (ja ba jm bm : Nat) (c' : List Int) (m' : List Dot) (w : World) (hN : NS w pa na c) (hD : DS w pm nm m) (hN' : NS w qa ja c') (hD' : DS w qm jm m') (hs : seenB c m = true) (hs' : seenB c' m' = false) :
    Calls Try.prog 23 #[.agg #[.slice pa na ca, .slice pm nm cm], .agg #[.slice qa ja ba, .slice qm jm bm]] w (OutS w [] [] 1) := by
  have HKa := hide (fun W (h : NS W pa na c) (k : DS W pm nm m) => Check_any pa pm na ca nm cm c m W h k)
  have HKb := hide (fun W (h : NS W qa ja c') (k : DS W qm jm m') => Check_any qa qm ja ba jm bm c' m' W h k)
  have HN := hide hN
  have HD := hide hD
  have HN' := hide hN'
  have HD' := hide hD'
  have c0 : (((w.alloc (bxS pa pm na ca nm cm)).alloc (bxS qa qm ja ba jm bm)).alloc bxZ).cell? ⟨w.heap.size, 0, none⟩ = some (.slice pa na ca) := cell_old _ (cell_old _ (cell_new w _ _ _ rfl 0 _ rfl))
  have c1 : (((w.alloc (bxS pa pm na ca nm cm)).alloc (bxS qa qm ja ba jm bm)).alloc bxZ).cell? ⟨w.heap.size, 1, none⟩ = some (.slice pm nm cm) := cell_old _ (cell_old _ (cell_new w _ _ _ rfl 1 _ rfl))
  have c2 : (((w.alloc (bxS pa pm na ca nm cm)).alloc (bxS qa qm ja ba jm bm)).alloc bxZ).cell? ⟨w.heap.size + 1, 0, none⟩ = some (.slice qa ja ba) := cell_old _ (cell_new _ _ _ _ (by simp) 0 _ rfl)
  have c3 : (((w.alloc (bxS pa pm na ca nm cm)).alloc (bxS qa qm ja ba jm bm)).alloc bxZ).cell? ⟨w.heap.size + 1, 1, none⟩ = some (.slice qm jm bm) := cell_old _ (cell_new _ _ _ _ (by simp) 1 _ rfl)
  have hR : RC (((w.alloc (bxS pa pm na ca nm cm)).alloc (bxS qa qm ja ba jm bm)).alloc bxZ) (w.heap.size + 1 + 1) := by
    unfold RC
    rw [show w.heap.size + 1 + 1 = ((w.alloc (bxS pa pm na ca nm cm)).alloc (bxS qa qm ja ba jm bm)).heap.size by simp, heap_alloc_new]
  have HR := hide hR
  have HU := hide (bel3 w (bxS pa pm na ca nm cm) (bxS qa qm ja ba jm bm) bxZ)
  clear hN hD hN' hD' hR
  have hk := chkS_good hs
  rw [← hk] at HKa
  have hk' := chkS_bad hs'
  rw [← hk'] at HKb
  clear hk hs hk' hs'
  go_enter Try.func23, Try.ntmps23
  go_wp2_with fail
  refine Calls.mono (HKa.out _ (HN.out.below HU.out) (HD.out.below HU.out)) ?_
  rintro e u ⟨rfl, hb⟩
  replace c0 := bcell hb c0
  replace c1 := bcell hb c1
  replace c2 := bcell hb c2
  replace c3 := bcell hb c3
  replace HU := hide (bel_next HU.out hb)
  replace HR := hide (HR.out.below hb)
  clear hb
  go_wp2_with fail
  refine Calls.mono (HKb.out _ (HN'.out.below HU.out) (HD'.out.below HU.out)) ?_
  rintro e u ⟨rfl, hb⟩
  replace c0 := bcell hb c0
  replace c1 := bcell hb c1
  replace c2 := bcell hb c2
  replace c3 := bcell hb c3
  replace HU := hide (bel_next HU.out hb)
  replace HR := hide (HR.out.below hb)
  clear hb
  have e0 := HR.out.cells.1
  have e1 := HR.out.cells.2.1
  have z0 := HR.out.cells.2.2.1
  have z1 := HR.out.cells.2.2.2
  go_wp2
  refine bodyPost_ret (results_cell_tmp rfl _ _ _ _ _ _ _ _ rfl rfl (HR.out.put _ _) Try.underlying26 rfl Try.infoSeen) rfl ?_
  exact OutS.none _ _ _ (bel_put HU.out (by omega) _ _)

set_option maxHeartbeats 8000000 in
set_option maxRecDepth 100000 in
theorem Join_good (pa pm : Option Addr) (na ca nm cm : Nat) (c : List Int) (m : List Dot) (qa qm : Option Addr) (ja ba jm bm : Nat) (c' : List Int) (m' : List Dot) (w : World) (hN : NS w pa na c) (hD : DS w pm nm m) (hN' : NS w qa ja c') (hD' : DS w qm jm m') (hs : seenB c m = true) (hs' : seenB c' m' = true) (hkm : pm = none → cm = 0) (hkl : qm = none → bm = 0) (hsm : nm + jm ≤ 1000) :
    Calls Try.prog 23 #[.agg #[.slice pa na ca, .slice pm nm cm], .agg #[.slice qa ja ba, .slice qm jm bm]] w (OutS w (pln (joinF c c' m m').1) (joinF c c' m m').2 0) := by
  have HKa := hide (fun W (h : NS W pa na c) (k : DS W pm nm m) => Check_any pa pm na ca nm cm c m W h k)
  have HKb := hide (fun W (h : NS W qa ja c') (k : DS W qm jm m') => Check_any qa qm ja ba jm bm c' m' W h k)
  have HN := hide hN
  have HD := hide hD
  have HN' := hide hN'
  have HD' := hide hD'
  have c0 : (((w.alloc (bxS pa pm na ca nm cm)).alloc (bxS qa qm ja ba jm bm)).alloc bxZ).cell? ⟨w.heap.size, 0, none⟩ = some (.slice pa na ca) := cell_old _ (cell_old _ (cell_new w _ _ _ rfl 0 _ rfl))
  have c1 : (((w.alloc (bxS pa pm na ca nm cm)).alloc (bxS qa qm ja ba jm bm)).alloc bxZ).cell? ⟨w.heap.size, 1, none⟩ = some (.slice pm nm cm) := cell_old _ (cell_old _ (cell_new w _ _ _ rfl 1 _ rfl))
  have c2 : (((w.alloc (bxS pa pm na ca nm cm)).alloc (bxS qa qm ja ba jm bm)).alloc bxZ).cell? ⟨w.heap.size + 1, 0, none⟩ = some (.slice qa ja ba) := cell_old _ (cell_new _ _ _ _ (by simp) 0 _ rfl)
  have c3 : (((w.alloc (bxS pa pm na ca nm cm)).alloc (bxS qa qm ja ba jm bm)).alloc bxZ).cell? ⟨w.heap.size + 1, 1, none⟩ = some (.slice qm jm bm) := cell_old _ (cell_new _ _ _ _ (by simp) 1 _ rfl)
  have hR : RC (((w.alloc (bxS pa pm na ca nm cm)).alloc (bxS qa qm ja ba jm bm)).alloc bxZ) (w.heap.size + 1 + 1) := by
    unfold RC
    rw [show w.heap.size + 1 + 1 = ((w.alloc (bxS pa pm na ca nm cm)).alloc (bxS qa qm ja ba jm bm)).heap.size by simp, heap_alloc_new]
  have HR := hide hR
  have HU := hide (bel3 w (bxS pa pm na ca nm cm) (bxS qa qm ja ba jm bm) bxZ)
  clear hN hD hN' hD' hR
  have hk := chkS_good hs
  rw [← hk] at HKa
  have hk' := chkS_good hs'
  rw [← hk'] at HKb
  have HLen : Hid (m.length = nm ∧ m'.length = jm) := ⟨HD.out.1, HD'.out.1⟩
  have HMc := hide (mayC_pln (joinL c c') (Nat.le_refl 5) (joinL_bd c c'))
  have HAll := hide (seen_both hs hs')
  have KM := hide hkm
  have KL := hide hkl
  clear hk hs hk' hs' hkm hkl
  go_enter Try.func23, Try.ntmps23
  go_wp2_with fail
  refine Calls.mono (HKa.out _ (HN.out.below HU.out) (HD.out.below HU.out)) ?_
  rintro e u ⟨rfl, hb⟩
  replace c0 := bcell hb c0
  replace c1 := bcell hb c1
  replace c2 := bcell hb c2
  replace c3 := bcell hb c3
  replace HU := hide (bel_next HU.out hb)
  replace HR := hide (HR.out.below hb)
  clear hb
  go_wp2_with fail
  refine Calls.mono (HKb.out _ (HN'.out.below HU.out) (HD'.out.below HU.out)) ?_
  rintro e u ⟨rfl, hb⟩
  replace c0 := bcell hb c0
  replace c1 := bcell hb c1
  replace c2 := bcell hb c2
  replace c3 := bcell hb c3
  replace HU := hide (bel_next HU.out hb)
  replace HR := hide (HR.out.below hb)
  clear hb
  go_wp2
  have HWu := HU
  have HR1 := HR
  have HRn := HR
  have hB1 : w.heap.size + 2 ≤ u.heap.size := by have := HR1.out.size; omega
  clear HU HR
  generalize u = u1 at *
  refine wp_region_held_drew (S := fun W => Below (w.heap.size + 2) u1 W) (by kernel_rfl) ((Below.refl _ u1).drew) (fun hS0 => ?_)
  refine takeInH 0 15 ?v1 rfl rfl (by kernel_rfl) (by kernel_rfl) (by kernel_rfl) (fun _ _ _ h => h) (by kernel_rfl) hS0 ?hy1 ?_
  case hy1 => (intro W hW; clear hW; go_simp; try rfl)
  simp only [Act.put, List.setIfInBounds_toArray, List.set_cons_zero, List.set_cons_succ]
  refine takeInH 1 16 ?v2 rfl rfl (by kernel_rfl) (by kernel_rfl) (by kernel_rfl) (fun _ _ _ h => h) (by kernel_rfl) hS0 ?hy2 ?_
  case hy2 => (intro W hW; have e0 := bcellN hW c0 (by simp); have e1 := bcellN hW c1 (by simp); have e2 := bcellN hW c2 (by simp); have e3 := bcellN hW c3 (by simp); clear hW; go_simp; try rfl)
  simp only [Act.put, List.setIfInBounds_toArray, List.set_cons_zero, List.set_cons_succ]
  refine takeInH 2 17 ?v3 rfl rfl (by kernel_rfl) (by kernel_rfl) (by kernel_rfl) (fun _ _ _ h => h) (by kernel_rfl) hS0 ?hy3 ?_
  case hy3 => (intro W hW; clear hW; go_simp; try rfl)
  simp only [Act.put, List.setIfInBounds_toArray, List.set_cons_zero, List.set_cons_succ]
  refine takeInH 3 18 ?v4 rfl rfl (by kernel_rfl) (by kernel_rfl) (by kernel_rfl) (fun _ _ _ h => h) (by kernel_rfl) hS0 ?hy4 ?_
  case hy4 => (intro W hW; have e0 := bcellN hW c0 (by simp); have e1 := bcellN hW c1 (by simp); have e2 := bcellN hW c2 (by simp); have e3 := bcellN hW c3 (by simp); clear hW; go_simp; try rfl)
  simp only [Act.put, List.setIfInBounds_toArray, List.set_cons_zero, List.set_cons_succ]
  refine takeInH 6 21 ?v5 rfl rfl (by kernel_rfl) (by kernel_rfl) (by kernel_rfl) (fun _ _ _ h => h) (by kernel_rfl) hS0 ?hy5 ?_
  case hy5 => (intro W hW; clear hW; go_simp; try rfl)
  simp only [Act.put, List.setIfInBounds_toArray, List.set_cons_zero, List.set_cons_succ]
  refine takeInH 7 22 ?v6 rfl rfl (by kernel_rfl) (by kernel_rfl) (by kernel_rfl) (fun _ _ _ h => h) (by kernel_rfl) hS0 ?hy6 ?_
  case hy6 => (intro W hW; have e0 := bcellN hW c0 (by simp); have e1 := bcellN hW c1 (by simp); have e2 := bcellN hW c2 (by simp); have e3 := bcellN hW c3 (by simp); clear hW; go_simp; try rfl)
  simp only [Act.put, List.setIfInBounds_toArray, List.set_cons_zero, List.set_cons_succ]
  refine takeInH 8 23 ?v7 rfl rfl (by kernel_rfl) (by kernel_rfl) (by kernel_rfl) (fun _ _ _ h => h) (by kernel_rfl) hS0 ?hy7 ?_
  case hy7 => (intro W hW; clear hW; go_simp; try rfl)
  simp only [Act.put, List.setIfInBounds_toArray, List.set_cons_zero, List.set_cons_succ]
  refine takeInH 9 24 ?v8 rfl rfl (by kernel_rfl) (by kernel_rfl) (by kernel_rfl) (fun _ _ _ h => h) (by kernel_rfl) hS0 ?hy8 ?_
  case hy8 => (intro W hW; have e0 := bcellN hW c0 (by simp); have e1 := bcellN hW c1 (by simp); have e2 := bcellN hW c2 (by simp); have e3 := bcellN hW c3 (by simp); clear hW; go_simp; try rfl)
  simp only [Act.put, List.setIfInBounds_toArray, List.set_cons_zero, List.set_cons_succ]
  refine wpAnyH_ready (rs := [4, 10]) (by kernel_rfl) (by simp) ?_
  refine AllReadyH.cons rfl (fun K hK => ?_) (AllReadyH.cons rfl (fun K hK => ?_) AllReadyH.nil)
  · go_simp
    have hb : Below u1.heap.size u1 (u1.alloc (.cells #[.slice pa na ca, .slice qa ja ba] 23)).drew := ((Below.refl _ u1).alloc (Nat.le_refl _) _).drew
    have hSn : Below (w.heap.size + 2) u1 (u1.alloc (.cells #[.slice pa na ca, .slice qa ja ba] 23)).drew := hb.mono hB1
    (try replace a0 := bcell hb a0)
    (try replace a1 := bcell hb a1)
    (try replace b0 := bcell hb b0)
    (try replace b1 := bcell hb b1)
    (try replace NJ := hide (NJ.out.below hb))
    (try replace HDq := hide (HDq.out.below hb))
    replace HRn := hide (HRn.out.below hb)
    have a0 : (u1.alloc (.cells #[.slice pa na ca, .slice qa ja ba] 23)).drew.cell? ⟨u1.heap.size, 0, none⟩ = some (.slice pa na ca) := cell_new u1 _ _ _ rfl 0 _ rfl
    have a1 : (u1.alloc (.cells #[.slice pa na ca, .slice qa ja ba] 23)).drew.cell? ⟨u1.heap.size, 1, none⟩ = some (.slice qa ja ba) := cell_new u1 _ _ _ rfl 1 _ rfl
    clear hb
    generalize (u1.alloc (.cells #[.slice pa na ca, .slice qa ja ba] 23)).drew = W1 at *
    refine hK.out _ _ ?hs9 (fun hS1 => ?_)
    case hs9 => exact hSn
    clear hK K
    try simp only [Act.put, List.setIfInBounds_toArray, List.set_cons_zero, List.set_cons_succ]
    refine wpAnyH_ready (rs := [5, 10]) (by kernel_rfl) (by simp) ?_
    refine AllReadyH.cons rfl (fun K hK => ?_) (AllReadyH.cons rfl (fun K hK => ?_) AllReadyH.nil)
    · go_simp
      refine Calls.mono (joinTwo a0 a1 (HN.out.below (HWu.out.trans (hS1.mono (by omega)))) (HN'.out.below (HWu.out.trans (hS1.mono (by omega))))) ?_
      rintro e W2 ⟨vj, rfl, hOj, hb⟩
      obtain ⟨pj, cj, hvj, hnj, _⟩ := hOj.open
      subst hvj
      obtain ⟨nj, hnjl⟩ : ∃ nj, nj = (pln (joinL c c')).length := ⟨_, rfl⟩
      rw [← hnjl] at hnj ⊢
      have hSn := belN hS1 hB1 hb
      (try replace a0 := bcell hb a0)
      (try replace a1 := bcell hb a1)
      (try replace b0 := bcell hb b0)
      (try replace b1 := bcell hb b1)
      (try replace NJ := hide (NJ.out.below hb))
      (try replace HDq := hide (HDq.out.below hb))
      replace HRn := hide (HRn.out.below hb)
      have NJ := hide hnj
      clear hnj hOj hnjl a0 a1
      clear hb
      try go_wp2_with fail
      refine hK.out _ _ ?hs10 (fun hS2 => ?_)
      case hs10 => exact hSn
      clear hK K
      try simp only [Act.put, List.setIfInBounds_toArray, List.set_cons_zero, List.set_cons_succ]
      refine wpAnyH_ready (rs := [10]) (by kernel_rfl) (by simp) ?_
      refine AllReadyH.cons rfl (fun K hK => ?_) AllReadyH.nil
      go_simp
      have hb := bel1 W2 (.cells #[.slice pm nm cm, .slice qm jm bm] 24)
      have hSn := belN hS2 hB1 hb
      (try replace a0 := bcell hb a0)
      (try replace a1 := bcell hb a1)
      (try replace b0 := bcell hb b0)
      (try replace b1 := bcell hb b1)
      (try replace NJ := hide (NJ.out.below hb))
      (try replace HDq := hide (HDq.out.below hb))
      replace HRn := hide (HRn.out.below hb)
      have b0 : (W2.alloc (.cells #[.slice pm nm cm, .slice qm jm bm] 24)).cell? ⟨W2.heap.size, 0, none⟩ = some (.slice pm nm cm) := cell_new W2 _ _ _ rfl 0 _ rfl
      have b1 : (W2.alloc (.cells #[.slice pm nm cm, .slice qm jm bm] 24)).cell? ⟨W2.heap.size, 1, none⟩ = some (.slice qm jm bm) := cell_new W2 _ _ _ rfl 1 _ rfl
      clear hb
      generalize W2.alloc (.cells #[.slice pm nm cm, .slice qm jm bm] 24) = W3 at *
      refine hK.out _ _ ?hs11 (fun hS3 => ?_)
      case hs11 => exact hSn
      clear hK K
      try simp only [Act.put, List.setIfInBounds_toArray, List.set_cons_zero, List.set_cons_succ]
      refine wpAnyH_ready (rs := [11]) (by kernel_rfl) (by simp) ?_
      refine AllReadyH.cons rfl (fun K hK => ?_) AllReadyH.nil
      go_simp
      refine Calls.mono (concat_any _ pm qm nm cm jm bm m m' _ b0 b1 (HD.out.below (HWu.out.trans (hS3.mono (by omega)))) (HD'.out.below (HWu.out.trans (hS3.mono (by omega)))) KM.out KL.out (by omega)) ?_
      rintro e W4 ⟨v, rfl, hO, hb⟩
      obtain ⟨q, cq, hv, hds, _⟩ := hO.open
      subst hv
      obtain ⟨nq, hnq⟩ : ∃ nq, nq = (m ++ m').length := ⟨_, rfl⟩
      rw [← hnq] at hds ⊢
      have hnq2 : nq ≤ 1000000 := by rw [hnq, List.length_append]; have := HLen.out; omega
      have hSn := belN hS3 hB1 hb
      (try replace a0 := bcell hb a0)
      (try replace a1 := bcell hb a1)
      (try replace b0 := bcell hb b0)
      (try replace b1 := bcell hb b1)
      (try replace NJ := hide (NJ.out.below hb))
      (try replace HDq := hide (HDq.out.below hb))
      replace HRn := hide (HRn.out.below hb)
      have HDq := hide hds
      clear hds hO hnq b0 b1
      clear hb
      try go_wp2_with fail
      refine hK.out _ _ ?hs12 (fun hS4 => ?_)
      case hs12 => exact hSn
      clear hK K
      try simp only [Act.put, List.setIfInBounds_toArray, List.set_cons_zero, List.set_cons_succ]
      refine wpAnyH_ready (rs := [12]) (by kernel_rfl) (by simp) ?_
      refine AllReadyH.cons rfl (fun K hK => ?_) AllReadyH.nil
      go_simp
      refine Calls.mono (Order_dots q nq cq (m ++ m') _ HDq.out hnq2) ?_
      rintro e W5 ⟨q2, cq2, rfl, hds, _, hb⟩
      have hSn := belN hS4 hB1 hb
      (try replace a0 := bcell hb a0)
      (try replace a1 := bcell hb a1)
      (try replace b0 := bcell hb b0)
      (try replace b1 := bcell hb b1)
      (try replace NJ := hide (NJ.out.below hb))
      (try replace HDq := hide (HDq.out.below hb))
      replace HRn := hide (HRn.out.below hb)
      replace HDq := hide hds
      clear hds
      clear hb
      try go_wp2_with fail
      refine hK.out _ _ ?hs13 (fun hS5 => ?_)
      case hs13 => exact hSn
      clear hK K
      try simp only [Act.put, List.setIfInBounds_toArray, List.set_cons_zero, List.set_cons_succ]
      refine wpAnyH_ready (rs := [13]) (by kernel_rfl) (by simp) ?_
      refine AllReadyH.cons rfl (fun K hK => ?_) AllReadyH.nil
      go_simp
      refine Calls.mono (fold_any pj nj cj (pln (joinL c c')) q2 _ cq2 (ordD (m ++ m')) _ NJ.out HMc.out HDq.out HAll.out (by have := ordD_len (m ++ m'); rw [List.length_append] at this; have := HLen.out; omega)) ?_
      rintro e W6 ⟨⟨p1, k1, d1, p2, k2, d2, rfl, hns, hcp1, hds, hcp2, hb1, hb2⟩, hb⟩
      rw [joinF_as] at hns hds
      have hsz3 := hS5.size
      have hSn := belN hS5 hB1 hb
      (try replace a0 := bcell hb a0)
      (try replace a1 := bcell hb a1)
      (try replace b0 := bcell hb b0)
      (try replace b1 := bcell hb b1)
      (try replace NJ := hide (NJ.out.below hb))
      (try replace HDq := hide (HDq.out.below hb))
      replace HRn := hide (HRn.out.below hb)
      have e0 := HRn.out.cells.1
      have e1 := HRn.out.cells.2.1
      have z0 := HRn.out.cells.2.2.1
      have z1 := HRn.out.cells.2.2.2
      have HO1 := hide hns
      have HO2 := hide hcp1
      have HO3 := hide hds
      have HO4 := hide hcp2
      have HO5 := hide hb1
      have HO6 := hide hb2
      clear hns hcp1 hds hcp2 hb1 hb2
      clear hb
      try go_wp2_with fail
      refine hK.out _ _ ?hs14 (fun hS6 => ?_)
      case hs14 => exact hSn
      clear hK K
      try simp only [Act.put, List.setIfInBounds_toArray, List.set_cons_zero, List.set_cons_succ]
      refine takeInH 14 29 ?v15 rfl rfl (by kernel_rfl) (by kernel_rfl) (by kernel_rfl) (fun _ _ _ h => h) (by kernel_rfl) hS6 ?hy15 ?_
      case hy15 => (intro W hW; clear hW; go_simp; try rfl)
      simp only [Act.put, List.setIfInBounds_toArray, List.set_cons_zero, List.set_cons_succ]
      refine takeInH 15 30 ?v16 rfl rfl (by kernel_rfl) (by kernel_rfl) (by kernel_rfl) (fun _ _ _ h => h) (by kernel_rfl) hS6 ?hy16 ?_
      case hy16 => (intro W hW; clear hW; go_simp; try rfl)
      simp only [Act.put, List.setIfInBounds_toArray, List.set_cons_zero, List.set_cons_succ]
      refine wpAnyH_ready (rs := [16]) (by kernel_rfl) (by simp) ?_
      refine AllReadyH.cons rfl (fun K hK => ?_) AllReadyH.nil
      go_simp
      refine hK.out _ _ ?hs17 (fun hS7 => ?_)
      case hs17 => exact ((hS6.setCell (p := ⟨w.heap.size + 1 + 1, 0, none⟩) (Nat.le_refl _) _).setCell (p := ⟨w.heap.size + 1 + 1, 1, none⟩) (Nat.le_refl _) _)
      clear hK K
      try simp only [Act.put, List.setIfInBounds_toArray, List.set_cons_zero, List.set_cons_succ]
      refine takeInH 17 5 ?v18 rfl rfl (by kernel_rfl) (by kernel_rfl) (by kernel_rfl) (fun _ _ _ h => h) (by kernel_rfl) hS7 ?hy18 ?_
      case hy18 => (intro W hW; clear hW; go_simp; try rfl)
      simp only [Act.put, List.setIfInBounds_toArray, List.set_cons_zero, List.set_cons_succ]
      refine wpAnyH_done (by kernel_rfl) ?_ _
      have HE : Hid (OutS w (pln (joinF c c' m m').1) (joinF c c' m m').2 0 (.returned (.tuple #[.agg #[.slice p1 k1 d1, .slice p2 k2 d2], .int .i64 0])) ((W6.setCell ⟨w.heap.size + 1 + 1, 0, none⟩ (.slice p1 k1 d1)).setCell ⟨w.heap.size + 1 + 1, 1, none⟩ (.slice p2 k2 d2))) := by
        refine ⟨⟨p1, k1, d1, p2, k2, d2, rfl, (HO1.out.set _ _ ?_).set _ _ ?_, HO2.out, (HO3.out.set _ _ ?_).set _ _ ?_, HO4.out, ?_, ?_⟩, HWu.out.trans (hS7.mono (by omega))⟩
        · intro a ha; have := HO5.out a ha; have := HR1.out.size; show a.block ≠ w.heap.size + 1 + 1; omega
        · intro a ha; have := HO5.out a ha; have := HR1.out.size; show a.block ≠ w.heap.size + 1 + 1; omega
        · intro a ha; have := HO6.out a ha; have := HR1.out.size; show a.block ≠ w.heap.size + 1 + 1; omega
        · intro a ha; have := HO6.out a ha; have := HR1.out.size; show a.block ≠ w.heap.size + 1 + 1; omega
        · intro a ha; have := HO5.out a ha; omega
        · intro a ha; have := HO6.out a ha; omega
      go_wp2
      refine bodyPost_ret (results_cell_tmp rfl _ _ _ _ _ _ _ _ rfl rfl (HRn.out.put _ _) Try.underlying26 rfl Try.infoSeen) rfl ?_
      exact HE.out
    · go_simp
      have hb := bel1 W1 (.cells #[.slice pm nm cm, .slice qm jm bm] 24)
      have hSn := belN hS1 hB1 hb
      (try replace a0 := bcell hb a0)
      (try replace a1 := bcell hb a1)
      (try replace b0 := bcell hb b0)
      (try replace b1 := bcell hb b1)
      (try replace NJ := hide (NJ.out.below hb))
      (try replace HDq := hide (HDq.out.below hb))
      replace HRn := hide (HRn.out.below hb)
      have b0 : (W1.alloc (.cells #[.slice pm nm cm, .slice qm jm bm] 24)).cell? ⟨W1.heap.size, 0, none⟩ = some (.slice pm nm cm) := cell_new W1 _ _ _ rfl 0 _ rfl
      have b1 : (W1.alloc (.cells #[.slice pm nm cm, .slice qm jm bm] 24)).cell? ⟨W1.heap.size, 1, none⟩ = some (.slice qm jm bm) := cell_new W1 _ _ _ rfl 1 _ rfl
      clear hb
      generalize W1.alloc (.cells #[.slice pm nm cm, .slice qm jm bm] 24) = W2 at *
      refine hK.out _ _ ?hs19 (fun hS2 => ?_)
      case hs19 => exact hSn
      clear hK K
      try simp only [Act.put, List.setIfInBounds_toArray, List.set_cons_zero, List.set_cons_succ]
      refine wpAnyH_ready (rs := [5]) (by kernel_rfl) (by simp) ?_
      refine AllReadyH.cons rfl (fun K hK => ?_) AllReadyH.nil
      go_simp
      refine Calls.mono (joinTwo a0 a1 (HN.out.below (HWu.out.trans (hS2.mono (by omega)))) (HN'.out.below (HWu.out.trans (hS2.mono (by omega))))) ?_
      rintro e W3 ⟨vj, rfl, hOj, hb⟩
      obtain ⟨pj, cj, hvj, hnj, _⟩ := hOj.open
      subst hvj
      obtain ⟨nj, hnjl⟩ : ∃ nj, nj = (pln (joinL c c')).length := ⟨_, rfl⟩
      rw [← hnjl] at hnj ⊢
      have hSn := belN hS2 hB1 hb
      (try replace a0 := bcell hb a0)
      (try replace a1 := bcell hb a1)
      (try replace b0 := bcell hb b0)
      (try replace b1 := bcell hb b1)
      (try replace NJ := hide (NJ.out.below hb))
      (try replace HDq := hide (HDq.out.below hb))
      replace HRn := hide (HRn.out.below hb)
      have NJ := hide hnj
      clear hnj hOj hnjl a0 a1
      clear hb
      try go_wp2_with fail
      refine hK.out _ _ ?hs20 (fun hS3 => ?_)
      case hs20 => exact hSn
      clear hK K
      try simp only [Act.put, List.setIfInBounds_toArray, List.set_cons_zero, List.set_cons_succ]
      refine wpAnyH_ready (rs := [11]) (by kernel_rfl) (by simp) ?_
      refine AllReadyH.cons rfl (fun K hK => ?_) AllReadyH.nil
      go_simp
      refine Calls.mono (concat_any _ pm qm nm cm jm bm m m' _ b0 b1 (HD.out.below (HWu.out.trans (hS3.mono (by omega)))) (HD'.out.below (HWu.out.trans (hS3.mono (by omega)))) KM.out KL.out (by omega)) ?_
      rintro e W4 ⟨v, rfl, hO, hb⟩
      obtain ⟨q, cq, hv, hds, _⟩ := hO.open
      subst hv
      obtain ⟨nq, hnq⟩ : ∃ nq, nq = (m ++ m').length := ⟨_, rfl⟩
      rw [← hnq] at hds ⊢
      have hnq2 : nq ≤ 1000000 := by rw [hnq, List.length_append]; have := HLen.out; omega
      have hSn := belN hS3 hB1 hb
      (try replace a0 := bcell hb a0)
      (try replace a1 := bcell hb a1)
      (try replace b0 := bcell hb b0)
      (try replace b1 := bcell hb b1)
      (try replace NJ := hide (NJ.out.below hb))
      (try replace HDq := hide (HDq.out.below hb))
      replace HRn := hide (HRn.out.below hb)
      have HDq := hide hds
      clear hds hO hnq b0 b1
      clear hb
      try go_wp2_with fail
      refine hK.out _ _ ?hs21 (fun hS4 => ?_)
      case hs21 => exact hSn
      clear hK K
      try simp only [Act.put, List.setIfInBounds_toArray, List.set_cons_zero, List.set_cons_succ]
      refine wpAnyH_ready (rs := [12]) (by kernel_rfl) (by simp) ?_
      refine AllReadyH.cons rfl (fun K hK => ?_) AllReadyH.nil
      go_simp
      refine Calls.mono (Order_dots q nq cq (m ++ m') _ HDq.out hnq2) ?_
      rintro e W5 ⟨q2, cq2, rfl, hds, _, hb⟩
      have hSn := belN hS4 hB1 hb
      (try replace a0 := bcell hb a0)
      (try replace a1 := bcell hb a1)
      (try replace b0 := bcell hb b0)
      (try replace b1 := bcell hb b1)
      (try replace NJ := hide (NJ.out.below hb))
      (try replace HDq := hide (HDq.out.below hb))
      replace HRn := hide (HRn.out.below hb)
      replace HDq := hide hds
      clear hds
      clear hb
      try go_wp2_with fail
      refine hK.out _ _ ?hs22 (fun hS5 => ?_)
      case hs22 => exact hSn
      clear hK K
      try simp only [Act.put, List.setIfInBounds_toArray, List.set_cons_zero, List.set_cons_succ]
      refine wpAnyH_ready (rs := [13]) (by kernel_rfl) (by simp) ?_
      refine AllReadyH.cons rfl (fun K hK => ?_) AllReadyH.nil
      go_simp
      refine Calls.mono (fold_any pj nj cj (pln (joinL c c')) q2 _ cq2 (ordD (m ++ m')) _ NJ.out HMc.out HDq.out HAll.out (by have := ordD_len (m ++ m'); rw [List.length_append] at this; have := HLen.out; omega)) ?_
      rintro e W6 ⟨⟨p1, k1, d1, p2, k2, d2, rfl, hns, hcp1, hds, hcp2, hb1, hb2⟩, hb⟩
      rw [joinF_as] at hns hds
      have hsz3 := hS5.size
      have hSn := belN hS5 hB1 hb
      (try replace a0 := bcell hb a0)
      (try replace a1 := bcell hb a1)
      (try replace b0 := bcell hb b0)
      (try replace b1 := bcell hb b1)
      (try replace NJ := hide (NJ.out.below hb))
      (try replace HDq := hide (HDq.out.below hb))
      replace HRn := hide (HRn.out.below hb)
      have e0 := HRn.out.cells.1
      have e1 := HRn.out.cells.2.1
      have z0 := HRn.out.cells.2.2.1
      have z1 := HRn.out.cells.2.2.2
      have HO1 := hide hns
      have HO2 := hide hcp1
      have HO3 := hide hds
      have HO4 := hide hcp2
      have HO5 := hide hb1
      have HO6 := hide hb2
      clear hns hcp1 hds hcp2 hb1 hb2
      clear hb
      try go_wp2_with fail
      refine hK.out _ _ ?hs23 (fun hS6 => ?_)
      case hs23 => exact hSn
      clear hK K
      try simp only [Act.put, List.setIfInBounds_toArray, List.set_cons_zero, List.set_cons_succ]
      refine takeInH 14 29 ?v24 rfl rfl (by kernel_rfl) (by kernel_rfl) (by kernel_rfl) (fun _ _ _ h => h) (by kernel_rfl) hS6 ?hy24 ?_
      case hy24 => (intro W hW; clear hW; go_simp; try rfl)
      simp only [Act.put, List.setIfInBounds_toArray, List.set_cons_zero, List.set_cons_succ]
      refine takeInH 15 30 ?v25 rfl rfl (by kernel_rfl) (by kernel_rfl) (by kernel_rfl) (fun _ _ _ h => h) (by kernel_rfl) hS6 ?hy25 ?_
      case hy25 => (intro W hW; clear hW; go_simp; try rfl)
      simp only [Act.put, List.setIfInBounds_toArray, List.set_cons_zero, List.set_cons_succ]
      refine wpAnyH_ready (rs := [16]) (by kernel_rfl) (by simp) ?_
      refine AllReadyH.cons rfl (fun K hK => ?_) AllReadyH.nil
      go_simp
      refine hK.out _ _ ?hs26 (fun hS7 => ?_)
      case hs26 => exact ((hS6.setCell (p := ⟨w.heap.size + 1 + 1, 0, none⟩) (Nat.le_refl _) _).setCell (p := ⟨w.heap.size + 1 + 1, 1, none⟩) (Nat.le_refl _) _)
      clear hK K
      try simp only [Act.put, List.setIfInBounds_toArray, List.set_cons_zero, List.set_cons_succ]
      refine takeInH 17 5 ?v27 rfl rfl (by kernel_rfl) (by kernel_rfl) (by kernel_rfl) (fun _ _ _ h => h) (by kernel_rfl) hS7 ?hy27 ?_
      case hy27 => (intro W hW; clear hW; go_simp; try rfl)
      simp only [Act.put, List.setIfInBounds_toArray, List.set_cons_zero, List.set_cons_succ]
      refine wpAnyH_done (by kernel_rfl) ?_ _
      have HE : Hid (OutS w (pln (joinF c c' m m').1) (joinF c c' m m').2 0 (.returned (.tuple #[.agg #[.slice p1 k1 d1, .slice p2 k2 d2], .int .i64 0])) ((W6.setCell ⟨w.heap.size + 1 + 1, 0, none⟩ (.slice p1 k1 d1)).setCell ⟨w.heap.size + 1 + 1, 1, none⟩ (.slice p2 k2 d2))) := by
        refine ⟨⟨p1, k1, d1, p2, k2, d2, rfl, (HO1.out.set _ _ ?_).set _ _ ?_, HO2.out, (HO3.out.set _ _ ?_).set _ _ ?_, HO4.out, ?_, ?_⟩, HWu.out.trans (hS7.mono (by omega))⟩
        · intro a ha; have := HO5.out a ha; have := HR1.out.size; show a.block ≠ w.heap.size + 1 + 1; omega
        · intro a ha; have := HO5.out a ha; have := HR1.out.size; show a.block ≠ w.heap.size + 1 + 1; omega
        · intro a ha; have := HO6.out a ha; have := HR1.out.size; show a.block ≠ w.heap.size + 1 + 1; omega
        · intro a ha; have := HO6.out a ha; have := HR1.out.size; show a.block ≠ w.heap.size + 1 + 1; omega
        · intro a ha; have := HO5.out a ha; omega
        · intro a ha; have := HO6.out a ha; omega
      go_wp2
      refine bodyPost_ret (results_cell_tmp rfl _ _ _ _ _ _ _ _ rfl rfl (HRn.out.put _ _) Try.underlying26 rfl Try.infoSeen) rfl ?_
      exact HE.out
  · go_simp
    have hb : Below u1.heap.size u1 (u1.alloc (.cells #[.slice pm nm cm, .slice qm jm bm] 24)).drew := ((Below.refl _ u1).alloc (Nat.le_refl _) _).drew
    have hSn : Below (w.heap.size + 2) u1 (u1.alloc (.cells #[.slice pm nm cm, .slice qm jm bm] 24)).drew := hb.mono hB1
    (try replace a0 := bcell hb a0)
    (try replace a1 := bcell hb a1)
    (try replace b0 := bcell hb b0)
    (try replace b1 := bcell hb b1)
    (try replace NJ := hide (NJ.out.below hb))
    (try replace HDq := hide (HDq.out.below hb))
    replace HRn := hide (HRn.out.below hb)
    have b0 : (u1.alloc (.cells #[.slice pm nm cm, .slice qm jm bm] 24)).drew.cell? ⟨u1.heap.size, 0, none⟩ = some (.slice pm nm cm) := cell_new u1 _ _ _ rfl 0 _ rfl
    have b1 : (u1.alloc (.cells #[.slice pm nm cm, .slice qm jm bm] 24)).drew.cell? ⟨u1.heap.size, 1, none⟩ = some (.slice qm jm bm) := cell_new u1 _ _ _ rfl 1 _ rfl
    clear hb
    generalize (u1.alloc (.cells #[.slice pm nm cm, .slice qm jm bm] 24)).drew = W1 at *
    refine hK.out _ _ ?hs28 (fun hS1 => ?_)
    case hs28 => exact hSn
    clear hK K
    try simp only [Act.put, List.setIfInBounds_toArray, List.set_cons_zero, List.set_cons_succ]
    refine wpAnyH_ready (rs := [4]) (by kernel_rfl) (by simp) ?_
    refine AllReadyH.cons rfl (fun K hK => ?_) AllReadyH.nil
    go_simp
    have hb := bel1 W1 (.cells #[.slice pa na ca, .slice qa ja ba] 23)
    have hSn := belN hS1 hB1 hb
    (try replace a0 := bcell hb a0)
    (try replace a1 := bcell hb a1)
    (try replace b0 := bcell hb b0)
    (try replace b1 := bcell hb b1)
    (try replace NJ := hide (NJ.out.below hb))
    (try replace HDq := hide (HDq.out.below hb))
    replace HRn := hide (HRn.out.below hb)
    have a0 : (W1.alloc (.cells #[.slice pa na ca, .slice qa ja ba] 23)).cell? ⟨W1.heap.size, 0, none⟩ = some (.slice pa na ca) := cell_new W1 _ _ _ rfl 0 _ rfl
    have a1 : (W1.alloc (.cells #[.slice pa na ca, .slice qa ja ba] 23)).cell? ⟨W1.heap.size, 1, none⟩ = some (.slice qa ja ba) := cell_new W1 _ _ _ rfl 1 _ rfl
    clear hb
    generalize W1.alloc (.cells #[.slice pa na ca, .slice qa ja ba] 23) = W2 at *
    refine hK.out _ _ ?hs29 (fun hS2 => ?_)
    case hs29 => exact hSn
    clear hK K
    try simp only [Act.put, List.setIfInBounds_toArray, List.set_cons_zero, List.set_cons_succ]
    refine wpAnyH_ready (rs := [5]) (by kernel_rfl) (by simp) ?_
    refine AllReadyH.cons rfl (fun K hK => ?_) AllReadyH.nil
    go_simp
    refine Calls.mono (joinTwo a0 a1 (HN.out.below (HWu.out.trans (hS2.mono (by omega)))) (HN'.out.below (HWu.out.trans (hS2.mono (by omega))))) ?_
    rintro e W3 ⟨vj, rfl, hOj, hb⟩
    obtain ⟨pj, cj, hvj, hnj, _⟩ := hOj.open
    subst hvj
    obtain ⟨nj, hnjl⟩ : ∃ nj, nj = (pln (joinL c c')).length := ⟨_, rfl⟩
    rw [← hnjl] at hnj ⊢
    have hSn := belN hS2 hB1 hb
    (try replace a0 := bcell hb a0)
    (try replace a1 := bcell hb a1)
    (try replace b0 := bcell hb b0)
    (try replace b1 := bcell hb b1)
    (try replace NJ := hide (NJ.out.below hb))
    (try replace HDq := hide (HDq.out.below hb))
    replace HRn := hide (HRn.out.below hb)
    have NJ := hide hnj
    clear hnj hOj hnjl a0 a1
    clear hb
    try go_wp2_with fail
    refine hK.out _ _ ?hs30 (fun hS3 => ?_)
    case hs30 => exact hSn
    clear hK K
    try simp only [Act.put, List.setIfInBounds_toArray, List.set_cons_zero, List.set_cons_succ]
    refine wpAnyH_ready (rs := [11]) (by kernel_rfl) (by simp) ?_
    refine AllReadyH.cons rfl (fun K hK => ?_) AllReadyH.nil
    go_simp
    refine Calls.mono (concat_any _ pm qm nm cm jm bm m m' _ b0 b1 (HD.out.below (HWu.out.trans (hS3.mono (by omega)))) (HD'.out.below (HWu.out.trans (hS3.mono (by omega)))) KM.out KL.out (by omega)) ?_
    rintro e W4 ⟨v, rfl, hO, hb⟩
    obtain ⟨q, cq, hv, hds, _⟩ := hO.open
    subst hv
    obtain ⟨nq, hnq⟩ : ∃ nq, nq = (m ++ m').length := ⟨_, rfl⟩
    rw [← hnq] at hds ⊢
    have hnq2 : nq ≤ 1000000 := by rw [hnq, List.length_append]; have := HLen.out; omega
    have hSn := belN hS3 hB1 hb
    (try replace a0 := bcell hb a0)
    (try replace a1 := bcell hb a1)
    (try replace b0 := bcell hb b0)
    (try replace b1 := bcell hb b1)
    (try replace NJ := hide (NJ.out.below hb))
    (try replace HDq := hide (HDq.out.below hb))
    replace HRn := hide (HRn.out.below hb)
    have HDq := hide hds
    clear hds hO hnq b0 b1
    clear hb
    try go_wp2_with fail
    refine hK.out _ _ ?hs31 (fun hS4 => ?_)
    case hs31 => exact hSn
    clear hK K
    try simp only [Act.put, List.setIfInBounds_toArray, List.set_cons_zero, List.set_cons_succ]
    refine wpAnyH_ready (rs := [12]) (by kernel_rfl) (by simp) ?_
    refine AllReadyH.cons rfl (fun K hK => ?_) AllReadyH.nil
    go_simp
    refine Calls.mono (Order_dots q nq cq (m ++ m') _ HDq.out hnq2) ?_
    rintro e W5 ⟨q2, cq2, rfl, hds, _, hb⟩
    have hSn := belN hS4 hB1 hb
    (try replace a0 := bcell hb a0)
    (try replace a1 := bcell hb a1)
    (try replace b0 := bcell hb b0)
    (try replace b1 := bcell hb b1)
    (try replace NJ := hide (NJ.out.below hb))
    (try replace HDq := hide (HDq.out.below hb))
    replace HRn := hide (HRn.out.below hb)
    replace HDq := hide hds
    clear hds
    clear hb
    try go_wp2_with fail
    refine hK.out _ _ ?hs32 (fun hS5 => ?_)
    case hs32 => exact hSn
    clear hK K
    try simp only [Act.put, List.setIfInBounds_toArray, List.set_cons_zero, List.set_cons_succ]
    refine wpAnyH_ready (rs := [13]) (by kernel_rfl) (by simp) ?_
    refine AllReadyH.cons rfl (fun K hK => ?_) AllReadyH.nil
    go_simp
    refine Calls.mono (fold_any pj nj cj (pln (joinL c c')) q2 _ cq2 (ordD (m ++ m')) _ NJ.out HMc.out HDq.out HAll.out (by have := ordD_len (m ++ m'); rw [List.length_append] at this; have := HLen.out; omega)) ?_
    rintro e W6 ⟨⟨p1, k1, d1, p2, k2, d2, rfl, hns, hcp1, hds, hcp2, hb1, hb2⟩, hb⟩
    rw [joinF_as] at hns hds
    have hsz3 := hS5.size
    have hSn := belN hS5 hB1 hb
    (try replace a0 := bcell hb a0)
    (try replace a1 := bcell hb a1)
    (try replace b0 := bcell hb b0)
    (try replace b1 := bcell hb b1)
    (try replace NJ := hide (NJ.out.below hb))
    (try replace HDq := hide (HDq.out.below hb))
    replace HRn := hide (HRn.out.below hb)
    have e0 := HRn.out.cells.1
    have e1 := HRn.out.cells.2.1
    have z0 := HRn.out.cells.2.2.1
    have z1 := HRn.out.cells.2.2.2
    have HO1 := hide hns
    have HO2 := hide hcp1
    have HO3 := hide hds
    have HO4 := hide hcp2
    have HO5 := hide hb1
    have HO6 := hide hb2
    clear hns hcp1 hds hcp2 hb1 hb2
    clear hb
    try go_wp2_with fail
    refine hK.out _ _ ?hs33 (fun hS6 => ?_)
    case hs33 => exact hSn
    clear hK K
    try simp only [Act.put, List.setIfInBounds_toArray, List.set_cons_zero, List.set_cons_succ]
    refine takeInH 14 29 ?v34 rfl rfl (by kernel_rfl) (by kernel_rfl) (by kernel_rfl) (fun _ _ _ h => h) (by kernel_rfl) hS6 ?hy34 ?_
    case hy34 => (intro W hW; clear hW; go_simp; try rfl)
    simp only [Act.put, List.setIfInBounds_toArray, List.set_cons_zero, List.set_cons_succ]
    refine takeInH 15 30 ?v35 rfl rfl (by kernel_rfl) (by kernel_rfl) (by kernel_rfl) (fun _ _ _ h => h) (by kernel_rfl) hS6 ?hy35 ?_
    case hy35 => (intro W hW; clear hW; go_simp; try rfl)
    simp only [Act.put, List.setIfInBounds_toArray, List.set_cons_zero, List.set_cons_succ]
    refine wpAnyH_ready (rs := [16]) (by kernel_rfl) (by simp) ?_
    refine AllReadyH.cons rfl (fun K hK => ?_) AllReadyH.nil
    go_simp
    refine hK.out _ _ ?hs36 (fun hS7 => ?_)
    case hs36 => exact ((hS6.setCell (p := ⟨w.heap.size + 1 + 1, 0, none⟩) (Nat.le_refl _) _).setCell (p := ⟨w.heap.size + 1 + 1, 1, none⟩) (Nat.le_refl _) _)
    clear hK K
    try simp only [Act.put, List.setIfInBounds_toArray, List.set_cons_zero, List.set_cons_succ]
    refine takeInH 17 5 ?v37 rfl rfl (by kernel_rfl) (by kernel_rfl) (by kernel_rfl) (fun _ _ _ h => h) (by kernel_rfl) hS7 ?hy37 ?_
    case hy37 => (intro W hW; clear hW; go_simp; try rfl)
    simp only [Act.put, List.setIfInBounds_toArray, List.set_cons_zero, List.set_cons_succ]
    refine wpAnyH_done (by kernel_rfl) ?_ _
    have HE : Hid (OutS w (pln (joinF c c' m m').1) (joinF c c' m m').2 0 (.returned (.tuple #[.agg #[.slice p1 k1 d1, .slice p2 k2 d2], .int .i64 0])) ((W6.setCell ⟨w.heap.size + 1 + 1, 0, none⟩ (.slice p1 k1 d1)).setCell ⟨w.heap.size + 1 + 1, 1, none⟩ (.slice p2 k2 d2))) := by
      refine ⟨⟨p1, k1, d1, p2, k2, d2, rfl, (HO1.out.set _ _ ?_).set _ _ ?_, HO2.out, (HO3.out.set _ _ ?_).set _ _ ?_, HO4.out, ?_, ?_⟩, HWu.out.trans (hS7.mono (by omega))⟩
      · intro a ha; have := HO5.out a ha; have := HR1.out.size; show a.block ≠ w.heap.size + 1 + 1; omega
      · intro a ha; have := HO5.out a ha; have := HR1.out.size; show a.block ≠ w.heap.size + 1 + 1; omega
      · intro a ha; have := HO6.out a ha; have := HR1.out.size; show a.block ≠ w.heap.size + 1 + 1; omega
      · intro a ha; have := HO6.out a ha; have := HR1.out.size; show a.block ≠ w.heap.size + 1 + 1; omega
      · intro a ha; have := HO5.out a ha; omega
      · intro a ha; have := HO6.out a ha; omega
    go_wp2
    refine bodyPost_ret (results_cell_tmp rfl _ _ _ _ _ _ _ _ rfl rfl (HRn.out.put _ _) Try.underlying26 rfl Try.infoSeen) rfl ?_
    exact HE.out
end Go.Proofs.Ytccpbkemiilgcaa
