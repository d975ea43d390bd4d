/- What 'Add' does. -/
import Derived.Test.YtccpbkemiilgcaaDFun9
namespace Go.Proofs.Ytccpbkemiilgcaa
open Go.RowKit
set_option linter.unusedVariables false

theorem bcellN {B : Nat} {u W : World} (hb : Below B u W) {p : Addr} {v : Value} (h : u.cell? p = some v) (hp : p.block < B) : W.cell? p = some v := by rw [hb.cell hp]; exact h
theorem belN {B : Nat} {u W w' : World} (hS : Below B u W) (hB : B ≤ u.heap.size) (hb : Below W.heap.size W w') : Below B u w' := hS.trans (hb.mono (Nat.le_trans hB hS.size))
/-- A result's cell: nothing yet. -/
abbrev bxZ : Obj := .cells #[.slice none 0 0, .slice none 0 0] 26
def RC (u : World) (g : Nat) : Prop := u.heap[g]? = some (.cells #[.slice none 0 0, .slice none 0 0] 26 (0, 0))
theorem RC.below {u W : World} {g : Nat} (h : RC u g) (hb : Below u.heap.size u W) : RC W g := by
  unfold RC; rw [hb.block _ (Array.getElem?_eq_some_iff.1 h).1]; exact h
theorem RC.cells {u : World} {g : Nat} (h : RC u g) : u.cell? ⟨g, 0, none⟩ = some (.slice none 0 0) ∧ u.cell? ⟨g, 1, none⟩ = some (.slice none 0 0) ∧ u.frozen? ⟨g, 0, none⟩ = false ∧ u.frozen? ⟨g, 1, none⟩ = false := by
  unfold RC at h
  refine ⟨by rw [cell_of_row u _ _ _ _ _ h]; rfl, by rw [cell_of_row u _ _ _ _ _ h]; rfl, by simp [World.frozen?, h], by simp [World.frozen?, h]⟩
theorem RC.size {u : World} {g : Nat} (h : RC u g) : g < u.heap.size := (Array.getElem?_eq_some_iff.1 h).1
theorem RC.put {u : World} {g : Nat} (h : RC u g) (x y : Value) : ((u.setCell ⟨g, 0, none⟩ x).setCell ⟨g, 1, none⟩ y).heap[g]? = some (.cells #[x, y] 26 (0, 0)) := by
  have q1 := set1 h (Below.refl g u) (Nat.le_refl _) 0 x
  have q2 := set1 q1.1 q1.2 (Nat.le_refl _) 1 y
  exact q2.1
theorem OutS.none (w : World) (e : Int) (w' : World) (hb : Below w.heap.size w w') : OutS w [] [] e (.returned (.tuple #[.agg #[.slice none 0 0, .slice none 0 0], .int .i64 e])) w' :=
  ⟨⟨_, _, _, _, _, _, rfl, NS.nil _ _, ⟨Nat.le_refl _, by decide, fun _ => rfl⟩, DS.nil _ _, ⟨Nat.le_refl _, by decide, fun _ => rfl⟩, (fun a h => by cases h), (fun a h => by cases h)⟩, hb⟩
theorem bel_put {w u : World} {g : Nat} (hb : Below w.heap.size w u) (hg : w.heap.size ≤ g) (x y : Value) : Below w.heap.size w ((u.setCell ⟨g, 0, none⟩ x).setCell ⟨g, 1, none⟩ y) :=
  (hb.setCell (p := ⟨g, 0, none⟩) hg x).setCell (p := ⟨g, 1, none⟩) hg y

def addF (c : List Int) (m l : List Dot) : Sn := foldX (vec c) (ordD (m ++ l))
theorem seen_all {c : List Int} {m l : List Dot} (hs : seenB c m = true) (hl : l.all mayD = true) : ∀ x ∈ ordD (m ++ l), mayD x = true := by
  intro x hx
  rcases List.mem_append.1 (ordD_mem.1 hx) with h | h
  · exact ((seen_good hs).1.2.2 x h).1
  · exact List.all_eq_true.1 hl x h

set_option maxHeartbeats 1000000 in
set_option maxRecDepth 100000 in
theorem Add_bad (pa pm : Option Addr) (na ca nm cm : Nat) (c : List Int) (m : List Dot) (pl : Option Addr) (n cap : Nat) (l : List Dot) (w : World) (hN : NS w pa na c) (hD : DS w pm nm m) (hL : DS w pl n l) (hs : seenB c m = false) :
    Calls Try.prog 9 #[.agg #[.slice pa na ca, .slice pm nm cm], .slice pl n cap] w (OutS w [] [] 1) := by
  have HK := hide (fun W (h : NS W pa na c) (k : DS W pm nm m) => Check_any pa pm na ca nm cm c m W h k)
  have HN := hide hN
  have HD := hide hD
  have HLl := hide hL
  have c0 : ((w.alloc (bxS pa pm na ca nm cm)).alloc bxZ).cell? ⟨w.heap.size, 0, none⟩ = some (.slice pa na ca) := cell_old _ (cell_new w _ _ _ rfl 0 _ rfl)
  have c1 : ((w.alloc (bxS pa pm na ca nm cm)).alloc bxZ).cell? ⟨w.heap.size, 1, none⟩ = some (.slice pm nm cm) := cell_old _ (cell_new w _ _ _ rfl 1 _ rfl)
  have hR : RC ((w.alloc (bxS pa pm na ca nm cm)).alloc bxZ) (w.heap.size + 1) := by
    unfold RC
    rw [show w.heap.size + 1 = (w.alloc (bxS pa pm na ca nm cm)).heap.size by simp, heap_alloc_new]
  have HR := hide hR
  have HU := hide (bel2 w (bxS pa pm na ca nm cm) bxZ)
  have NU := hide ((hN.alloc (bxS pa pm na ca nm cm)).alloc bxZ)
  have DU := hide ((hD.alloc (bxS pa pm na ca nm cm)).alloc bxZ)
  have hlen := hL.1
  have hmax := hL.2.1
  unfold maxLen at hmax
  have HC := hide hL.2.2
  clear hN hD hL hR
  have hk := chkS_bad hs
  rw [← hk] at HK
  clear hk hs
  go_enter Try.func9, Try.ntmps9
  go_wp2_with (go_at_call 12; refine (HK.out _ NU.out DU.out).mono ?_; rintro e u ⟨rfl, hb⟩; replace c0 := bcell hb c0; replace c1 := bcell hb c1; replace HU := hide (bel_next HU.out hb); replace HR := hide (HR.out.below hb); clear hb NU DU; have e0 := HR.out.cells.1; have e1 := HR.out.cells.2.1; have z0 := HR.out.cells.2.2.1; have z1 := HR.out.cells.2.2.2)
  refine bodyPost_ret (results_cell_tmp rfl _ _ _ _ _ _ _ _ rfl rfl (HR.out.put _ _) Try.underlying26 rfl Try.infoSeen) rfl ?_
  exact OutS.none _ _ _ (bel_put HU.out (by omega) _ _)

set_option maxHeartbeats 4000000 in
set_option maxRecDepth 100000 in
theorem Add_not (pa pm : Option Addr) (na ca nm cm : Nat) (c : List Int) (m : List Dot) (pl : Option Addr) (n cap : Nat) (l : List Dot) (w : World) (hN : NS w pa na c) (hD : DS w pm nm m) (hL : DS w pl n l) (hs : seenB c m = true) (hl : l.all mayD = false) :
    Calls Try.prog 9 #[.agg #[.slice pa na ca, .slice pm nm cm], .slice pl n cap] w (OutS w [] [] 1) := by
  have HK := hide (fun W (h : NS W pa na c) (k : DS W pm nm m) => Check_any pa pm na ca nm cm c m W h k)
  have HN := hide hN
  have HD := hide hD
  have HLl := hide hL
  have c0 : ((w.alloc (bxS pa pm na ca nm cm)).alloc bxZ).cell? ⟨w.heap.size, 0, none⟩ = some (.slice pa na ca) := cell_old _ (cell_new w _ _ _ rfl 0 _ rfl)
  have c1 : ((w.alloc (bxS pa pm na ca nm cm)).alloc bxZ).cell? ⟨w.heap.size, 1, none⟩ = some (.slice pm nm cm) := cell_old _ (cell_new w _ _ _ rfl 1 _ rfl)
  have hR : RC ((w.alloc (bxS pa pm na ca nm cm)).alloc bxZ) (w.heap.size + 1) := by
    unfold RC
    rw [show w.heap.size + 1 = (w.alloc (bxS pa pm na ca nm cm)).heap.size by simp, heap_alloc_new]
  have HR := hide hR
  have HU := hide (bel2 w (bxS pa pm na ca nm cm) bxZ)
  have NU := hide ((hN.alloc (bxS pa pm na ca nm cm)).alloc bxZ)
  have DU := hide ((hD.alloc (bxS pa pm na ca nm cm)).alloc bxZ)
  have hlen := hL.1
  have hmax := hL.2.1
  unfold maxLen at hmax
  have HC := hide hL.2.2
  clear hN hD hL hR
  have hk := chkS_good hs
  rw [← hk] at HK
  have HL0 := hide hlen
  have HA := hide hl
  clear hk hs hlen hl
  go_enter Try.func9, Try.ntmps9
  go_wp2_with (go_at_call 12; refine (HK.out _ NU.out DU.out).mono ?_; rintro e u ⟨rfl, hb⟩; replace c0 := bcell hb c0; replace c1 := bcell hb c1; replace HU := hide (bel_next HU.out hb); replace HR := hide (HR.out.below hb); clear hb NU DU; have e0 := HR.out.cells.1; have e1 := HR.out.cells.2.1; have z0 := HR.out.cells.2.2.1; have z1 := HR.out.cells.2.2.2)
  clear e0 e1 z0 z1
  go_loopw [14] (fun i wr => ∃ k : Nat, k ≤ n ∧ i = .int .i64 k ∧ Below u.heap.size u wr ∧ Hid ((l.drop k).all mayD = false)) (fun i _ => n - (intOf i).toNat)
  case atStart => exact ⟨0, by omega, rfl, Below.refl _ _, by unfold Hid; simpa using HA.out⟩
  case round =>
    obtain ⟨k, hk, rfl, hbel, hH⟩ := hrel
    by_cases hlt : k < n
    · rcases HC.out with h0 | ⟨b, off, rfl, hc⟩
      · omega
      · have x0 := bcell hbel (bcell HU.out (hc k hlt).1)
        have x1 := bcell hbel (bcell HU.out (hc k hlt).2)
        have hst : Hid ((mayD (l.getD k (0, 0)) && (l.drop (k + 1)).all mayD) = false) := by
          have h2 := hH.out
          rw [allD_drop (by rw [HL0.out]; exact hlt)] at h2
          exact h2
        clear hc hH
        generalize l.getD k (0, 0) = x at x0 x1 hst
        obtain ⟨r, s⟩ := x
        have HM := hide (fun W => May_any r s W)
        have HBx := hide (bel_next hbel (bel1 wr (bxD r s)))
        rcases hm : mayD (r, s) with _ | _
        · rw [hm] at HM
          clear hst hm
          go_wp2_with (go_at_call 10; refine (HM.out _).mono ?_; rintro e u2 ⟨rfl, hg⟩; have HB2 := hide (bel_next HBx.out hg.bel); have HR2 := hide (HR.out.below HB2.out); have HU2 := hide (bel_next HU.out HB2.out); clear hg; have e0 := HR2.out.cells.1; have e1 := HR2.out.cells.2.1; have z0 := HR2.out.cells.2.2.1; have z1 := HR2.out.cells.2.2.2)
          refine bodyPost_ret (results_cell_tmp rfl _ _ _ _ _ _ _ _ rfl rfl (HR2.out.put _ _) Try.underlying26 rfl Try.infoSeen) rfl ?_
          exact OutS.none _ _ _ (bel_put HU2.out (by omega) _ _)
        · have hst2 : Hid ((l.drop (k + 1)).all mayD = false) := by have h2 := hst.out; rw [hm] at h2; unfold Hid; simpa using h2
          rw [hm] at HM
          clear hst hm
          go_wp2_with (go_at_call 10; refine (HM.out _).mono ?_; rintro e u2 ⟨rfl, hg⟩)
          go_roundw
          case rel => exact ⟨k + 1, by omega, by go_num, bel_next HBx.out hg.bel, hst2⟩
          case measure => simp [intOf]; omega
    · have hkl : k = n := by omega
      subst hkl
      have h2 := hH.out
      rw [List.drop_of_length_le (by rw [HL0.out]; exact Nat.le_refl _)] at h2
      cases h2

set_option maxHeartbeats 4000000 in
set_option maxRecDepth 100000 in
theorem Add_good (pa pm : Option Addr) (na ca nm cm : Nat) (c : List Int) (m : List Dot) (pl : Option Addr) (n cap : Nat) (l : List Dot) (w : World) (hN : NS w pa na c) (hD : DS w pm nm m) (hL : DS w pl n l) (hs : seenB c m = true) (hl : l.all mayD = true) (hkm : pm = none → cm = 0) (hkl : pl = none → cap = 0) (hsm : nm + n ≤ 1000) :
    Calls Try.prog 9 #[.agg #[.slice pa na ca, .slice pm nm cm], .slice pl n cap] w (OutS w (pln (addF c m l).1) (addF c m l).2 0) := by
  have HK := hide (fun W (h : NS W pa na c) (k : DS W pm nm m) => Check_any pa pm na ca nm cm c m W h k)
  have HN := hide hN
  have HD := hide hD
  have HLl := hide hL
  have c0 : ((w.alloc (bxS pa pm na ca nm cm)).alloc bxZ).cell? ⟨w.heap.size, 0, none⟩ = some (.slice pa na ca) := cell_old _ (cell_new w _ _ _ rfl 0 _ rfl)
  have c1 : ((w.alloc (bxS pa pm na ca nm cm)).alloc bxZ).cell? ⟨w.heap.size, 1, none⟩ = some (.slice pm nm cm) := cell_old _ (cell_new w _ _ _ rfl 1 _ rfl)
  have hR : RC ((w.alloc (bxS pa pm na ca nm cm)).alloc bxZ) (w.heap.size + 1) := by
    unfold RC
    rw [show w.heap.size + 1 = (w.alloc (bxS pa pm na ca nm cm)).heap.size by simp, heap_alloc_new]
  have HR := hide hR
  have HU := hide (bel2 w (bxS pa pm na ca nm cm) bxZ)
  have NU := hide ((hN.alloc (bxS pa pm na ca nm cm)).alloc bxZ)
  have DU := hide ((hD.alloc (bxS pa pm na ca nm cm)).alloc bxZ)
  have hlen := hL.1
  have hmax := hL.2.1
  unfold maxLen at hmax
  have HC := hide hL.2.2
  clear hN hD hL hR
  have hk := chkS_good hs
  rw [← hk] at HK
  have HL0 := hide hlen
  have HLen : Hid (m.length = nm ∧ l.length = n) := ⟨HD.out.1, hlen⟩
  have HA := hide hl
  have HMc := hide (seen_good hs).2.2.1
  have HAll := hide (seen_all hs hl)
  have KM := hide hkm
  have KL := hide hkl
  clear hk hs hlen hl hkm hkl
  go_enter Try.func9, Try.ntmps9
  go_wp2_with (go_at_call 12; refine (HK.out _ NU.out DU.out).mono ?_; rintro e u ⟨rfl, hb⟩; replace c0 := bcell hb c0; replace c1 := bcell hb c1; replace HU := hide (bel_next HU.out hb); replace HR := hide (HR.out.below hb); clear hb NU DU; have e0 := HR.out.cells.1; have e1 := HR.out.cells.2.1; have z0 := HR.out.cells.2.2.1; have z1 := HR.out.cells.2.2.2)
  clear e0 e1 z0 z1
  go_loopw [14] (fun i wr => ∃ k : Nat, k ≤ n ∧ i = .int .i64 k ∧ Below u.heap.size u wr ∧ Hid ((l.drop k).all mayD = true)) (fun i _ => n - (intOf i).toNat)
  case atStart => exact ⟨0, by omega, rfl, Below.refl _ _, by unfold Hid; simpa using HA.out⟩
  case round =>
    obtain ⟨k, hk, rfl, hbel, hH⟩ := hrel
    by_cases hlt : k < n
    · rcases HC.out with h0 | ⟨b, off, rfl, hc⟩
      · omega
      · have x0 := bcell hbel (bcell HU.out (hc k hlt).1)
        have x1 := bcell hbel (bcell HU.out (hc k hlt).2)
        have hst : (mayD (l.getD k (0, 0)) && (l.drop (k + 1)).all mayD) = true := by
          have h2 := hH.out
          rw [allD_drop (by rw [HL0.out]; exact hlt)] at h2
          exact h2
        clear hc hH
        generalize l.getD k (0, 0) = x at x0 x1 hst
        obtain ⟨r, s⟩ := x
        have HM := hide (fun W => May_any r s W)
        have HBx := hide (bel_next hbel (bel1 wr (bxD r s)))
        rw [Bool.and_eq_true] at hst
        rw [hst.1] at HM
        have hst2 := hide hst.2
        clear hst
        go_wp2_with (go_at_call 10; refine (HM.out _).mono ?_; rintro e u2 ⟨rfl, hg⟩)
        go_roundw
        case rel => exact ⟨k + 1, by omega, by go_num, bel_next HBx.out hg.bel, hst2⟩
        case measure => simp [intOf]; omega
    · have hkl : n = k := by omega
      subst hkl
      have HWu := hide (bel_next HU.out hbel)
      have HR1 := hide (HR.out.below hbel)
      have hB1 : w.heap.size + 1 ≤ wr.heap.size := by have := HR1.out.size; omega
      replace c0 := bcell hbel c0
      replace c1 := bcell hbel c1
      clear hbel hH HR HU HC
      generalize wr = u1 at *
      go_wp2
      refine wp_region_held_drew (S := fun W => Below (w.heap.size + 1) u1 W) (by kernel_rfl) ((Below.refl _ u1).drew) (fun hS0 => ?_)
      refine takeInH 0 23 ?v1 rfl rfl (by kernel_rfl) (by kernel_rfl) (by kernel_rfl) (fun _ _ _ h => h) (by kernel_rfl) hS0 ?hy1 ?_
      case hy1 => (intro W hW; clear hW; go_simp; try rfl)
      simp only [Act.put, List.setIfInBounds_toArray, List.set_cons_zero, List.set_cons_succ]
      refine takeInH 1 24 ?v2 rfl rfl (by kernel_rfl) (by kernel_rfl) (by kernel_rfl) (fun _ _ _ h => h) (by kernel_rfl) hS0 ?hy2 ?_
      case hy2 => (intro W hW; have e0 := bcellN hW c0 (Nat.lt_succ_self _); have e1 := bcellN hW c1 (Nat.lt_succ_self _); clear hW; go_simp; try rfl)
      simp only [Act.put, List.setIfInBounds_toArray, List.set_cons_zero, List.set_cons_succ]
      refine takeInH 2 25 ?v3 rfl rfl (by kernel_rfl) (by kernel_rfl) (by kernel_rfl) (fun _ _ _ h => h) (by kernel_rfl) hS0 ?hy3 ?_
      case hy3 => (intro W hW; clear hW; go_simp; try rfl)
      simp only [Act.put, List.setIfInBounds_toArray, List.set_cons_zero, List.set_cons_succ]
      refine takeInH 3 26 ?v4 rfl rfl (by kernel_rfl) (by kernel_rfl) (by kernel_rfl) (fun _ _ _ h => h) (by kernel_rfl) hS0 ?hy4 ?_
      case hy4 => (intro W hW; have e0 := bcellN hW c0 (Nat.lt_succ_self _); have e1 := bcellN hW c1 (Nat.lt_succ_self _); clear hW; go_simp; try rfl)
      simp only [Act.put, List.setIfInBounds_toArray, List.set_cons_zero, List.set_cons_succ]
      refine takeInH 4 27 ?v5 rfl rfl (by kernel_rfl) (by kernel_rfl) (by kernel_rfl) (fun _ _ _ h => h) (by kernel_rfl) hS0 ?hy5 ?_
      case hy5 => (intro W hW; clear hW; go_simp; try rfl)
      simp only [Act.put, List.setIfInBounds_toArray, List.set_cons_zero, List.set_cons_succ]
      refine wpAnyH_ready (rs := [5]) (by kernel_rfl) (by simp) ?_
      refine AllReadyH.cons rfl (fun K hK => ?_) AllReadyH.nil
      go_simp
      have b0 : (u1.alloc (.cells #[.slice pm nm cm, .slice pl n cap] 24)).drew.cell? ⟨u1.heap.size, 0, none⟩ = some (.slice pm nm cm) := cell_new u1 _ _ _ rfl 0 _ rfl
      have b1 : (u1.alloc (.cells #[.slice pm nm cm, .slice pl n cap] 24)).drew.cell? ⟨u1.heap.size, 1, none⟩ = some (.slice pl n cap) := cell_new u1 _ _ _ rfl 1 _ rfl
      have hSn : Below (w.heap.size + 1) u1 (u1.alloc (.cells #[.slice pm nm cm, .slice pl n cap] 24)).drew := ((Below.refl _ u1).alloc hB1 _).drew
      have HRn := hide (HR1.out.below (((Below.refl _ u1).alloc (Nat.le_refl _) (.cells #[.slice pm nm cm, .slice pl n cap] 24)).drew))
      generalize (u1.alloc (.cells #[.slice pm nm cm, .slice pl n cap] 24)).drew = W1 at *
      refine hK.out _ _ ?hs6 (fun hS1 => ?_)
      case hs6 => exact hSn
      clear hK K
      try simp only [Act.put, List.setIfInBounds_toArray, List.set_cons_zero, List.set_cons_succ]
      refine wpAnyH_ready (rs := [6]) (by kernel_rfl) (by simp) ?_
      refine AllReadyH.cons rfl (fun K hK => ?_) AllReadyH.nil
      go_simp
      refine (concat_any _ pm pl nm cm n cap m l _ b0 b1 (HD.out.below (HWu.out.trans (hS1.mono (Nat.le_succ _)))) (HLl.out.below (HWu.out.trans (hS1.mono (Nat.le_succ _)))) KM.out KL.out (by omega)).mono ?_
      rintro e W2 ⟨v, rfl, hO, hb⟩
      obtain ⟨q, cq, hv, hds, _⟩ := hO.open
      subst hv
      obtain ⟨nq, hnq⟩ : ∃ nq, nq = (m ++ l).length := ⟨_, rfl⟩
      rw [← hnq] at hds ⊢
      have hnq2 : nq ≤ 1000000 := by rw [hnq, List.length_append]; have := HLen.out; omega
      replace HRn := hide (HRn.out.below hb)
      have HDq := hide hds
      clear hds hO b0 b1 hnq
      try go_wp2_with fail
      refine hK.out _ _ ?hs7 (fun hS2 => ?_)
      case hs7 => exact belN hS1 hB1 hb
      clear hK K hb
      try simp only [Act.put, List.setIfInBounds_toArray, List.set_cons_zero, List.set_cons_succ]
      refine wpAnyH_ready (rs := [7]) (by kernel_rfl) (by simp) ?_
      refine AllReadyH.cons rfl (fun K hK => ?_) AllReadyH.nil
      go_simp
      refine (Order_dots q nq cq (m ++ l) _ HDq.out hnq2).mono ?_
      rintro e W3 ⟨q2, cq2, rfl, hds, _, hb⟩
      replace HRn := hide (HRn.out.below hb)
      replace HDq := hide hds
      clear hds
      try go_wp2_with fail
      refine hK.out _ _ ?hs8 (fun hS3 => ?_)
      case hs8 => exact belN hS2 hB1 hb
      clear hK K hb
      try simp only [Act.put, List.setIfInBounds_toArray, List.set_cons_zero, List.set_cons_succ]
      refine wpAnyH_ready (rs := [8]) (by kernel_rfl) (by simp) ?_
      refine AllReadyH.cons rfl (fun K hK => ?_) AllReadyH.nil
      go_simp
      refine (fold_any pa na ca c q2 _ cq2 (ordD (m ++ l)) _ (HN.out.below (HWu.out.trans (hS3.mono (Nat.le_succ _)))) HMc.out HDq.out HAll.out (by have := ordD_len (m ++ l); rw [List.length_append] at this; have := HLen.out; omega)).mono ?_
      rintro e W4 ⟨⟨p1, k1, d1, p2, k2, d2, rfl, hns, hcp1, hds, hcp2, hb1, hb2⟩, hb⟩
      have hsz3 := hS3.size
      replace HRn := hide (HRn.out.below hb)
      have e0 := HRn.out.cells.1
      have e1 := HRn.out.cells.2.1
      have z0 := HRn.out.cells.2.2.1
      have z1 := HRn.out.cells.2.2.2
      have HO1 := hide hns
      have HO2 := hide hcp1
      have HO3 := hide hds
      have HO4 := hide hcp2
      have HO5 := hide hb1
      have HO6 := hide hb2
      clear hns hcp1 hds hcp2 hb1 hb2
      try go_wp2_with fail
      refine hK.out _ _ ?hs9 (fun hS4 => ?_)
      case hs9 => exact belN hS3 hB1 hb
      clear hK K hb
      try simp only [Act.put, List.setIfInBounds_toArray, List.set_cons_zero, List.set_cons_succ]
      refine takeInH 9 32 ?v10 rfl rfl (by kernel_rfl) (by kernel_rfl) (by kernel_rfl) (fun _ _ _ h => h) (by kernel_rfl) hS4 ?hy10 ?_
      case hy10 => (intro W hW; clear hW; go_simp; try rfl)
      simp only [Act.put, List.setIfInBounds_toArray, List.set_cons_zero, List.set_cons_succ]
      refine takeInH 10 33 ?v11 rfl rfl (by kernel_rfl) (by kernel_rfl) (by kernel_rfl) (fun _ _ _ h => h) (by kernel_rfl) hS4 ?hy11 ?_
      case hy11 => (intro W hW; clear hW; go_simp; try rfl)
      simp only [Act.put, List.setIfInBounds_toArray, List.set_cons_zero, List.set_cons_succ]
      refine wpAnyH_ready (rs := [11]) (by kernel_rfl) (by simp) ?_
      refine AllReadyH.cons rfl (fun K hK => ?_) AllReadyH.nil
      go_simp
      refine hK.out _ _ ?hs12 (fun hS5 => ?_)
      case hs12 => exact ((hS4.setCell (p := ⟨w.heap.size + 1, 0, none⟩) (Nat.le_refl _) _).setCell (p := ⟨w.heap.size + 1, 1, none⟩) (Nat.le_refl _) _)
      clear hK K
      try simp only [Act.put, List.setIfInBounds_toArray, List.set_cons_zero, List.set_cons_succ]
      refine takeInH 12 5 ?v13 rfl rfl (by kernel_rfl) (by kernel_rfl) (by kernel_rfl) (fun _ _ _ h => h) (by kernel_rfl) hS5 ?hy13 ?_
      case hy13 => (intro W hW; clear hW; go_simp; try rfl)
      simp only [Act.put, List.setIfInBounds_toArray, List.set_cons_zero, List.set_cons_succ]
      refine wpAnyH_done (by kernel_rfl) ?_ _
      have HE : Hid (OutS w (pln (addF c m l).1) (addF c m l).2 0 (.returned (.tuple #[.agg #[.slice p1 k1 d1, .slice p2 k2 d2], .int .i64 0])) ((W4.setCell ⟨w.heap.size + 1, 0, none⟩ (.slice p1 k1 d1)).setCell ⟨w.heap.size + 1, 1, none⟩ (.slice p2 k2 d2))) := by
        refine ⟨⟨p1, k1, d1, p2, k2, d2, rfl, (HO1.out.set _ _ ?_).set _ _ ?_, HO2.out, (HO3.out.set _ _ ?_).set _ _ ?_, HO4.out, ?_, ?_⟩, HWu.out.trans (hS5.mono (Nat.le_succ _))⟩
        · intro a ha; have := HO5.out a ha; have := HR1.out.size; show a.block ≠ w.heap.size + 1; omega
        · intro a ha; have := HO5.out a ha; have := HR1.out.size; show a.block ≠ w.heap.size + 1; omega
        · intro a ha; have := HO6.out a ha; have := HR1.out.size; show a.block ≠ w.heap.size + 1; omega
        · intro a ha; have := HO6.out a ha; have := HR1.out.size; show a.block ≠ w.heap.size + 1; omega
        · intro a ha; have := HO5.out a ha; omega
        · intro a ha; have := HO6.out a ha; omega
      go_wp2
      refine bodyPost_ret (results_cell_tmp rfl _ _ _ _ _ _ _ _ rfl rfl (HRn.out.put _ _) Try.underlying26 rfl Try.infoSeen) rfl ?_
      exact HE.out
end Go.Proofs.Ytccpbkemiilgcaa
