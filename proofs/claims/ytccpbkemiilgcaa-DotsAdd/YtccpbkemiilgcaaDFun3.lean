/- What 'isPlain', 'isFar', 'slices.BinarySearchFunc' and 'has' do. -/
import Derived.Test.YtccpbkemiilgcaaDFun2
import Derived.Test.YtccpbkemiilgcaaDSeen
namespace Go.Proofs.Ytccpbkemiilgcaa
open Go.RowKit
set_option linter.unusedVariables false

theorem wrap1 {z : Int} (h0 : 0 ≤ z) (h1 : z ≤ 1048576) : IntKind.i64.wrap (z + 1) = z + 1 := by simp [IntKind.wrap, IntKind.bits, IntKind.signed]; omega

/-- A Seen's box. -/
abbrev bxS (pa pm : Option Addr) (na ca nm cm : Nat) : Obj := .cells #[.slice pa na ca, .slice pm nm cm] 26

set_option maxHeartbeats 1000000 in
theorem isPlain_any (a : Option Addr) (n cap : Nat) (c : List Int) (w : World) (hN : NS w a n c) :
    Calls Try.prog 32 #[.slice a n cap] w fun e w' => e = .returned (.bool (plainC c)) ∧ Below w.heap.size w w' := by
  have hmax := hN.2.1
  unfold maxLen at hmax
  have hlen := hN.1
  have HC := hide (check_any a n cap c w hN)
  have HP := hide (Plain_any a n cap c w hN)
  clear hN
  rcases hm : mayC c with _ | _
  · have e1 : chk c = 1 := by unfold chk; rw [hm]; rfl
    rw [e1] at HC
    have HE : Hid (false = plainC c) := by unfold Hid plainC; rw [hm]; rfl
    clear hm e1 hlen
    go_enter Try.func32, Try.ntmps32
    go_wp2_with (go_at_call 53; refine HC.out.mono ?_; rintro e w' ⟨rfl, rfl⟩)
    go_ret
    exact ⟨retB HE.out, Below.refl _ _⟩
  · have e1 : chk c = 0 := by unfold chk; rw [hm]; rfl
    rw [e1] at HC
    have HE : Hid (decide ((pln (vec c)).length = n) = plainC c) := by unfold Hid; rw [plainC_as hm, hlen]
    clear hm e1 hlen
    go_enter Try.func32, Try.ntmps32
    go_wp2_with (first
      | (go_at_call 53; refine HC.out.mono ?_; rintro e w' ⟨rfl, hw⟩; replace hw := hw.symm; subst hw)
      | (go_at_call 51; refine Stop.at ?_))
    unfold Stop
    refine HP.out.mono ?_
    rintro e w' ⟨v, rfl, hO, hB⟩
    obtain ⟨p, cp, hv, hns, _⟩ := hO.open
    subst hv
    have hl2 := hns.2.1
    unfold maxLen at hl2
    generalize (pln (vec c)).length = k at hl2 HE
    clear hns hO
    have HE2 : Hid (((k : Int) == (n : Int)) = plainC c) := by
      have h := HE.out; unfold Hid; rw [← h, Bool.eq_iff_iff, beq_iff_eq, decide_eq_true_iff]; omega
    go_wp2
    go_ret
    exact ⟨retB HE2.out, hB⟩

set_option maxHeartbeats 1000000 in
theorem isFar_any (a : Option Addr) (n cap : Nat) (c : List Int) (d : Dot) (w : World) (hN : NS w a n c) :
    Calls Try.prog 33 #[.slice a n cap, .agg #[.int .i64 d.1, .int .i64 d.2]] w fun e w' => e = .returned (.bool (mayD d && decide (d.2 > getZ c d.1 + 1))) ∧ Below w.heap.size w w' := by
  obtain ⟨r, s⟩ := d
  have HM := hide (fun W => May_any r s W)
  have HG := hide (fun W (h : NS W a n c) => Get_any a n cap c r W h)
  have c0 : (w.alloc (bxD r s)).cell? ⟨w.heap.size, 0, none⟩ = some (.int .i64 r) := cell_new w _ _ _ rfl 0 _ rfl
  have c1 : (w.alloc (bxD r s)).cell? ⟨w.heap.size, 1, none⟩ = some (.int .i64 s) := cell_new w _ _ _ rfl 1 _ rfl
  have NU := hide (hN.alloc (bxD r s))
  have HU := hide (bel1 w (bxD r s))
  clear hN
  have hz := getZ_bd c r
  obtain ⟨z, hzz⟩ : ∃ z, z = getZ c r := ⟨_, rfl⟩
  rcases hm : mayD (r, s) with _ | _
  · rw [hm] at HM
    clear hz hzz
    go_enter Try.func33, Try.ntmps33
    go_wp2
    generalize w.alloc (bxD r s) = u at *
    refine wp_region_held_drew (S := fun W => Below u.heap.size u W) (by kernel_rfl) ((Below.refl _ u).drew) (fun hS0 => ?_)
    refine takeInH 0 5 ?v1 rfl rfl (by kernel_rfl) (by kernel_rfl) (by kernel_rfl) (fun _ _ _ h => h) (by kernel_rfl) hS0 ?hy1 ?_
    case hy1 => (intro W hW; have e0 := bcell hW c0; have e1 := bcell hW c1; clear hW; go_simp; try rfl)
    simp only [Act.put, List.setIfInBounds_toArray, List.set_cons_zero, List.set_cons_succ]
    refine wpAnyH_ready (rs := [1]) (by kernel_rfl) (by simp) ?_
    refine AllReadyH.cons rfl (fun K hK => ?_) AllReadyH.nil
    go_simp
    refine (HM.out _).mono ?_
    rintro e w' ⟨rfl, hg⟩
    have hb := hg.bel
    clear hg
    try go_wp2_with fail
    refine hK.out _ _ ?hs2 (fun hS1 => ?_)
    case hs2 => exact bel_next hS0 hb
    clear hK K hb
    try simp only [Act.put, List.setIfInBounds_toArray, List.set_cons_zero, List.set_cons_succ]
    refine takeInH 2 7 ?v3 rfl rfl (by kernel_rfl) (by kernel_rfl) (by kernel_rfl) (fun _ _ _ h => h) (by kernel_rfl) hS1 ?hy3 ?_
    case hy3 => (intro W hW; clear hW; go_simp; try rfl)
    simp only [Act.put, List.setIfInBounds_toArray, List.set_cons_zero, List.set_cons_succ]
    refine takeNoH 3 8 rfl rfl (by kernel_rfl) (by kernel_rfl) (by kernel_rfl) (fun _ _ _ h => h) (by kernel_rfl) hS1 ?_
    simp only [Act.put, List.setIfInBounds_toArray, List.set_cons_zero, List.set_cons_succ]
    refine takeNoH 4 9 rfl rfl (by kernel_rfl) (by kernel_rfl) (by kernel_rfl) (fun _ _ _ h => h) (by kernel_rfl) hS1 ?_
    simp only [Act.put, List.setIfInBounds_toArray, List.set_cons_zero, List.set_cons_succ]
    refine takeNoH 5 10 rfl rfl (by kernel_rfl) (by kernel_rfl) (by kernel_rfl) (fun _ _ _ h => h) (by kernel_rfl) hS1 ?_
    simp only [Act.put, List.setIfInBounds_toArray, List.set_cons_zero, List.set_cons_succ]
    refine takeNoH 6 11 rfl rfl (by kernel_rfl) (by kernel_rfl) (by kernel_rfl) (fun _ _ _ h => h) (by kernel_rfl) hS1 ?_
    simp only [Act.put, List.setIfInBounds_toArray, List.set_cons_zero, List.set_cons_succ]
    refine takeNoH 7 12 rfl rfl (by kernel_rfl) (by kernel_rfl) (by kernel_rfl) (fun _ _ _ h => h) (by kernel_rfl) hS1 ?_
    simp only [Act.put, List.setIfInBounds_toArray, List.set_cons_zero, List.set_cons_succ]
    refine takeNoH 8 13 rfl rfl (by kernel_rfl) (by kernel_rfl) (by kernel_rfl) (fun _ _ _ h => h) (by kernel_rfl) hS1 ?_
    simp only [Act.put, List.setIfInBounds_toArray, List.set_cons_zero, List.set_cons_succ]
    refine takeNoH 9 14 rfl rfl (by kernel_rfl) (by kernel_rfl) (by kernel_rfl) (fun _ _ _ h => h) (by kernel_rfl) hS1 ?_
    simp only [Act.put, List.setIfInBounds_toArray, List.set_cons_zero, List.set_cons_succ]
    refine takeNoH 10 15 rfl rfl (by kernel_rfl) (by kernel_rfl) (by kernel_rfl) (fun _ _ _ h => h) (by kernel_rfl) hS1 ?_
    simp only [Act.put, List.setIfInBounds_toArray, List.set_cons_zero, List.set_cons_succ]
    refine takeInH 11 16 ?v4 rfl rfl (by kernel_rfl) (by kernel_rfl) (by kernel_rfl) (fun _ _ _ h => h) (by kernel_rfl) hS1 ?hy4 ?_
    case hy4 => (intro W hW; clear hW; go_simp; try rfl)
    simp only [Act.put, List.setIfInBounds_toArray, List.set_cons_zero, List.set_cons_succ]
    refine takeInH 12 4 ?v5 rfl rfl (by kernel_rfl) (by kernel_rfl) (by kernel_rfl) (fun _ _ _ h => h) (by kernel_rfl) hS1 ?hy5 ?_
    case hy5 => (intro W hW; clear hW; go_simp; try rfl)
    simp only [Act.put, List.setIfInBounds_toArray, List.set_cons_zero, List.set_cons_succ]
    refine wpAnyH_done (by kernel_rfl) ?_ _
    go_wp2
    go_ret
    exact ⟨rfl, bel_next HU.out (by assumption)⟩
  · rw [hm] at HM
    have HE : Hid (decide (s > z + 1) = (true && decide ((r, s).2 > getZ c (r, s).1 + 1))) := by unfold Hid; rw [hzz, Bool.true_and]
    rw [← hzz] at HG hz
    have hwr := wrap1 hz.1 hz.2
    clear hm hzz
    go_enter Try.func33, Try.ntmps33
    go_wp2
    generalize w.alloc (bxD r s) = u at *
    refine wp_region_held_drew (S := fun W => Below u.heap.size u W) (by kernel_rfl) ((Below.refl _ u).drew) (fun hS0 => ?_)
    refine takeInH 0 5 ?v6 rfl rfl (by kernel_rfl) (by kernel_rfl) (by kernel_rfl) (fun _ _ _ h => h) (by kernel_rfl) hS0 ?hy6 ?_
    case hy6 => (intro W hW; have e0 := bcell hW c0; have e1 := bcell hW c1; clear hW; go_simp; try rfl)
    simp only [Act.put, List.setIfInBounds_toArray, List.set_cons_zero, List.set_cons_succ]
    refine wpAnyH_ready (rs := [1]) (by kernel_rfl) (by simp) ?_
    refine AllReadyH.cons rfl (fun K hK => ?_) AllReadyH.nil
    go_simp
    refine (HM.out _).mono ?_
    rintro e w' ⟨rfl, hg⟩
    have hb := hg.bel
    clear hg
    try go_wp2_with fail
    refine hK.out _ _ ?hs7 (fun hS1 => ?_)
    case hs7 => exact bel_next hS0 hb
    clear hK K hb
    try simp only [Act.put, List.setIfInBounds_toArray, List.set_cons_zero, List.set_cons_succ]
    refine takeInH 2 7 ?v8 rfl rfl (by kernel_rfl) (by kernel_rfl) (by kernel_rfl) (fun _ _ _ h => h) (by kernel_rfl) hS1 ?hy8 ?_
    case hy8 => (intro W hW; clear hW; go_simp; try rfl)
    simp only [Act.put, List.setIfInBounds_toArray, List.set_cons_zero, List.set_cons_succ]
    refine takeInH 3 8 ?v9 rfl rfl (by kernel_rfl) (by kernel_rfl) (by kernel_rfl) (fun _ _ _ h => h) (by kernel_rfl) hS1 ?hy9 ?_
    case hy9 => (intro W hW; clear hW; go_simp; try rfl)
    simp only [Act.put, List.setIfInBounds_toArray, List.set_cons_zero, List.set_cons_succ]
    refine takeInH 4 9 ?v10 rfl rfl (by kernel_rfl) (by kernel_rfl) (by kernel_rfl) (fun _ _ _ h => h) (by kernel_rfl) hS1 ?hy10 ?_
    case hy10 => (intro W hW; have e0 := bcell hW c0; have e1 := bcell hW c1; clear hW; go_simp; try rfl)
    simp only [Act.put, List.setIfInBounds_toArray, List.set_cons_zero, List.set_cons_succ]
    refine takeInH 5 10 ?v11 rfl rfl (by kernel_rfl) (by kernel_rfl) (by kernel_rfl) (fun _ _ _ h => h) (by kernel_rfl) hS1 ?hy11 ?_
    case hy11 => (intro W hW; clear hW; go_simp; try rfl)
    simp only [Act.put, List.setIfInBounds_toArray, List.set_cons_zero, List.set_cons_succ]
    refine takeInH 6 11 ?v12 rfl rfl (by kernel_rfl) (by kernel_rfl) (by kernel_rfl) (fun _ _ _ h => h) (by kernel_rfl) hS1 ?hy12 ?_
    case hy12 => (intro W hW; clear hW; go_simp; try rfl)
    simp only [Act.put, List.setIfInBounds_toArray, List.set_cons_zero, List.set_cons_succ]
    refine takeInH 7 12 ?v13 rfl rfl (by kernel_rfl) (by kernel_rfl) (by kernel_rfl) (fun _ _ _ h => h) (by kernel_rfl) hS1 ?hy13 ?_
    case hy13 => (intro W hW; have e0 := bcell hW c0; have e1 := bcell hW c1; clear hW; go_simp; try rfl)
    simp only [Act.put, List.setIfInBounds_toArray, List.set_cons_zero, List.set_cons_succ]
    refine wpAnyH_ready (rs := [8]) (by kernel_rfl) (by simp) ?_
    refine AllReadyH.cons rfl (fun K hK => ?_) AllReadyH.nil
    go_simp
    refine (HG.out _ (NU.out.below hS1)).mono ?_
    rintro e w' ⟨rfl, hb⟩
    try go_wp2_with fail
    refine hK.out _ _ ?hs14 (fun hS2 => ?_)
    case hs14 => exact bel_next hS1 hb
    clear hK K hb
    try simp only [Act.put, List.setIfInBounds_toArray, List.set_cons_zero, List.set_cons_succ]
    refine takeInH 9 14 ?v15 rfl rfl (by kernel_rfl) (by kernel_rfl) (by kernel_rfl) (fun _ _ _ h => h) (by kernel_rfl) hS2 ?hy15 ?_
    case hy15 => (intro W hW; clear hW; go_simp; try rfl)
    simp only [Act.put, List.setIfInBounds_toArray, List.set_cons_zero, List.set_cons_succ]
    refine takeInH 10 15 ?v16 rfl rfl (by kernel_rfl) (by kernel_rfl) (by kernel_rfl) (fun _ _ _ h => h) (by kernel_rfl) hS2 ?hy16 ?_
    case hy16 => (intro W hW; clear hW; go_simp; try rfl)
    simp only [Act.put, List.setIfInBounds_toArray, List.set_cons_zero, List.set_cons_succ]
    refine takeInH 11 16 ?v17 rfl rfl (by kernel_rfl) (by kernel_rfl) (by kernel_rfl) (fun _ _ _ h => h) (by kernel_rfl) hS2 ?hy17 ?_
    case hy17 => (intro W hW; clear hW; go_simp; try rfl)
    simp only [Act.put, List.setIfInBounds_toArray, List.set_cons_zero, List.set_cons_succ]
    refine takeInH 12 4 ?v18 rfl rfl (by kernel_rfl) (by kernel_rfl) (by kernel_rfl) (fun _ _ _ h => h) (by kernel_rfl) hS2 ?hy18 ?_
    case hy18 => (intro W hW; clear hW; go_simp; try rfl)
    simp only [Act.put, List.setIfInBounds_toArray, List.set_cons_zero, List.set_cons_succ]
    refine wpAnyH_done (by kernel_rfl) ?_ _
    go_wp2
    go_ret
    exact ⟨retB HE.out, bel_next HU.out (by assumption)⟩

set_option maxHeartbeats 2000000 in
/-- 'slices.BinarySearchFunc' of dots in order. -/
theorem search_any (a : Option Addr) (n cap : Nat) (l : List Dot) (d : Dot) (w : World) (hD : DS w a n l) (hS : SrtD l) (hn : n ≤ 1000) :
    Calls Try.prog 59 #[.slice a n cap, .agg #[.int .i64 d.1, .int .i64 d.2], .func (.func 39) #[] #[]] w fun e w' => (∃ i : Int, e = .returned (.tuple #[.int .i64 i, .bool (decide (d ∈ l))])) ∧ Below w.heap.size w w' := by
  obtain ⟨hlen, hmax, hcells⟩ := hD
  unfold maxLen at hmax
  have HF := hide (fun i h1 h2 => found_iff hS (d := d) (i := i) h1 h2)
  have SRT : Hid (∀ {i j : Nat}, i < j → j < l.length → lessD (l.getD i (0, 0)) (l.getD j (0, 0)) = true) := fun h k => srt_lt hS h k
  have HCm := hide (fun x W => compare_any x d W)
  obtain ⟨p, q⟩ := d
  have HL := hide hlen
  have HC := hide hcells
  clear hlen hcells hS
  go_enter Try.func59, Try.ntmps59
  go_wp2
  go_loopw [9, 10] (fun vi vj wr => ∃ i j : Nat, i ≤ j ∧ j ≤ n ∧ vi = .int .i64 i ∧ vj = .int .i64 j ∧ Below (w.alloc (bxD p q)).heap.size (w.alloc (bxD p q)) wr ∧ Hid (∀ t, t < i → lessD (l.getD t (0, 0)) (p, q) = true) ∧ Hid (∀ t, j ≤ t → t < l.length → lessD (l.getD t (0, 0)) (p, q) = false)) (fun vi vj _ => (intOf vj).toNat - (intOf vi).toNat)
  case atStart => exact ⟨0, n, by omega, by omega, rfl, rfl, Below.refl _ _, fun t ht => absurd ht (Nat.not_lt_zero _), fun t h1 h2 => by rw [HL.out] at h2; omega⟩
  case round =>
    obtain ⟨i, j, hij, hjn, rfl, rfl, hbel, H1, H2⟩ := hrel
    have HB := hide (bel_next (bel1 w (bxD p q)) hbel)
    have c2 := bcell hbel (cell_new w #[.int .i64 p, .int .i64 q] 28 _ rfl 0 _ rfl)
    have c3 := bcell hbel (cell_new w #[.int .i64 p, .int .i64 q] 28 _ rfl 1 _ rfl)
    have HBel := hide hbel
    clear hbel
    by_cases hlt : i < j
    · obtain ⟨h, hh⟩ : ∃ h : Nat, h = (i + j) / 2 := ⟨_, rfl⟩
      have hih : i ≤ h := by omega
      have hhj : h < j := by omega
      have hI : ((i : Int) + (j : Int)) / 2 = (h : Int) := by omega
      have hh0 : (0 : Int) ≤ (h : Int) := by omega
      have hh1 : (h : Int) < (n : Int) := by omega
      clear hh
      rcases HC.out with h0 | ⟨b, off, rfl, hc⟩
      · omega
      · have c0 := bcell HB.out (hc h (by omega)).1
        have c1 := bcell HB.out (hc h (by omega)).2
        clear hc
        have HC := hide (fun W => HCm.out (l.getD h (0, 0)) W)
        rcases hx : lessD (l.getD h (0, 0)) (p, q) with _ | _
        · have hcm : ¬ cmpD (l.getD h (0, 0)) (p, q) < 0 := fun k => by rw [cmpD_lt, hx] at k; cases k
          have H2' : Hid (∀ t, h ≤ t → t < l.length → lessD (l.getD t (0, 0)) (p, q) = false) := fun t h1 h2 => by
            rcases Nat.lt_or_ge t j with k | k
            · rcases hy : lessD (l.getD t (0, 0)) (p, q) with _ | _
              · rfl
              · rcases Nat.eq_or_lt_of_le h1 with e | e
                · subst e; rw [hx] at hy; cases hy
                · exact absurd (lessD_trans (SRT.out e h2) hy) (by rw [hx]; exact Bool.false_ne_true)
            · exact H2.out t k h2
          generalize cmpD (l.getD h (0, 0)) (p, q) = cm at hcm HC
          generalize l.getD h (0, 0) = x at c0 c1 HC
          obtain ⟨r, s⟩ := x
          clear hx
          go_wp2
          refine wp_region_held_drew (S := fun W => Below wr.heap.size wr W) (by kernel_rfl) ((Below.refl _ wr).drew) (fun hS0 => ?_)
          refine takeInH 0 24 ?v19 rfl rfl (by kernel_rfl) (by kernel_rfl) (by kernel_rfl) (fun _ _ _ h => h) (by kernel_rfl) hS0 ?hy19 ?_
          case hy19 => (intro W hW; clear hW; go_simp; try rfl)
          simp only [Act.put, List.setIfInBounds_toArray, List.set_cons_zero, List.set_cons_succ]
          refine takeInH 1 25 ?v20 rfl rfl (by kernel_rfl) (by kernel_rfl) (by kernel_rfl) (fun _ _ _ h => h) (by kernel_rfl) hS0 ?hy20 ?_
          case hy20 => (intro W hW; clear hW; go_simp; try rfl)
          simp only [Act.put, List.setIfInBounds_toArray, List.set_cons_zero, List.set_cons_succ]
          refine takeInH 2 26 ?v21 rfl rfl (by kernel_rfl) (by kernel_rfl) (by kernel_rfl) (fun _ _ _ h => h) (by kernel_rfl) hS0 ?hy21 ?_
          case hy21 => (intro W hW; clear hW; go_simp; try rfl)
          simp only [Act.put, List.setIfInBounds_toArray, List.set_cons_zero, List.set_cons_succ]
          refine takeInH 3 27 ?v22 rfl rfl (by kernel_rfl) (by kernel_rfl) (by kernel_rfl) (fun _ _ _ h => h) (by kernel_rfl) hS0 ?hy22 ?_
          case hy22 => (intro W hW; clear hW; go_simp; try rfl)
          simp only [Act.put, List.setIfInBounds_toArray, List.set_cons_zero, List.set_cons_succ]
          refine takeInH 4 28 ?v23 rfl rfl (by kernel_rfl) (by kernel_rfl) (by kernel_rfl) (fun _ _ _ h => h) (by kernel_rfl) hS0 ?hy23 ?_
          case hy23 => (intro W hW; have e0 := bcell hW c0; have e1 := bcell hW c1; have e2 := bcell hW c2; have e3 := bcell hW c3; clear hW; go_simp; try rfl)
          simp only [Act.put, List.setIfInBounds_toArray, List.set_cons_zero, List.set_cons_succ]
          refine takeInH 5 29 ?v24 rfl rfl (by kernel_rfl) (by kernel_rfl) (by kernel_rfl) (fun _ _ _ h => h) (by kernel_rfl) hS0 ?hy24 ?_
          case hy24 => (intro W hW; have e0 := bcell hW c0; have e1 := bcell hW c1; have e2 := bcell hW c2; have e3 := bcell hW c3; clear hW; go_simp; try rfl)
          simp only [Act.put, List.setIfInBounds_toArray, List.set_cons_zero, List.set_cons_succ]
          refine wpAnyH_ready (rs := [6]) (by kernel_rfl) (by simp) ?_
          refine AllReadyH.cons rfl (fun K hK => ?_) AllReadyH.nil
          go_simp
          refine (HC.out _).mono ?_
          rintro e w' ⟨rfl, hg⟩
          have hb := hg.bel
          clear hg
          try go_wp2_with fail
          refine hK.out _ _ ?hs25 (fun hS1 => ?_)
          case hs25 => exact bel_next hS0 hb
          clear hK K hb
          try simp only [Act.put, List.setIfInBounds_toArray, List.set_cons_zero, List.set_cons_succ]
          refine takeInH 7 31 ?v26 rfl rfl (by kernel_rfl) (by kernel_rfl) (by kernel_rfl) (fun _ _ _ h => h) (by kernel_rfl) hS1 ?hy26 ?_
          case hy26 => (intro W hW; clear hW; go_simp; try rfl)
          simp only [Act.put, List.setIfInBounds_toArray, List.set_cons_zero, List.set_cons_succ]
          refine wpAnyH_done (by kernel_rfl) ?_ _
          go_wp2
          go_roundw
          case rel => exact ⟨i, h, by omega, by omega, rfl, by go_num, bel_next HBel.out (by assumption), H1, H2'⟩
          case measure => simp [intOf]; omega
        · have hcm : cmpD (l.getD h (0, 0)) (p, q) < 0 := cmpD_lt.2 hx
          have H1' : Hid (∀ t, t < h + 1 → lessD (l.getD t (0, 0)) (p, q) = true) := fun t ht => by
            rcases Nat.eq_or_lt_of_le (show t ≤ h by omega) with e | e
            · subst e; exact hx
            · exact lessD_trans (SRT.out e (by rw [HL.out]; omega)) hx
          generalize cmpD (l.getD h (0, 0)) (p, q) = cm at hcm HC
          generalize l.getD h (0, 0) = x at c0 c1 HC
          obtain ⟨r, s⟩ := x
          clear hx
          go_wp2
          refine wp_region_held_drew (S := fun W => Below wr.heap.size wr W) (by kernel_rfl) ((Below.refl _ wr).drew) (fun hS0 => ?_)
          refine takeInH 0 24 ?v27 rfl rfl (by kernel_rfl) (by kernel_rfl) (by kernel_rfl) (fun _ _ _ h => h) (by kernel_rfl) hS0 ?hy27 ?_
          case hy27 => (intro W hW; clear hW; go_simp; try rfl)
          simp only [Act.put, List.setIfInBounds_toArray, List.set_cons_zero, List.set_cons_succ]
          refine takeInH 1 25 ?v28 rfl rfl (by kernel_rfl) (by kernel_rfl) (by kernel_rfl) (fun _ _ _ h => h) (by kernel_rfl) hS0 ?hy28 ?_
          case hy28 => (intro W hW; clear hW; go_simp; try rfl)
          simp only [Act.put, List.setIfInBounds_toArray, List.set_cons_zero, List.set_cons_succ]
          refine takeInH 2 26 ?v29 rfl rfl (by kernel_rfl) (by kernel_rfl) (by kernel_rfl) (fun _ _ _ h => h) (by kernel_rfl) hS0 ?hy29 ?_
          case hy29 => (intro W hW; clear hW; go_simp; try rfl)
          simp only [Act.put, List.setIfInBounds_toArray, List.set_cons_zero, List.set_cons_succ]
          refine takeInH 3 27 ?v30 rfl rfl (by kernel_rfl) (by kernel_rfl) (by kernel_rfl) (fun _ _ _ h => h) (by kernel_rfl) hS0 ?hy30 ?_
          case hy30 => (intro W hW; clear hW; go_simp; try rfl)
          simp only [Act.put, List.setIfInBounds_toArray, List.set_cons_zero, List.set_cons_succ]
          refine takeInH 4 28 ?v31 rfl rfl (by kernel_rfl) (by kernel_rfl) (by kernel_rfl) (fun _ _ _ h => h) (by kernel_rfl) hS0 ?hy31 ?_
          case hy31 => (intro W hW; have e0 := bcell hW c0; have e1 := bcell hW c1; have e2 := bcell hW c2; have e3 := bcell hW c3; clear hW; go_simp; try rfl)
          simp only [Act.put, List.setIfInBounds_toArray, List.set_cons_zero, List.set_cons_succ]
          refine takeInH 5 29 ?v32 rfl rfl (by kernel_rfl) (by kernel_rfl) (by kernel_rfl) (fun _ _ _ h => h) (by kernel_rfl) hS0 ?hy32 ?_
          case hy32 => (intro W hW; have e0 := bcell hW c0; have e1 := bcell hW c1; have e2 := bcell hW c2; have e3 := bcell hW c3; clear hW; go_simp; try rfl)
          simp only [Act.put, List.setIfInBounds_toArray, List.set_cons_zero, List.set_cons_succ]
          refine wpAnyH_ready (rs := [6]) (by kernel_rfl) (by simp) ?_
          refine AllReadyH.cons rfl (fun K hK => ?_) AllReadyH.nil
          go_simp
          refine (HC.out _).mono ?_
          rintro e w' ⟨rfl, hg⟩
          have hb := hg.bel
          clear hg
          try go_wp2_with fail
          refine hK.out _ _ ?hs33 (fun hS1 => ?_)
          case hs33 => exact bel_next hS0 hb
          clear hK K hb
          try simp only [Act.put, List.setIfInBounds_toArray, List.set_cons_zero, List.set_cons_succ]
          refine takeInH 7 31 ?v34 rfl rfl (by kernel_rfl) (by kernel_rfl) (by kernel_rfl) (fun _ _ _ h => h) (by kernel_rfl) hS1 ?hy34 ?_
          case hy34 => (intro W hW; clear hW; go_simp; try rfl)
          simp only [Act.put, List.setIfInBounds_toArray, List.set_cons_zero, List.set_cons_succ]
          refine wpAnyH_done (by kernel_rfl) ?_ _
          go_wp2
          go_roundw
          case rel => exact ⟨h + 1, j, by omega, by omega, by go_num, rfl, bel_next HBel.out (by assumption), H1', H2⟩
          case measure => simp [intOf]; omega
    · have hij' : i = j := by omega
      subst hij'
      have HFi := hide (HF.out i H1.out H2.out)
      clear H1 H2 HF
      by_cases hin : i < n
      · rcases HC.out with h0 | ⟨b, off, rfl, hc⟩
        · omega
        · have c0 := bcell HB.out (hc i hin).1
          have c1 := bcell HB.out (hc i hin).2
          clear hc
          have HC := hide (fun W => HCm.out (l.getD i (0, 0)) W)
          have HE : Hid ((cmpD (l.getD i (0, 0)) (p, q) == 0) = decide ((p, q) ∈ l)) := by
            have k := HFi.out; unfold Hid; rw [Bool.eq_iff_iff, beq_iff_eq, decide_eq_true_iff, k, HL.out]; exact ⟨fun z => ⟨hin, z⟩, fun z => z.2⟩
          generalize cmpD (l.getD i (0, 0)) (p, q) = cm at HC HE
          generalize l.getD i (0, 0) = x at c0 c1 HC
          obtain ⟨r, s⟩ := x
          go_wp2
          refine wp_region_held_drew (S := fun W => Below wr.heap.size wr W) (by kernel_rfl) ((Below.refl _ wr).drew) (fun hS0 => ?_)
          refine takeInH 0 35 ?v35 rfl rfl (by kernel_rfl) (by kernel_rfl) (by kernel_rfl) (fun _ _ _ h => h) (by kernel_rfl) hS0 ?hy35 ?_
          case hy35 => (intro W hW; clear hW; go_simp; try rfl)
          simp only [Act.put, List.setIfInBounds_toArray, List.set_cons_zero, List.set_cons_succ]
          refine takeInH 1 36 ?v36 rfl rfl (by kernel_rfl) (by kernel_rfl) (by kernel_rfl) (fun _ _ _ h => h) (by kernel_rfl) hS0 ?hy36 ?_
          case hy36 => (intro W hW; clear hW; go_simp; try rfl)
          simp only [Act.put, List.setIfInBounds_toArray, List.set_cons_zero, List.set_cons_succ]
          refine takeInH 2 37 ?v37 rfl rfl (by kernel_rfl) (by kernel_rfl) (by kernel_rfl) (fun _ _ _ h => h) (by kernel_rfl) hS0 ?hy37 ?_
          case hy37 => (intro W hW; clear hW; go_simp; try rfl)
          simp only [Act.put, List.setIfInBounds_toArray, List.set_cons_zero, List.set_cons_succ]
          refine takeInH 3 38 ?v38 rfl rfl (by kernel_rfl) (by kernel_rfl) (by kernel_rfl) (fun _ _ _ h => h) (by kernel_rfl) hS0 ?hy38 ?_
          case hy38 => (intro W hW; clear hW; go_simp; try rfl)
          simp only [Act.put, List.setIfInBounds_toArray, List.set_cons_zero, List.set_cons_succ]
          refine takeInH 4 39 ?v39 rfl rfl (by kernel_rfl) (by kernel_rfl) (by kernel_rfl) (fun _ _ _ h => h) (by kernel_rfl) hS0 ?hy39 ?_
          case hy39 => (intro W hW; clear hW; go_simp; try rfl)
          simp only [Act.put, List.setIfInBounds_toArray, List.set_cons_zero, List.set_cons_succ]
          refine takeInH 5 40 ?v40 rfl rfl (by kernel_rfl) (by kernel_rfl) (by kernel_rfl) (fun _ _ _ h => h) (by kernel_rfl) hS0 ?hy40 ?_
          case hy40 => (intro W hW; clear hW; go_simp; try rfl)
          simp only [Act.put, List.setIfInBounds_toArray, List.set_cons_zero, List.set_cons_succ]
          refine takeInH 6 41 ?v41 rfl rfl (by kernel_rfl) (by kernel_rfl) (by kernel_rfl) (fun _ _ _ h => h) (by kernel_rfl) hS0 ?hy41 ?_
          case hy41 => (intro W hW; clear hW; go_simp; try rfl)
          simp only [Act.put, List.setIfInBounds_toArray, List.set_cons_zero, List.set_cons_succ]
          refine takeInH 7 42 ?v42 rfl rfl (by kernel_rfl) (by kernel_rfl) (by kernel_rfl) (fun _ _ _ h => h) (by kernel_rfl) hS0 ?hy42 ?_
          case hy42 => (intro W hW; clear hW; go_simp; try rfl)
          simp only [Act.put, List.setIfInBounds_toArray, List.set_cons_zero, List.set_cons_succ]
          refine takeInH 8 43 ?v43 rfl rfl (by kernel_rfl) (by kernel_rfl) (by kernel_rfl) (fun _ _ _ h => h) (by kernel_rfl) hS0 ?hy43 ?_
          case hy43 => (intro W hW; clear hW; go_simp; try rfl)
          simp only [Act.put, List.setIfInBounds_toArray, List.set_cons_zero, List.set_cons_succ]
          refine takeInH 9 44 ?v44 rfl rfl (by kernel_rfl) (by kernel_rfl) (by kernel_rfl) (fun _ _ _ h => h) (by kernel_rfl) hS0 ?hy44 ?_
          case hy44 => (intro W hW; have e0 := bcell hW c0; have e1 := bcell hW c1; have e2 := bcell hW c2; have e3 := bcell hW c3; clear hW; go_simp; try rfl)
          simp only [Act.put, List.setIfInBounds_toArray, List.set_cons_zero, List.set_cons_succ]
          refine takeInH 10 45 ?v45 rfl rfl (by kernel_rfl) (by kernel_rfl) (by kernel_rfl) (fun _ _ _ h => h) (by kernel_rfl) hS0 ?hy45 ?_
          case hy45 => (intro W hW; have e0 := bcell hW c0; have e1 := bcell hW c1; have e2 := bcell hW c2; have e3 := bcell hW c3; clear hW; go_simp; try rfl)
          simp only [Act.put, List.setIfInBounds_toArray, List.set_cons_zero, List.set_cons_succ]
          refine wpAnyH_ready (rs := [11]) (by kernel_rfl) (by simp) ?_
          refine AllReadyH.cons rfl (fun K hK => ?_) AllReadyH.nil
          go_simp
          refine (HC.out _).mono ?_
          rintro e w' ⟨rfl, hg⟩
          have hb := hg.bel
          clear hg
          try go_wp2_with fail
          refine hK.out _ _ ?hs46 (fun hS1 => ?_)
          case hs46 => exact bel_next hS0 hb
          clear hK K hb
          try simp only [Act.put, List.setIfInBounds_toArray, List.set_cons_zero, List.set_cons_succ]
          refine takeInH 12 47 ?v47 rfl rfl (by kernel_rfl) (by kernel_rfl) (by kernel_rfl) (fun _ _ _ h => h) (by kernel_rfl) hS1 ?hy47 ?_
          case hy47 => (intro W hW; clear hW; go_simp; try rfl)
          simp only [Act.put, List.setIfInBounds_toArray, List.set_cons_zero, List.set_cons_succ]
          refine takeInH 13 48 ?v48 rfl rfl (by kernel_rfl) (by kernel_rfl) (by kernel_rfl) (fun _ _ _ h => h) (by kernel_rfl) hS1 ?hy48 ?_
          case hy48 => (intro W hW; clear hW; go_simp; try rfl)
          simp only [Act.put, List.setIfInBounds_toArray, List.set_cons_zero, List.set_cons_succ]
          refine takeInH 14 6 ?v49 rfl rfl (by kernel_rfl) (by kernel_rfl) (by kernel_rfl) (fun _ _ _ h => h) (by kernel_rfl) hS1 ?hy49 ?_
          case hy49 => (intro W hW; clear hW; go_simp; try rfl)
          simp only [Act.put, List.setIfInBounds_toArray, List.set_cons_zero, List.set_cons_succ]
          refine takeInH 15 7 ?v50 rfl rfl (by kernel_rfl) (by kernel_rfl) (by kernel_rfl) (fun _ _ _ h => h) (by kernel_rfl) hS1 ?hy50 ?_
          case hy50 => (intro W hW; clear hW; go_simp; try rfl)
          simp only [Act.put, List.setIfInBounds_toArray, List.set_cons_zero, List.set_cons_succ]
          refine wpAnyH_done (by kernel_rfl) ?_ _
          go_wp2
          go_ret2
          exact ⟨⟨(i : Int), by rw [← HE.out]; rfl⟩, bel_next HB.out (by assumption)⟩
      · have HE : Hid (decide ((p, q) ∈ l) = false) := by
          have k := HFi.out; unfold Hid; rw [decide_eq_false_iff_not, k, HL.out]; exact fun z => hin z.1
        go_wp2
        refine wp_region_held_drew (S := fun W => Below wr.heap.size wr W) (by kernel_rfl) ((Below.refl _ wr).drew) (fun hS0 => ?_)
        refine takeInH 0 35 ?v51 rfl rfl (by kernel_rfl) (by kernel_rfl) (by kernel_rfl) (fun _ _ _ h => h) (by kernel_rfl) hS0 ?hy51 ?_
        case hy51 => (intro W hW; clear hW; go_simp; try rfl)
        simp only [Act.put, List.setIfInBounds_toArray, List.set_cons_zero, List.set_cons_succ]
        refine takeInH 1 36 ?v52 rfl rfl (by kernel_rfl) (by kernel_rfl) (by kernel_rfl) (fun _ _ _ h => h) (by kernel_rfl) hS0 ?hy52 ?_
        case hy52 => (intro W hW; clear hW; go_simp; try rfl)
        simp only [Act.put, List.setIfInBounds_toArray, List.set_cons_zero, List.set_cons_succ]
        refine takeInH 2 37 ?v53 rfl rfl (by kernel_rfl) (by kernel_rfl) (by kernel_rfl) (fun _ _ _ h => h) (by kernel_rfl) hS0 ?hy53 ?_
        case hy53 => (intro W hW; clear hW; go_simp; try rfl)
        simp only [Act.put, List.setIfInBounds_toArray, List.set_cons_zero, List.set_cons_succ]
        refine takeInH 3 38 ?v54 rfl rfl (by kernel_rfl) (by kernel_rfl) (by kernel_rfl) (fun _ _ _ h => h) (by kernel_rfl) hS0 ?hy54 ?_
        case hy54 => (intro W hW; clear hW; go_simp; try rfl)
        simp only [Act.put, List.setIfInBounds_toArray, List.set_cons_zero, List.set_cons_succ]
        refine takeInH 4 39 ?v55 rfl rfl (by kernel_rfl) (by kernel_rfl) (by kernel_rfl) (fun _ _ _ h => h) (by kernel_rfl) hS0 ?hy55 ?_
        case hy55 => (intro W hW; clear hW; go_simp; try rfl)
        simp only [Act.put, List.setIfInBounds_toArray, List.set_cons_zero, List.set_cons_succ]
        refine takeNoH 5 40 rfl rfl (by kernel_rfl) (by kernel_rfl) (by kernel_rfl) (fun _ _ _ h => h) (by kernel_rfl) hS0 ?_
        simp only [Act.put, List.setIfInBounds_toArray, List.set_cons_zero, List.set_cons_succ]
        refine takeNoH 6 41 rfl rfl (by kernel_rfl) (by kernel_rfl) (by kernel_rfl) (fun _ _ _ h => h) (by kernel_rfl) hS0 ?_
        simp only [Act.put, List.setIfInBounds_toArray, List.set_cons_zero, List.set_cons_succ]
        refine takeNoH 7 42 rfl rfl (by kernel_rfl) (by kernel_rfl) (by kernel_rfl) (fun _ _ _ h => h) (by kernel_rfl) hS0 ?_
        simp only [Act.put, List.setIfInBounds_toArray, List.set_cons_zero, List.set_cons_succ]
        refine takeNoH 8 43 rfl rfl (by kernel_rfl) (by kernel_rfl) (by kernel_rfl) (fun _ _ _ h => h) (by kernel_rfl) hS0 ?_
        simp only [Act.put, List.setIfInBounds_toArray, List.set_cons_zero, List.set_cons_succ]
        refine takeNoH 9 44 rfl rfl (by kernel_rfl) (by kernel_rfl) (by kernel_rfl) (fun _ _ _ h => h) (by kernel_rfl) hS0 ?_
        simp only [Act.put, List.setIfInBounds_toArray, List.set_cons_zero, List.set_cons_succ]
        refine takeNoH 10 45 rfl rfl (by kernel_rfl) (by kernel_rfl) (by kernel_rfl) (fun _ _ _ h => h) (by kernel_rfl) hS0 ?_
        simp only [Act.put, List.setIfInBounds_toArray, List.set_cons_zero, List.set_cons_succ]
        refine takeNoH 11 46 rfl rfl (by kernel_rfl) (by kernel_rfl) (by kernel_rfl) (fun _ _ _ h => h) (by kernel_rfl) hS0 ?_
        simp only [Act.put, List.setIfInBounds_toArray, List.set_cons_zero, List.set_cons_succ]
        refine takeNoH 12 47 rfl rfl (by kernel_rfl) (by kernel_rfl) (by kernel_rfl) (fun _ _ _ h => h) (by kernel_rfl) hS0 ?_
        simp only [Act.put, List.setIfInBounds_toArray, List.set_cons_zero, List.set_cons_succ]
        refine takeInH 13 48 ?v56 rfl rfl (by kernel_rfl) (by kernel_rfl) (by kernel_rfl) (fun _ _ _ h => h) (by kernel_rfl) hS0 ?hy56 ?_
        case hy56 => (intro W hW; clear hW; go_simp; try rfl)
        simp only [Act.put, List.setIfInBounds_toArray, List.set_cons_zero, List.set_cons_succ]
        refine takeInH 14 6 ?v57 rfl rfl (by kernel_rfl) (by kernel_rfl) (by kernel_rfl) (fun _ _ _ h => h) (by kernel_rfl) hS0 ?hy57 ?_
        case hy57 => (intro W hW; clear hW; go_simp; try rfl)
        simp only [Act.put, List.setIfInBounds_toArray, List.set_cons_zero, List.set_cons_succ]
        refine takeInH 15 7 ?v58 rfl rfl (by kernel_rfl) (by kernel_rfl) (by kernel_rfl) (fun _ _ _ h => h) (by kernel_rfl) hS0 ?hy58 ?_
        case hy58 => (intro W hW; clear hW; go_simp; try rfl)
        simp only [Act.put, List.setIfInBounds_toArray, List.set_cons_zero, List.set_cons_succ]
        refine wpAnyH_done (by kernel_rfl) ?_ _
        go_wp2
        go_ret2
        exact ⟨⟨(i : Int), by rw [HE.out]; rfl⟩, bel_next HB.out (by assumption)⟩

set_option maxHeartbeats 2000000 in
theorem has_any (pa pm : Option Addr) (na ca nm cm : Nat) (c : List Int) (m : List Dot) (d : Dot) (w : World) (hN : NS w pa na c) (hD : DS w pm nm m) (hS : SrtD m) (hn : nm ≤ 1000) :
    Calls Try.prog 42 #[.agg #[.slice pa na ca, .slice pm nm cm], .agg #[.int .i64 d.1, .int .i64 d.2]] w fun e w' => e = .returned (.bool (hasB c m d)) ∧ Below w.heap.size w w' := by
  have HSe := hide (fun W (h : DS W pm nm m) => search_any pm nm cm m d W h hS hn)
  obtain ⟨r, s⟩ := d
  have HM := hide (fun W => May_any r s W)
  have HG := hide (fun W (h : NS W pa na c) => Get_any pa na ca c r W h)
  have c0 : ((w.alloc (bxS pa pm na ca nm cm)).alloc (bxD r s)).cell? ⟨w.heap.size, 0, none⟩ = some (.slice pa na ca) := cell_old _ (cell_new w _ _ _ rfl 0 _ rfl)
  have c1 : ((w.alloc (bxS pa pm na ca nm cm)).alloc (bxD r s)).cell? ⟨w.heap.size, 1, none⟩ = some (.slice pm nm cm) := cell_old _ (cell_new w _ _ _ rfl 1 _ rfl)
  have c2 : ((w.alloc (bxS pa pm na ca nm cm)).alloc (bxD r s)).cell? ⟨w.heap.size + 1, 0, none⟩ = some (.int .i64 r) := cell_new _ _ _ _ (by simp) 0 _ rfl
  have c3 : ((w.alloc (bxS pa pm na ca nm cm)).alloc (bxD r s)).cell? ⟨w.heap.size + 1, 1, none⟩ = some (.int .i64 s) := cell_new _ _ _ _ (by simp) 1 _ rfl
  have HU := hide (bel2 w (bxS pa pm na ca nm cm) (bxD r s))
  have NU := hide ((hN.alloc (bxS pa pm na ca nm cm)).alloc (bxD r s))
  have DU := hide ((hD.alloc (bxS pa pm na ca nm cm)).alloc (bxD r s))
  have hmax := hD.2.1
  clear hN hD hS
  rcases hm : mayD (r, s) with _ | _
  · rw [hm] at HM
    have HE : Hid (false = hasB c m (r, s)) := by unfold Hid hasB; rw [hm]; rfl
    clear hm c0 c1 c2 c3
    go_enter Try.func42, Try.ntmps42
    go_wp2_with (go_at_call 10; refine (HM.out _).mono ?_; rintro e w' ⟨rfl, hg⟩)
    go_ret
    exact ⟨retB HE.out, bel_next HU.out hg.bel⟩
  · rw [hm] at HM
    by_cases hle : s ≤ getZ c r
    · have HE : Hid (true = hasB c m (r, s)) := by unfold Hid hasB; rw [hm]; simp [hle]
      generalize getZ c r = z at hle HG
      clear hm
      go_enter Try.func42, Try.ntmps42
      go_wp2_with (go_at_call 10; refine (HM.out _).mono ?_; rintro e w' ⟨rfl, hg⟩; replace c0 := bcell hg.bel c0; replace c1 := bcell hg.bel c1; replace c2 := bcell hg.bel c2; replace c3 := bcell hg.bel c3; replace NU := hide (NU.out.below hg.bel); replace DU := hide (DU.out.below hg.bel); replace HU := hide (bel_next HU.out hg.bel); clear hg; refine Stop.at ?_)
      unfold Stop
      generalize w' = u at *
      go_wp2
      refine wp_region_held_drew (S := fun W => Below u.heap.size u W) (by kernel_rfl) ((Below.refl _ u).drew) (fun hS0 => ?_)
      refine takeInH 0 10 ?v59 rfl rfl (by kernel_rfl) (by kernel_rfl) (by kernel_rfl) (fun _ _ _ h => h) (by kernel_rfl) hS0 ?hy59 ?_
      case hy59 => (intro W hW; clear hW; go_simp; try rfl)
      simp only [Act.put, List.setIfInBounds_toArray, List.set_cons_zero, List.set_cons_succ]
      refine takeInH 1 11 ?v60 rfl rfl (by kernel_rfl) (by kernel_rfl) (by kernel_rfl) (fun _ _ _ h => h) (by kernel_rfl) hS0 ?hy60 ?_
      case hy60 => (intro W hW; have e0 := bcell hW c0; have e1 := bcell hW c1; have e2 := bcell hW c2; have e3 := bcell hW c3; clear hW; go_simp; try rfl)
      simp only [Act.put, List.setIfInBounds_toArray, List.set_cons_zero, List.set_cons_succ]
      refine takeInH 2 12 ?v61 rfl rfl (by kernel_rfl) (by kernel_rfl) (by kernel_rfl) (fun _ _ _ h => h) (by kernel_rfl) hS0 ?hy61 ?_
      case hy61 => (intro W hW; clear hW; go_simp; try rfl)
      simp only [Act.put, List.setIfInBounds_toArray, List.set_cons_zero, List.set_cons_succ]
      refine takeInH 3 13 ?v62 rfl rfl (by kernel_rfl) (by kernel_rfl) (by kernel_rfl) (fun _ _ _ h => h) (by kernel_rfl) hS0 ?hy62 ?_
      case hy62 => (intro W hW; have e0 := bcell hW c0; have e1 := bcell hW c1; have e2 := bcell hW c2; have e3 := bcell hW c3; clear hW; go_simp; try rfl)
      simp only [Act.put, List.setIfInBounds_toArray, List.set_cons_zero, List.set_cons_succ]
      refine takeInH 4 14 ?v63 rfl rfl (by kernel_rfl) (by kernel_rfl) (by kernel_rfl) (fun _ _ _ h => h) (by kernel_rfl) hS0 ?hy63 ?_
      case hy63 => (intro W hW; clear hW; go_simp; try rfl)
      simp only [Act.put, List.setIfInBounds_toArray, List.set_cons_zero, List.set_cons_succ]
      refine takeInH 5 15 ?v64 rfl rfl (by kernel_rfl) (by kernel_rfl) (by kernel_rfl) (fun _ _ _ h => h) (by kernel_rfl) hS0 ?hy64 ?_
      case hy64 => (intro W hW; have e0 := bcell hW c0; have e1 := bcell hW c1; have e2 := bcell hW c2; have e3 := bcell hW c3; clear hW; go_simp; try rfl)
      simp only [Act.put, List.setIfInBounds_toArray, List.set_cons_zero, List.set_cons_succ]
      refine wpAnyH_ready (rs := [6]) (by kernel_rfl) (by simp) ?_
      refine AllReadyH.cons rfl (fun K hK => ?_) AllReadyH.nil
      go_simp
      refine (HG.out _ (NU.out.below hS0)).mono ?_
      rintro e w' ⟨rfl, hb⟩
      try go_wp2_with fail
      refine hK.out _ _ ?hs65 (fun hS1 => ?_)
      case hs65 => exact bel_next hS0 hb
      clear hK K hb
      try simp only [Act.put, List.setIfInBounds_toArray, List.set_cons_zero, List.set_cons_succ]
      refine takeInH 7 17 ?v66 rfl rfl (by kernel_rfl) (by kernel_rfl) (by kernel_rfl) (fun _ _ _ h => h) (by kernel_rfl) hS1 ?hy66 ?_
      case hy66 => (intro W hW; clear hW; go_simp; try rfl)
      simp only [Act.put, List.setIfInBounds_toArray, List.set_cons_zero, List.set_cons_succ]
      refine wpAnyH_done (by kernel_rfl) ?_ _
      go_wp2
      go_ret
      exact ⟨retB HE.out, bel_next HU.out (by assumption)⟩
    · have HE : Hid (decide ((r, s) ∈ m) = hasB c m (r, s)) := by unfold Hid hasB; rw [hm]; simp [hle]
      generalize getZ c r = z at hle HG
      clear hm
      go_enter Try.func42, Try.ntmps42
      go_wp2_with (go_at_call 10; refine (HM.out _).mono ?_; rintro e w' ⟨rfl, hg⟩; replace c0 := bcell hg.bel c0; replace c1 := bcell hg.bel c1; replace c2 := bcell hg.bel c2; replace c3 := bcell hg.bel c3; replace NU := hide (NU.out.below hg.bel); replace DU := hide (DU.out.below hg.bel); replace HU := hide (bel_next HU.out hg.bel); clear hg; refine Stop.at ?_)
      unfold Stop
      generalize w' = u at *
      go_wp2
      refine wp_region_held_drew (S := fun W => Below u.heap.size u W) (by kernel_rfl) ((Below.refl _ u).drew) (fun hS0 => ?_)
      refine takeInH 0 10 ?v67 rfl rfl (by kernel_rfl) (by kernel_rfl) (by kernel_rfl) (fun _ _ _ h => h) (by kernel_rfl) hS0 ?hy67 ?_
      case hy67 => (intro W hW; clear hW; go_simp; try rfl)
      simp only [Act.put, List.setIfInBounds_toArray, List.set_cons_zero, List.set_cons_succ]
      refine takeInH 1 11 ?v68 rfl rfl (by kernel_rfl) (by kernel_rfl) (by kernel_rfl) (fun _ _ _ h => h) (by kernel_rfl) hS0 ?hy68 ?_
      case hy68 => (intro W hW; have e0 := bcell hW c0; have e1 := bcell hW c1; have e2 := bcell hW c2; have e3 := bcell hW c3; clear hW; go_simp; try rfl)
      simp only [Act.put, List.setIfInBounds_toArray, List.set_cons_zero, List.set_cons_succ]
      refine takeInH 2 12 ?v69 rfl rfl (by kernel_rfl) (by kernel_rfl) (by kernel_rfl) (fun _ _ _ h => h) (by kernel_rfl) hS0 ?hy69 ?_
      case hy69 => (intro W hW; clear hW; go_simp; try rfl)
      simp only [Act.put, List.setIfInBounds_toArray, List.set_cons_zero, List.set_cons_succ]
      refine takeInH 3 13 ?v70 rfl rfl (by kernel_rfl) (by kernel_rfl) (by kernel_rfl) (fun _ _ _ h => h) (by kernel_rfl) hS0 ?hy70 ?_
      case hy70 => (intro W hW; have e0 := bcell hW c0; have e1 := bcell hW c1; have e2 := bcell hW c2; have e3 := bcell hW c3; clear hW; go_simp; try rfl)
      simp only [Act.put, List.setIfInBounds_toArray, List.set_cons_zero, List.set_cons_succ]
      refine takeInH 4 14 ?v71 rfl rfl (by kernel_rfl) (by kernel_rfl) (by kernel_rfl) (fun _ _ _ h => h) (by kernel_rfl) hS0 ?hy71 ?_
      case hy71 => (intro W hW; clear hW; go_simp; try rfl)
      simp only [Act.put, List.setIfInBounds_toArray, List.set_cons_zero, List.set_cons_succ]
      refine takeInH 5 15 ?v72 rfl rfl (by kernel_rfl) (by kernel_rfl) (by kernel_rfl) (fun _ _ _ h => h) (by kernel_rfl) hS0 ?hy72 ?_
      case hy72 => (intro W hW; have e0 := bcell hW c0; have e1 := bcell hW c1; have e2 := bcell hW c2; have e3 := bcell hW c3; clear hW; go_simp; try rfl)
      simp only [Act.put, List.setIfInBounds_toArray, List.set_cons_zero, List.set_cons_succ]
      refine wpAnyH_ready (rs := [6]) (by kernel_rfl) (by simp) ?_
      refine AllReadyH.cons rfl (fun K hK => ?_) AllReadyH.nil
      go_simp
      refine (HG.out _ (NU.out.below hS0)).mono ?_
      rintro e w' ⟨rfl, hb⟩
      try go_wp2_with fail
      refine hK.out _ _ ?hs73 (fun hS1 => ?_)
      case hs73 => exact bel_next hS0 hb
      clear hK K hb
      try simp only [Act.put, List.setIfInBounds_toArray, List.set_cons_zero, List.set_cons_succ]
      refine takeInH 7 17 ?v74 rfl rfl (by kernel_rfl) (by kernel_rfl) (by kernel_rfl) (fun _ _ _ h => h) (by kernel_rfl) hS1 ?hy74 ?_
      case hy74 => (intro W hW; clear hW; go_simp; try rfl)
      simp only [Act.put, List.setIfInBounds_toArray, List.set_cons_zero, List.set_cons_succ]
      refine wpAnyH_done (by kernel_rfl) ?_ _
      generalize hv : (decide ((r, s) ∈ m)) = bb at HE HSe
      have hS1c := hS1
      replace c0 := bcell hS1 c0
      replace c1 := bcell hS1 c1
      replace c2 := bcell hS1 c2
      replace c3 := bcell hS1 c3
      replace DU := hide (DU.out.below hS1)
      replace HU := hide (bel_next HU.out hS1)
      clear hS0 hS1 hS1c NU hv
      go_wp2_with (go_at_call 59; refine (HSe.out _ DU.out).mono ?_; rintro e w2 ⟨⟨i, rfl⟩, hb2⟩)
      go_ret
      exact ⟨retB HE.out, bel_next HU.out hb2⟩
end Go.Proofs.Ytccpbkemiilgcaa
