/- What 'Check', 'Has' and 'Same' do, and the document's 'Seen', 'Has', 'Same'. -/
import Derived.Test.YtccpbkemiilgcaaDFun3
namespace Go.Proofs.Ytccpbkemiilgcaa
open Go.RowKit
set_option linter.unusedVariables false

theorem wrapN {j : Nat} (h : j ≤ 1000000000) : IntKind.i64.wrap (j : Int) = j := by simp [IntKind.wrap, IntKind.bits, IntKind.signed]; omega
def chkS (c : List Int) (m : List Dot) : Int := if seenB c m = true then 0 else 1
theorem chkS_bad {c : List Int} {m : List Dot} (h : seenB c m = false) : 1 = chkS c m := by unfold chkS; rw [h]; rfl
theorem chkS_good {c : List Int} {m : List Dot} (h : seenB c m = true) : 0 = chkS c m := by unfold chkS; rw [h]; rfl
theorem seenB_no {c : List Int} {m : List Dot} (h : ¬ (plainC c = true ∧ m.length ≤ 1000 ∧ okFrom c m 0)) : seenB c m = false := by
  rw [← Bool.not_eq_true, seenB_iff]; exact h
theorem okAt_far {c : List Int} {m : List Dot} {k : Nat} {x : Dot} (hx : m.getD k (0, 0) = x) (h : (mayD x && decide (x.2 > getZ c x.1 + 1)) = false) : ¬ okAt c m k = true := by
  unfold okAt; rw [hx, h]; simp
theorem okAt_zero {c : List Int} {m : List Dot} {x : Dot} (hx : m.getD 0 (0, 0) = x) (h : (mayD x && decide (x.2 > getZ c x.1 + 1)) = true) : okAt c m 0 = true := by
  unfold okAt; rw [hx, h]; simp
theorem okAt_succ {c : List Int} {m : List Dot} {j : Nat} {x y : Dot} (hx : m.getD (j + 1) (0, 0) = x) (hy : m.getD j (0, 0) = y) (h : (mayD x && decide (x.2 > getZ c x.1 + 1)) = true) : okAt c m (j + 1) = lessD y x := by
  unfold okAt; rw [hx, h, show j + 1 - 1 = j from rfl, hy]; simp

set_option maxHeartbeats 2000000 in
theorem Check_any (pa pm : Option Addr) (na ca nm cm : Nat) (c : List Int) (m : List Dot) (w : World) (hN : NS w pa na c) (hD : DS w pm nm m) :
    Calls Try.prog 12 #[.agg #[.slice pa na ca, .slice pm nm cm]] w fun e w' => e = .returned (.int .i64 (chkS c m)) ∧ Below w.heap.size w w' := by
  have HP := hide (fun W (h : NS W pa na c) => isPlain_any pa na ca c W h)
  have HF0 := hide (fun x W (h : NS W pa na c) => isFar_any pa na ca c x W h)
  have HN := hide hN
  have hlen := hD.1
  have hmax := hD.2.1
  unfold maxLen at hmax
  have HC := hide hD.2.2
  clear hN hD
  rcases hp : plainC c with _ | _
  · rw [hp] at HP
    have HE : Hid (1 = chkS c m) := chkS_bad (seenB_no (by rw [hp]; exact fun h => absurd h.1 Bool.false_ne_true))
    clear hp hlen
    go_enter Try.func12, Try.ntmps12
    go_wp2_with (go_at_call 32; refine (HP.out _ (HN.out.alloc _)).mono ?_; rintro e u ⟨rfl, hb⟩; have c0 := bcell hb (cell_new w #[.slice pa na ca, .slice pm nm cm] 26 _ rfl 0 _ rfl); have c1 := bcell hb (cell_new w #[.slice pa na ca, .slice pm nm cm] 26 _ rfl 1 _ rfl); have HU := hide (bel_next (bel1 w (bxS pa pm na ca nm cm)) hb); clear hb)
    go_ret
    exact ⟨ret_int HE.out, HU.out⟩
  · rw [hp] at HP
    by_cases hn : (nm : Int) > 1000
    · have HE : Hid (1 = chkS c m) := chkS_bad (seenB_no (by rw [hlen]; exact fun h => by omega))
      clear hp hlen
      go_enter Try.func12, Try.ntmps12
      go_wp2_with (go_at_call 32; refine (HP.out _ (HN.out.alloc _)).mono ?_; rintro e u ⟨rfl, hb⟩; have c0 := bcell hb (cell_new w #[.slice pa na ca, .slice pm nm cm] 26 _ rfl 0 _ rfl); have c1 := bcell hb (cell_new w #[.slice pa na ca, .slice pm nm cm] 26 _ rfl 1 _ rfl); have HU := hide (bel_next (bel1 w (bxS pa pm na ca nm cm)) hb); clear hb)
      go_ret
      exact ⟨ret_int HE.out, HU.out⟩
    · have HLn := hide hlen
      have HI : Hid (seenB c m = true ↔ okFrom c m 0) := by
        unfold Hid; rw [seenB_iff]; exact ⟨fun h => h.2.2, fun h => ⟨hp, by rw [hlen]; omega, h⟩⟩
      have HNo : Hid (¬ okFrom c m 0 → 1 = chkS c m) := fun h => chkS_bad (by rw [← Bool.not_eq_true, HI.out]; exact h)
      have hn' : nm ≤ 1000 := by omega
      clear hp hlen
      go_enter Try.func12, Try.ntmps12
      go_wp2_with (go_at_call 32; refine (HP.out _ (HN.out.alloc _)).mono ?_; rintro e u ⟨rfl, hb⟩; have c0 := bcell hb (cell_new w #[.slice pa na ca, .slice pm nm cm] 26 _ rfl 0 _ rfl); have c1 := bcell hb (cell_new w #[.slice pa na ca, .slice pm nm cm] 26 _ rfl 1 _ rfl); have HU := hide (bel_next (bel1 w (bxS pa pm na ca nm cm)) hb); clear hb)
      go_loopw [18] (fun i wr => ∃ k : Nat, k ≤ nm ∧ i = .int .i64 k ∧ Below u.heap.size u wr ∧ Hid (okFrom c m 0 ↔ okFrom c m k)) (fun i _ => nm - (intOf i).toNat)
      case atStart => exact ⟨0, by omega, rfl, Below.refl _ _, by unfold Hid; simp⟩
      case round =>
        obtain ⟨k, hk, rfl, hbel, hH⟩ := hrel
        by_cases hlt : k < nm
        · rcases HC.out with h0 | ⟨b, off, rfl, hc⟩
          · omega
          · have x0 := bcell hbel (bcell HU.out (hc k hlt).1)
            have x1 := bcell hbel (bcell HU.out (hc k hlt).2)
            obtain ⟨x, hx⟩ : ∃ x, m.getD k (0, 0) = x := ⟨_, rfl⟩
            have HX := hide hx
            rw [hx] at x0 x1
            have HF := hide (fun W h => HF0.out x W h)
            have HB0 := hide (bel_next HU.out hbel)
            have HCc := hide hc
            replace c0 := bcell (bel_next hbel (bel1 wr (bxD x.1 x.2))) c0
            replace c1 := bcell (bel_next hbel (bel1 wr (bxD x.1 x.2))) c1
            have HB2 := hide (bel_next hbel (bel1 wr (bxD x.1 x.2)))
            have HB3 := hide (bel_next HB0.out (bel1 wr (bxD x.1 x.2)))
            have NU2 := hide (HN.out.below HB3.out)
            have hst : Hid (okFrom c m 0 ↔ okAt c m k = true ∧ okFrom c m (k + 1)) := by
              exact hH.out.trans (okFrom_step (by rw [HLn.out]; exact hlt))
            clear hc hx hH
            obtain ⟨r, s⟩ := x
            rcases hfar : (mayD (r, s) && decide ((r, s).2 > getZ c (r, s).1 + 1)) with _ | _
            · have HE : Hid (1 = chkS c m) := HNo.out (by rw [hst.out]; exact fun h => okAt_far HX.out hfar h.1)
              rw [hfar] at HF
              clear hfar hst
              go_wp2
              replace x0 : (wr.alloc (bxD r s)).cell? ⟨wr.heap.size, 0, none⟩ = some (.int .i64 r) := cell_new wr _ _ _ rfl 0 _ rfl
              replace x1 : (wr.alloc (bxD r s)).cell? ⟨wr.heap.size, 1, none⟩ = some (.int .i64 s) := cell_new wr _ _ _ rfl 1 _ rfl
              generalize wr.alloc (bxD r s) = u2 at *
              refine wp_region_held_drew (S := fun W => Below u2.heap.size u2 W) (by kernel_rfl) ((Below.refl _ u2).drew) (fun hS0 => ?_)
              refine takeInH 0 23 ?v1 rfl rfl (by kernel_rfl) (by kernel_rfl) (by kernel_rfl) (fun _ _ _ h => h) (by kernel_rfl) hS0 ?hy1 ?_
              case hy1 => (intro W hW; clear hW; go_simp; try rfl)
              simp only [Act.put, List.setIfInBounds_toArray, List.set_cons_zero, List.set_cons_succ]
              refine takeInH 1 24 ?v2 rfl rfl (by kernel_rfl) (by kernel_rfl) (by kernel_rfl) (fun _ _ _ h => h) (by kernel_rfl) hS0 ?hy2 ?_
              case hy2 => (intro W hW; have e0 := bcell hW c0; have e1 := bcell hW c1; have e2 := bcell hW x0; have e3 := bcell hW x1; clear hW; go_simp; try rfl)
              simp only [Act.put, List.setIfInBounds_toArray, List.set_cons_zero, List.set_cons_succ]
              refine takeInH 2 25 ?v3 rfl rfl (by kernel_rfl) (by kernel_rfl) (by kernel_rfl) (fun _ _ _ h => h) (by kernel_rfl) hS0 ?hy3 ?_
              case hy3 => (intro W hW; have e0 := bcell hW c0; have e1 := bcell hW c1; have e2 := bcell hW x0; have e3 := bcell hW x1; clear hW; go_simp; try rfl)
              simp only [Act.put, List.setIfInBounds_toArray, List.set_cons_zero, List.set_cons_succ]
              refine wpAnyH_ready (rs := [3]) (by kernel_rfl) (by simp) ?_
              refine AllReadyH.cons rfl (fun K hK => ?_) AllReadyH.nil
              go_simp
              refine (HF.out _ (NU2.out.below hS0)).mono ?_
              rintro e w' ⟨rfl, hb⟩
              try go_wp2_with fail
              refine hK.out _ _ ?hs4 (fun hS1 => ?_)
              case hs4 => exact bel_next hS0 hb
              clear hK K hb
              try simp only [Act.put, List.setIfInBounds_toArray, List.set_cons_zero, List.set_cons_succ]
              refine takeInH 4 27 ?v5 rfl rfl (by kernel_rfl) (by kernel_rfl) (by kernel_rfl) (fun _ _ _ h => h) (by kernel_rfl) hS1 ?hy5 ?_
              case hy5 => (intro W hW; clear hW; go_simp; try rfl)
              simp only [Act.put, List.setIfInBounds_toArray, List.set_cons_zero, List.set_cons_succ]
              refine takeInH 5 28 ?v6 rfl rfl (by kernel_rfl) (by kernel_rfl) (by kernel_rfl) (fun _ _ _ h => h) (by kernel_rfl) hS1 ?hy6 ?_
              case hy6 => (intro W hW; clear hW; go_simp; try rfl)
              simp only [Act.put, List.setIfInBounds_toArray, List.set_cons_zero, List.set_cons_succ]
              refine takeNoH 6 29 rfl rfl (by kernel_rfl) (by kernel_rfl) (by kernel_rfl) (fun _ _ _ h => h) (by kernel_rfl) hS1 ?_
              simp only [Act.put, List.setIfInBounds_toArray, List.set_cons_zero, List.set_cons_succ]
              refine takeNoH 7 30 rfl rfl (by kernel_rfl) (by kernel_rfl) (by kernel_rfl) (fun _ _ _ h => h) (by kernel_rfl) hS1 ?_
              simp only [Act.put, List.setIfInBounds_toArray, List.set_cons_zero, List.set_cons_succ]
              refine takeNoH 8 31 rfl rfl (by kernel_rfl) (by kernel_rfl) (by kernel_rfl) (fun _ _ _ h => h) (by kernel_rfl) hS1 ?_
              simp only [Act.put, List.setIfInBounds_toArray, List.set_cons_zero, List.set_cons_succ]
              refine takeNoH 9 32 rfl rfl (by kernel_rfl) (by kernel_rfl) (by kernel_rfl) (fun _ _ _ h => h) (by kernel_rfl) hS1 ?_
              simp only [Act.put, List.setIfInBounds_toArray, List.set_cons_zero, List.set_cons_succ]
              refine takeNoH 10 33 rfl rfl (by kernel_rfl) (by kernel_rfl) (by kernel_rfl) (fun _ _ _ h => h) (by kernel_rfl) hS1 ?_
              simp only [Act.put, List.setIfInBounds_toArray, List.set_cons_zero, List.set_cons_succ]
              refine takeNoH 11 34 rfl rfl (by kernel_rfl) (by kernel_rfl) (by kernel_rfl) (fun _ _ _ h => h) (by kernel_rfl) hS1 ?_
              simp only [Act.put, List.setIfInBounds_toArray, List.set_cons_zero, List.set_cons_succ]
              refine takeNoH 12 35 rfl rfl (by kernel_rfl) (by kernel_rfl) (by kernel_rfl) (fun _ _ _ h => h) (by kernel_rfl) hS1 ?_
              simp only [Act.put, List.setIfInBounds_toArray, List.set_cons_zero, List.set_cons_succ]
              refine takeNoH 13 36 rfl rfl (by kernel_rfl) (by kernel_rfl) (by kernel_rfl) (fun _ _ _ h => h) (by kernel_rfl) hS1 ?_
              simp only [Act.put, List.setIfInBounds_toArray, List.set_cons_zero, List.set_cons_succ]
              refine takeNoH 14 37 rfl rfl (by kernel_rfl) (by kernel_rfl) (by kernel_rfl) (fun _ _ _ h => h) (by kernel_rfl) hS1 ?_
              simp only [Act.put, List.setIfInBounds_toArray, List.set_cons_zero, List.set_cons_succ]
              refine takeNoH 15 38 rfl rfl (by kernel_rfl) (by kernel_rfl) (by kernel_rfl) (fun _ _ _ h => h) (by kernel_rfl) hS1 ?_
              simp only [Act.put, List.setIfInBounds_toArray, List.set_cons_zero, List.set_cons_succ]
              refine takeNoH 16 39 rfl rfl (by kernel_rfl) (by kernel_rfl) (by kernel_rfl) (fun _ _ _ h => h) (by kernel_rfl) hS1 ?_
              simp only [Act.put, List.setIfInBounds_toArray, List.set_cons_zero, List.set_cons_succ]
              refine takeNoH 17 40 rfl rfl (by kernel_rfl) (by kernel_rfl) (by kernel_rfl) (fun _ _ _ h => h) (by kernel_rfl) hS1 ?_
              simp only [Act.put, List.setIfInBounds_toArray, List.set_cons_zero, List.set_cons_succ]
              refine takeNoH 18 41 rfl rfl (by kernel_rfl) (by kernel_rfl) (by kernel_rfl) (fun _ _ _ h => h) (by kernel_rfl) hS1 ?_
              simp only [Act.put, List.setIfInBounds_toArray, List.set_cons_zero, List.set_cons_succ]
              refine takeInH 19 42 ?v7 rfl rfl (by kernel_rfl) (by kernel_rfl) (by kernel_rfl) (fun _ _ _ h => h) (by kernel_rfl) hS1 ?hy7 ?_
              case hy7 => (intro W hW; clear hW; go_simp; try rfl)
              simp only [Act.put, List.setIfInBounds_toArray, List.set_cons_zero, List.set_cons_succ]
              refine wpAnyH_done (by kernel_rfl) ?_ _
              go_wp2
              go_ret
              exact ⟨ret_int HE.out, bel_next HB3.out (by assumption)⟩
            · rcases k with _ | j
              · have hst2 : Hid (okFrom c m 0 ↔ okFrom c m (0 + 1)) := by have h2 := hst.out; unfold Hid; rw [h2]; exact ⟨fun h => h.2, fun h => ⟨okAt_zero HX.out hfar, h⟩⟩
                rw [hfar] at HF
                simp only [Nat.zero_mul, Nat.add_zero] at x0 x1
                clear hfar hst
                go_wp2
                replace x0 : (wr.alloc (bxD r s)).cell? ⟨wr.heap.size, 0, none⟩ = some (.int .i64 r) := cell_new wr _ _ _ rfl 0 _ rfl
                replace x1 : (wr.alloc (bxD r s)).cell? ⟨wr.heap.size, 1, none⟩ = some (.int .i64 s) := cell_new wr _ _ _ rfl 1 _ rfl
                generalize wr.alloc (bxD r s) = u2 at *
                refine wp_region_held_drew (S := fun W => Below u2.heap.size u2 W) (by kernel_rfl) ((Below.refl _ u2).drew) (fun hS0 => ?_)
                refine takeInH 0 23 ?v8 rfl rfl (by kernel_rfl) (by kernel_rfl) (by kernel_rfl) (fun _ _ _ h => h) (by kernel_rfl) hS0 ?hy8 ?_
                case hy8 => (intro W hW; clear hW; go_simp; try rfl)
                simp only [Act.put, List.setIfInBounds_toArray, List.set_cons_zero, List.set_cons_succ]
                refine takeInH 1 24 ?v9 rfl rfl (by kernel_rfl) (by kernel_rfl) (by kernel_rfl) (fun _ _ _ h => h) (by kernel_rfl) hS0 ?hy9 ?_
                case hy9 => (intro W hW; have e0 := bcell hW c0; have e1 := bcell hW c1; have e2 := bcell hW x0; have e3 := bcell hW x1; clear hW; go_simp; try rfl)
                simp only [Act.put, List.setIfInBounds_toArray, List.set_cons_zero, List.set_cons_succ]
                refine takeInH 2 25 ?v10 rfl rfl (by kernel_rfl) (by kernel_rfl) (by kernel_rfl) (fun _ _ _ h => h) (by kernel_rfl) hS0 ?hy10 ?_
                case hy10 => (intro W hW; have e0 := bcell hW c0; have e1 := bcell hW c1; have e2 := bcell hW x0; have e3 := bcell hW x1; clear hW; go_simp; try rfl)
                simp only [Act.put, List.setIfInBounds_toArray, List.set_cons_zero, List.set_cons_succ]
                refine wpAnyH_ready (rs := [3]) (by kernel_rfl) (by simp) ?_
                refine AllReadyH.cons rfl (fun K hK => ?_) AllReadyH.nil
                go_simp
                refine (HF.out _ (NU2.out.below hS0)).mono ?_
                rintro e w' ⟨rfl, hb⟩
                try go_wp2_with fail
                refine hK.out _ _ ?hs11 (fun hS1 => ?_)
                case hs11 => exact bel_next hS0 hb
                clear hK K hb
                try simp only [Act.put, List.setIfInBounds_toArray, List.set_cons_zero, List.set_cons_succ]
                refine takeInH 4 27 ?v12 rfl rfl (by kernel_rfl) (by kernel_rfl) (by kernel_rfl) (fun _ _ _ h => h) (by kernel_rfl) hS1 ?hy12 ?_
                case hy12 => (intro W hW; clear hW; go_simp; try rfl)
                simp only [Act.put, List.setIfInBounds_toArray, List.set_cons_zero, List.set_cons_succ]
                refine takeInH 5 28 ?v13 rfl rfl (by kernel_rfl) (by kernel_rfl) (by kernel_rfl) (fun _ _ _ h => h) (by kernel_rfl) hS1 ?hy13 ?_
                case hy13 => (intro W hW; clear hW; go_simp; try rfl)
                simp only [Act.put, List.setIfInBounds_toArray, List.set_cons_zero, List.set_cons_succ]
                refine takeInH 6 29 ?v14 rfl rfl (by kernel_rfl) (by kernel_rfl) (by kernel_rfl) (fun _ _ _ h => h) (by kernel_rfl) hS1 ?hy14 ?_
                case hy14 => (intro W hW; clear hW; go_simp; try rfl)
                simp only [Act.put, List.setIfInBounds_toArray, List.set_cons_zero, List.set_cons_succ]
                refine takeInH 7 30 ?v15 rfl rfl (by kernel_rfl) (by kernel_rfl) (by kernel_rfl) (fun _ _ _ h => h) (by kernel_rfl) hS1 ?hy15 ?_
                case hy15 => (intro W hW; clear hW; go_simp; try rfl)
                simp only [Act.put, List.setIfInBounds_toArray, List.set_cons_zero, List.set_cons_succ]
                refine takeInH 8 31 ?v16 rfl rfl (by kernel_rfl) (by kernel_rfl) (by kernel_rfl) (fun _ _ _ h => h) (by kernel_rfl) hS1 ?hy16 ?_
                case hy16 => (intro W hW; clear hW; go_simp; try rfl)
                simp only [Act.put, List.setIfInBounds_toArray, List.set_cons_zero, List.set_cons_succ]
                refine takeNoH 9 32 rfl rfl (by kernel_rfl) (by kernel_rfl) (by kernel_rfl) (fun _ _ _ h => h) (by kernel_rfl) hS1 ?_
                simp only [Act.put, List.setIfInBounds_toArray, List.set_cons_zero, List.set_cons_succ]
                refine takeNoH 10 33 rfl rfl (by kernel_rfl) (by kernel_rfl) (by kernel_rfl) (fun _ _ _ h => h) (by kernel_rfl) hS1 ?_
                simp only [Act.put, List.setIfInBounds_toArray, List.set_cons_zero, List.set_cons_succ]
                refine takeNoH 11 34 rfl rfl (by kernel_rfl) (by kernel_rfl) (by kernel_rfl) (fun _ _ _ h => h) (by kernel_rfl) hS1 ?_
                simp only [Act.put, List.setIfInBounds_toArray, List.set_cons_zero, List.set_cons_succ]
                refine takeNoH 12 35 rfl rfl (by kernel_rfl) (by kernel_rfl) (by kernel_rfl) (fun _ _ _ h => h) (by kernel_rfl) hS1 ?_
                simp only [Act.put, List.setIfInBounds_toArray, List.set_cons_zero, List.set_cons_succ]
                refine takeNoH 13 36 rfl rfl (by kernel_rfl) (by kernel_rfl) (by kernel_rfl) (fun _ _ _ h => h) (by kernel_rfl) hS1 ?_
                simp only [Act.put, List.setIfInBounds_toArray, List.set_cons_zero, List.set_cons_succ]
                refine takeNoH 14 37 rfl rfl (by kernel_rfl) (by kernel_rfl) (by kernel_rfl) (fun _ _ _ h => h) (by kernel_rfl) hS1 ?_
                simp only [Act.put, List.setIfInBounds_toArray, List.set_cons_zero, List.set_cons_succ]
                refine takeNoH 15 38 rfl rfl (by kernel_rfl) (by kernel_rfl) (by kernel_rfl) (fun _ _ _ h => h) (by kernel_rfl) hS1 ?_
                simp only [Act.put, List.setIfInBounds_toArray, List.set_cons_zero, List.set_cons_succ]
                refine takeNoH 16 39 rfl rfl (by kernel_rfl) (by kernel_rfl) (by kernel_rfl) (fun _ _ _ h => h) (by kernel_rfl) hS1 ?_
                simp only [Act.put, List.setIfInBounds_toArray, List.set_cons_zero, List.set_cons_succ]
                refine takeNoH 17 40 rfl rfl (by kernel_rfl) (by kernel_rfl) (by kernel_rfl) (fun _ _ _ h => h) (by kernel_rfl) hS1 ?_
                simp only [Act.put, List.setIfInBounds_toArray, List.set_cons_zero, List.set_cons_succ]
                refine takeInH 18 41 ?v17 rfl rfl (by kernel_rfl) (by kernel_rfl) (by kernel_rfl) (fun _ _ _ h => h) (by kernel_rfl) hS1 ?hy17 ?_
                case hy17 => (intro W hW; clear hW; go_simp; try rfl)
                simp only [Act.put, List.setIfInBounds_toArray, List.set_cons_zero, List.set_cons_succ]
                refine takeInH 19 42 ?v18 rfl rfl (by kernel_rfl) (by kernel_rfl) (by kernel_rfl) (fun _ _ _ h => h) (by kernel_rfl) hS1 ?hy18 ?_
                case hy18 => (intro W hW; clear hW; go_simp; try rfl)
                simp only [Act.put, List.setIfInBounds_toArray, List.set_cons_zero, List.set_cons_succ]
                refine wpAnyH_done (by kernel_rfl) ?_ _
                go_wp2
                go_roundw
                case rel => exact ⟨0 + 1, by omega, by go_num, bel_next HB2.out (by assumption), hst2⟩
                case measure => simp [intOf]; omega
              · obtain ⟨y, hy⟩ : ∃ y, m.getD j (0, 0) = y := ⟨_, rfl⟩
                have d0 := bcell HB3.out (HCc.out j (by omega)).1
                have d1 := bcell HB3.out (HCc.out j (by omega)).2
                rw [hy] at d0 d1
                have HLs := hide (fun W => Less_any y (r, s) W)
                have hwj := wrapN (show j ≤ 1000000000 by omega)
                have hw1 : (((j + 1 : Nat) : Int) - 1) = (j : Int) := by omega
                have hw2 : ((j : Int) + 1 - 1) = (j : Int) := by omega
                have hj0 : (0 : Int) < ((j + 1 : Nat) : Int) := by omega
                have hj1 : ((j : Int)) < (nm : Int) := by omega
                rcases hls : lessD y (r, s) with _ | _
                · have HE : Hid (1 = chkS c m) := HNo.out (by rw [hst.out, okAt_succ HX.out hy hfar, hls]; exact fun h => absurd h.1 Bool.false_ne_true)
                  rw [hfar] at HF
                  rw [hls] at HLs
                  clear hfar hst hls hy
                  obtain ⟨p, q⟩ := y
                  go_wp2
                  replace x0 : (wr.alloc (bxD r s)).cell? ⟨wr.heap.size, 0, none⟩ = some (.int .i64 r) := cell_new wr _ _ _ rfl 0 _ rfl
                  replace x1 : (wr.alloc (bxD r s)).cell? ⟨wr.heap.size, 1, none⟩ = some (.int .i64 s) := cell_new wr _ _ _ rfl 1 _ rfl
                  generalize wr.alloc (bxD r s) = u2 at *
                  refine wp_region_held_drew (S := fun W => Below u2.heap.size u2 W) (by kernel_rfl) ((Below.refl _ u2).drew) (fun hS0 => ?_)
                  refine takeInH 0 23 ?v19 rfl rfl (by kernel_rfl) (by kernel_rfl) (by kernel_rfl) (fun _ _ _ h => h) (by kernel_rfl) hS0 ?hy19 ?_
                  case hy19 => (intro W hW; clear hW; go_simp; try rfl)
                  simp only [Act.put, List.setIfInBounds_toArray, List.set_cons_zero, List.set_cons_succ]
                  refine takeInH 1 24 ?v20 rfl rfl (by kernel_rfl) (by kernel_rfl) (by kernel_rfl) (fun _ _ _ h => h) (by kernel_rfl) hS0 ?hy20 ?_
                  case hy20 => (intro W hW; have e0 := bcell hW c0; have e1 := bcell hW c1; have e2 := bcell hW x0; have e3 := bcell hW x1; have e4 := bcell hW d0; have e5 := bcell hW d1; clear hW; go_simp; try rfl)
                  simp only [Act.put, List.setIfInBounds_toArray, List.set_cons_zero, List.set_cons_succ]
                  refine takeInH 2 25 ?v21 rfl rfl (by kernel_rfl) (by kernel_rfl) (by kernel_rfl) (fun _ _ _ h => h) (by kernel_rfl) hS0 ?hy21 ?_
                  case hy21 => (intro W hW; have e0 := bcell hW c0; have e1 := bcell hW c1; have e2 := bcell hW x0; have e3 := bcell hW x1; have e4 := bcell hW d0; have e5 := bcell hW d1; clear hW; go_simp; try rfl)
                  simp only [Act.put, List.setIfInBounds_toArray, List.set_cons_zero, List.set_cons_succ]
                  refine wpAnyH_ready (rs := [3]) (by kernel_rfl) (by simp) ?_
                  refine AllReadyH.cons rfl (fun K hK => ?_) AllReadyH.nil
                  go_simp
                  refine (HF.out _ (NU2.out.below hS0)).mono ?_
                  rintro e w' ⟨rfl, hb⟩
                  try go_wp2_with fail
                  refine hK.out _ _ ?hs22 (fun hS1 => ?_)
                  case hs22 => exact bel_next hS0 hb
                  clear hK K hb
                  try simp only [Act.put, List.setIfInBounds_toArray, List.set_cons_zero, List.set_cons_succ]
                  refine takeInH 4 27 ?v23 rfl rfl (by kernel_rfl) (by kernel_rfl) (by kernel_rfl) (fun _ _ _ h => h) (by kernel_rfl) hS1 ?hy23 ?_
                  case hy23 => (intro W hW; clear hW; go_simp; try rfl)
                  simp only [Act.put, List.setIfInBounds_toArray, List.set_cons_zero, List.set_cons_succ]
                  refine takeInH 5 28 ?v24 rfl rfl (by kernel_rfl) (by kernel_rfl) (by kernel_rfl) (fun _ _ _ h => h) (by kernel_rfl) hS1 ?hy24 ?_
                  case hy24 => (intro W hW; clear hW; go_simp; try rfl)
                  simp only [Act.put, List.setIfInBounds_toArray, List.set_cons_zero, List.set_cons_succ]
                  refine takeInH 6 29 ?v25 rfl rfl (by kernel_rfl) (by kernel_rfl) (by kernel_rfl) (fun _ _ _ h => h) (by kernel_rfl) hS1 ?hy25 ?_
                  case hy25 => (intro W hW; clear hW; go_simp; try rfl)
                  simp only [Act.put, List.setIfInBounds_toArray, List.set_cons_zero, List.set_cons_succ]
                  refine takeInH 7 30 ?v26 rfl rfl (by kernel_rfl) (by kernel_rfl) (by kernel_rfl) (fun _ _ _ h => h) (by kernel_rfl) hS1 ?hy26 ?_
                  case hy26 => (intro W hW; clear hW; go_simp; try rfl)
                  simp only [Act.put, List.setIfInBounds_toArray, List.set_cons_zero, List.set_cons_succ]
                  refine takeInH 8 31 ?v27 rfl rfl (by kernel_rfl) (by kernel_rfl) (by kernel_rfl) (fun _ _ _ h => h) (by kernel_rfl) hS1 ?hy27 ?_
                  case hy27 => (intro W hW; clear hW; go_simp; try rfl)
                  simp only [Act.put, List.setIfInBounds_toArray, List.set_cons_zero, List.set_cons_succ]
                  refine takeInH 9 32 ?v28 rfl rfl (by kernel_rfl) (by kernel_rfl) (by kernel_rfl) (fun _ _ _ h => h) (by kernel_rfl) hS1 ?hy28 ?_
                  case hy28 => (intro W hW; clear hW; go_simp; try rfl)
                  simp only [Act.put, List.setIfInBounds_toArray, List.set_cons_zero, List.set_cons_succ]
                  refine takeInH 10 33 ?v29 rfl rfl (by kernel_rfl) (by kernel_rfl) (by kernel_rfl) (fun _ _ _ h => h) (by kernel_rfl) hS1 ?hy29 ?_
                  case hy29 => (intro W hW; have e0 := bcell hW c0; have e1 := bcell hW c1; have e2 := bcell hW x0; have e3 := bcell hW x1; have e4 := bcell hW d0; have e5 := bcell hW d1; clear hW; go_simp; try rfl)
                  simp only [Act.put, List.setIfInBounds_toArray, List.set_cons_zero, List.set_cons_succ]
                  refine takeInH 11 34 ?v30 rfl rfl (by kernel_rfl) (by kernel_rfl) (by kernel_rfl) (fun _ _ _ h => h) (by kernel_rfl) hS1 ?hy30 ?_
                  case hy30 => (intro W hW; clear hW; go_simp; try rfl)
                  simp only [Act.put, List.setIfInBounds_toArray, List.set_cons_zero, List.set_cons_succ]
                  refine takeInH 12 35 ?v31 rfl rfl (by kernel_rfl) (by kernel_rfl) (by kernel_rfl) (fun _ _ _ h => h) (by kernel_rfl) hS1 ?hy31 ?_
                  case hy31 => (intro W hW; clear hW; go_simp; try rfl)
                  simp only [Act.put, List.setIfInBounds_toArray, List.set_cons_zero, List.set_cons_succ]
                  refine takeInH 13 36 ?v32 rfl rfl (by kernel_rfl) (by kernel_rfl) (by kernel_rfl) (fun _ _ _ h => h) (by kernel_rfl) hS1 ?hy32 ?_
                  case hy32 => (intro W hW; clear hW; go_simp; try rfl)
                  simp only [Act.put, List.setIfInBounds_toArray, List.set_cons_zero, List.set_cons_succ]
                  refine takeInH 14 37 ?v33 rfl rfl (by kernel_rfl) (by kernel_rfl) (by kernel_rfl) (fun _ _ _ h => h) (by kernel_rfl) hS1 ?hy33 ?_
                  case hy33 => (intro W hW; have e0 := bcell hW c0; have e1 := bcell hW c1; have e2 := bcell hW x0; have e3 := bcell hW x1; have e4 := bcell hW d0; have e5 := bcell hW d1; clear hW; go_simp; try rfl)
                  simp only [Act.put, List.setIfInBounds_toArray, List.set_cons_zero, List.set_cons_succ]
                  refine takeInH 15 38 ?v34 rfl rfl (by kernel_rfl) (by kernel_rfl) (by kernel_rfl) (fun _ _ _ h => h) (by kernel_rfl) hS1 ?hy34 ?_
                  case hy34 => (intro W hW; have e0 := bcell hW c0; have e1 := bcell hW c1; have e2 := bcell hW x0; have e3 := bcell hW x1; have e4 := bcell hW d0; have e5 := bcell hW d1; clear hW; go_simp; try rfl)
                  simp only [Act.put, List.setIfInBounds_toArray, List.set_cons_zero, List.set_cons_succ]
                  refine wpAnyH_ready (rs := [16]) (by kernel_rfl) (by simp) ?_
                  refine AllReadyH.cons rfl (fun K hK => ?_) AllReadyH.nil
                  go_simp
                  refine (HLs.out _).mono ?_
                  rintro e w' ⟨rfl, hg⟩
                  have hb := hg.bel
                  clear hg
                  try go_wp2_with fail
                  refine hK.out _ _ ?hs35 (fun hS2 => ?_)
                  case hs35 => exact bel_next hS1 hb
                  clear hK K hb
                  try simp only [Act.put, List.setIfInBounds_toArray, List.set_cons_zero, List.set_cons_succ]
                  refine takeInH 17 40 ?v36 rfl rfl (by kernel_rfl) (by kernel_rfl) (by kernel_rfl) (fun _ _ _ h => h) (by kernel_rfl) hS2 ?hy36 ?_
                  case hy36 => (intro W hW; clear hW; go_simp; try rfl)
                  simp only [Act.put, List.setIfInBounds_toArray, List.set_cons_zero, List.set_cons_succ]
                  refine takeInH 18 41 ?v37 rfl rfl (by kernel_rfl) (by kernel_rfl) (by kernel_rfl) (fun _ _ _ h => h) (by kernel_rfl) hS2 ?hy37 ?_
                  case hy37 => (intro W hW; clear hW; go_simp; try rfl)
                  simp only [Act.put, List.setIfInBounds_toArray, List.set_cons_zero, List.set_cons_succ]
                  refine takeInH 19 42 ?v38 rfl rfl (by kernel_rfl) (by kernel_rfl) (by kernel_rfl) (fun _ _ _ h => h) (by kernel_rfl) hS2 ?hy38 ?_
                  case hy38 => (intro W hW; clear hW; go_simp; try rfl)
                  simp only [Act.put, List.setIfInBounds_toArray, List.set_cons_zero, List.set_cons_succ]
                  refine wpAnyH_done (by kernel_rfl) ?_ _
                  go_wp2
                  go_ret
                  exact ⟨ret_int HE.out, bel_next HB3.out (by assumption)⟩
                · have hst2 : Hid (okFrom c m 0 ↔ okFrom c m (j + 1 + 1)) := by have h2 := hst.out; unfold Hid; rw [h2, okAt_succ HX.out hy hfar, hls]; simp
                  rw [hfar] at HF
                  rw [hls] at HLs
                  clear hfar hst hls hy
                  obtain ⟨p, q⟩ := y
                  go_wp2
                  replace x0 : (wr.alloc (bxD r s)).cell? ⟨wr.heap.size, 0, none⟩ = some (.int .i64 r) := cell_new wr _ _ _ rfl 0 _ rfl
                  replace x1 : (wr.alloc (bxD r s)).cell? ⟨wr.heap.size, 1, none⟩ = some (.int .i64 s) := cell_new wr _ _ _ rfl 1 _ rfl
                  generalize wr.alloc (bxD r s) = u2 at *
                  refine wp_region_held_drew (S := fun W => Below u2.heap.size u2 W) (by kernel_rfl) ((Below.refl _ u2).drew) (fun hS0 => ?_)
                  refine takeInH 0 23 ?v39 rfl rfl (by kernel_rfl) (by kernel_rfl) (by kernel_rfl) (fun _ _ _ h => h) (by kernel_rfl) hS0 ?hy39 ?_
                  case hy39 => (intro W hW; clear hW; go_simp; try rfl)
                  simp only [Act.put, List.setIfInBounds_toArray, List.set_cons_zero, List.set_cons_succ]
                  refine takeInH 1 24 ?v40 rfl rfl (by kernel_rfl) (by kernel_rfl) (by kernel_rfl) (fun _ _ _ h => h) (by kernel_rfl) hS0 ?hy40 ?_
                  case hy40 => (intro W hW; have e0 := bcell hW c0; have e1 := bcell hW c1; have e2 := bcell hW x0; have e3 := bcell hW x1; have e4 := bcell hW d0; have e5 := bcell hW d1; clear hW; go_simp; try rfl)
                  simp only [Act.put, List.setIfInBounds_toArray, List.set_cons_zero, List.set_cons_succ]
                  refine takeInH 2 25 ?v41 rfl rfl (by kernel_rfl) (by kernel_rfl) (by kernel_rfl) (fun _ _ _ h => h) (by kernel_rfl) hS0 ?hy41 ?_
                  case hy41 => (intro W hW; have e0 := bcell hW c0; have e1 := bcell hW c1; have e2 := bcell hW x0; have e3 := bcell hW x1; have e4 := bcell hW d0; have e5 := bcell hW d1; clear hW; go_simp; try rfl)
                  simp only [Act.put, List.setIfInBounds_toArray, List.set_cons_zero, List.set_cons_succ]
                  refine wpAnyH_ready (rs := [3]) (by kernel_rfl) (by simp) ?_
                  refine AllReadyH.cons rfl (fun K hK => ?_) AllReadyH.nil
                  go_simp
                  refine (HF.out _ (NU2.out.below hS0)).mono ?_
                  rintro e w' ⟨rfl, hb⟩
                  try go_wp2_with fail
                  refine hK.out _ _ ?hs42 (fun hS1 => ?_)
                  case hs42 => exact bel_next hS0 hb
                  clear hK K hb
                  try simp only [Act.put, List.setIfInBounds_toArray, List.set_cons_zero, List.set_cons_succ]
                  refine takeInH 4 27 ?v43 rfl rfl (by kernel_rfl) (by kernel_rfl) (by kernel_rfl) (fun _ _ _ h => h) (by kernel_rfl) hS1 ?hy43 ?_
                  case hy43 => (intro W hW; clear hW; go_simp; try rfl)
                  simp only [Act.put, List.setIfInBounds_toArray, List.set_cons_zero, List.set_cons_succ]
                  refine takeInH 5 28 ?v44 rfl rfl (by kernel_rfl) (by kernel_rfl) (by kernel_rfl) (fun _ _ _ h => h) (by kernel_rfl) hS1 ?hy44 ?_
                  case hy44 => (intro W hW; clear hW; go_simp; try rfl)
                  simp only [Act.put, List.setIfInBounds_toArray, List.set_cons_zero, List.set_cons_succ]
                  refine takeInH 6 29 ?v45 rfl rfl (by kernel_rfl) (by kernel_rfl) (by kernel_rfl) (fun _ _ _ h => h) (by kernel_rfl) hS1 ?hy45 ?_
                  case hy45 => (intro W hW; clear hW; go_simp; try rfl)
                  simp only [Act.put, List.setIfInBounds_toArray, List.set_cons_zero, List.set_cons_succ]
                  refine takeInH 7 30 ?v46 rfl rfl (by kernel_rfl) (by kernel_rfl) (by kernel_rfl) (fun _ _ _ h => h) (by kernel_rfl) hS1 ?hy46 ?_
                  case hy46 => (intro W hW; clear hW; go_simp; try rfl)
                  simp only [Act.put, List.setIfInBounds_toArray, List.set_cons_zero, List.set_cons_succ]
                  refine takeInH 8 31 ?v47 rfl rfl (by kernel_rfl) (by kernel_rfl) (by kernel_rfl) (fun _ _ _ h => h) (by kernel_rfl) hS1 ?hy47 ?_
                  case hy47 => (intro W hW; clear hW; go_simp; try rfl)
                  simp only [Act.put, List.setIfInBounds_toArray, List.set_cons_zero, List.set_cons_succ]
                  refine takeInH 9 32 ?v48 rfl rfl (by kernel_rfl) (by kernel_rfl) (by kernel_rfl) (fun _ _ _ h => h) (by kernel_rfl) hS1 ?hy48 ?_
                  case hy48 => (intro W hW; clear hW; go_simp; try rfl)
                  simp only [Act.put, List.setIfInBounds_toArray, List.set_cons_zero, List.set_cons_succ]
                  refine takeInH 10 33 ?v49 rfl rfl (by kernel_rfl) (by kernel_rfl) (by kernel_rfl) (fun _ _ _ h => h) (by kernel_rfl) hS1 ?hy49 ?_
                  case hy49 => (intro W hW; have e0 := bcell hW c0; have e1 := bcell hW c1; have e2 := bcell hW x0; have e3 := bcell hW x1; have e4 := bcell hW d0; have e5 := bcell hW d1; clear hW; go_simp; try rfl)
                  simp only [Act.put, List.setIfInBounds_toArray, List.set_cons_zero, List.set_cons_succ]
                  refine takeInH 11 34 ?v50 rfl rfl (by kernel_rfl) (by kernel_rfl) (by kernel_rfl) (fun _ _ _ h => h) (by kernel_rfl) hS1 ?hy50 ?_
                  case hy50 => (intro W hW; clear hW; go_simp; try rfl)
                  simp only [Act.put, List.setIfInBounds_toArray, List.set_cons_zero, List.set_cons_succ]
                  refine takeInH 12 35 ?v51 rfl rfl (by kernel_rfl) (by kernel_rfl) (by kernel_rfl) (fun _ _ _ h => h) (by kernel_rfl) hS1 ?hy51 ?_
                  case hy51 => (intro W hW; clear hW; go_simp; try rfl)
                  simp only [Act.put, List.setIfInBounds_toArray, List.set_cons_zero, List.set_cons_succ]
                  refine takeInH 13 36 ?v52 rfl rfl (by kernel_rfl) (by kernel_rfl) (by kernel_rfl) (fun _ _ _ h => h) (by kernel_rfl) hS1 ?hy52 ?_
                  case hy52 => (intro W hW; clear hW; go_simp; try rfl)
                  simp only [Act.put, List.setIfInBounds_toArray, List.set_cons_zero, List.set_cons_succ]
                  refine takeInH 14 37 ?v53 rfl rfl (by kernel_rfl) (by kernel_rfl) (by kernel_rfl) (fun _ _ _ h => h) (by kernel_rfl) hS1 ?hy53 ?_
                  case hy53 => (intro W hW; have e0 := bcell hW c0; have e1 := bcell hW c1; have e2 := bcell hW x0; have e3 := bcell hW x1; have e4 := bcell hW d0; have e5 := bcell hW d1; clear hW; go_simp; try rfl)
                  simp only [Act.put, List.setIfInBounds_toArray, List.set_cons_zero, List.set_cons_succ]
                  refine takeInH 15 38 ?v54 rfl rfl (by kernel_rfl) (by kernel_rfl) (by kernel_rfl) (fun _ _ _ h => h) (by kernel_rfl) hS1 ?hy54 ?_
                  case hy54 => (intro W hW; have e0 := bcell hW c0; have e1 := bcell hW c1; have e2 := bcell hW x0; have e3 := bcell hW x1; have e4 := bcell hW d0; have e5 := bcell hW d1; clear hW; go_simp; try rfl)
                  simp only [Act.put, List.setIfInBounds_toArray, List.set_cons_zero, List.set_cons_succ]
                  refine wpAnyH_ready (rs := [16]) (by kernel_rfl) (by simp) ?_
                  refine AllReadyH.cons rfl (fun K hK => ?_) AllReadyH.nil
                  go_simp
                  refine (HLs.out _).mono ?_
                  rintro e w' ⟨rfl, hg⟩
                  have hb := hg.bel
                  clear hg
                  try go_wp2_with fail
                  refine hK.out _ _ ?hs55 (fun hS2 => ?_)
                  case hs55 => exact bel_next hS1 hb
                  clear hK K hb
                  try simp only [Act.put, List.setIfInBounds_toArray, List.set_cons_zero, List.set_cons_succ]
                  refine takeInH 17 40 ?v56 rfl rfl (by kernel_rfl) (by kernel_rfl) (by kernel_rfl) (fun _ _ _ h => h) (by kernel_rfl) hS2 ?hy56 ?_
                  case hy56 => (intro W hW; clear hW; go_simp; try rfl)
                  simp only [Act.put, List.setIfInBounds_toArray, List.set_cons_zero, List.set_cons_succ]
                  refine takeInH 18 41 ?v57 rfl rfl (by kernel_rfl) (by kernel_rfl) (by kernel_rfl) (fun _ _ _ h => h) (by kernel_rfl) hS2 ?hy57 ?_
                  case hy57 => (intro W hW; clear hW; go_simp; try rfl)
                  simp only [Act.put, List.setIfInBounds_toArray, List.set_cons_zero, List.set_cons_succ]
                  refine takeInH 19 42 ?v58 rfl rfl (by kernel_rfl) (by kernel_rfl) (by kernel_rfl) (fun _ _ _ h => h) (by kernel_rfl) hS2 ?hy58 ?_
                  case hy58 => (intro W hW; clear hW; go_simp; try rfl)
                  simp only [Act.put, List.setIfInBounds_toArray, List.set_cons_zero, List.set_cons_succ]
                  refine wpAnyH_done (by kernel_rfl) ?_ _
                  go_wp2
                  go_roundw
                  case rel => exact ⟨j + 1 + 1, by omega, by go_num, bel_next HB2.out (by assumption), hst2⟩
                  case measure => simp [intOf]; omega
        · have hkl : k = nm := by omega
          subst hkl
          have HE : Hid (0 = chkS c m) := chkS_good (by rw [HI.out, hH.out]; exact okFrom_end (by rw [HLn.out]; exact Nat.le_refl _))
          clear hH
          go_wp2
          go_ret
          exact ⟨ret_int HE.out, bel_next HU.out hbel⟩

set_option maxHeartbeats 1000000 in
theorem Has_any (pa pm : Option Addr) (na ca nm cm : Nat) (c : List Int) (m : List Dot) (d : Dot) (w : World) (hN : NS w pa na c) (hD : DS w pm nm m) :
    Calls Try.prog 17 #[.agg #[.slice pa na ca, .slice pm nm cm], .agg #[.int .i64 d.1, .int .i64 d.2]] w fun e w' => e = .returned (.bool (seenB c m && hasB c m d)) ∧ Below w.heap.size w w' := by
  have HK := hide (fun W (h : NS W pa na c) (k : DS W pm nm m) => Check_any pa pm na ca nm cm c m W h k)
  have HH := hide (fun W (h : NS W pa na c) (k : DS W pm nm m) hs hn => has_any pa pm na ca nm cm c m d W h k hs hn)
  obtain ⟨r, s⟩ := d
  have c0 : ((w.alloc (bxS pa pm na ca nm cm)).alloc (bxD r s)).cell? ⟨w.heap.size, 0, none⟩ = some (.slice pa na ca) := cell_old _ (cell_new w _ _ _ rfl 0 _ rfl)
  have c1 : ((w.alloc (bxS pa pm na ca nm cm)).alloc (bxD r s)).cell? ⟨w.heap.size, 1, none⟩ = some (.slice pm nm cm) := cell_old _ (cell_new w _ _ _ rfl 1 _ rfl)
  have c2 : ((w.alloc (bxS pa pm na ca nm cm)).alloc (bxD r s)).cell? ⟨w.heap.size + 1, 0, none⟩ = some (.int .i64 r) := cell_new _ _ _ _ (by simp) 0 _ rfl
  have c3 : ((w.alloc (bxS pa pm na ca nm cm)).alloc (bxD r s)).cell? ⟨w.heap.size + 1, 1, none⟩ = some (.int .i64 s) := cell_new _ _ _ _ (by simp) 1 _ rfl
  have HU := hide (bel2 w (bxS pa pm na ca nm cm) (bxD r s))
  have NU := hide ((hN.alloc (bxS pa pm na ca nm cm)).alloc (bxD r s))
  have DU := hide ((hD.alloc (bxS pa pm na ca nm cm)).alloc (bxD r s))
  have hlen := hD.1
  clear hN hD
  rcases hs : seenB c m with _ | _
  · have hk := chkS_bad hs
    rw [← hk] at HK
    clear hs hk c0 c1 c2 c3 hlen
    go_enter Try.func17, Try.ntmps17
    go_wp2_with (go_at_call 12; refine (HK.out _ NU.out DU.out).mono ?_; rintro e w' ⟨rfl, hb⟩)
    go_ret
    exact ⟨rfl, bel_next HU.out hb⟩
  · have hk := chkS_good hs
    have hg := seen_good hs
    have HHs := hide (fun W h k => HH.out W h k hg.1.2.1 (by have := hg.2.2.2; omega))
    rw [← hk] at HK
    clear hs hk HH hg hlen
    generalize hasB c m (r, s) = bb at *
    go_enter Try.func17, Try.ntmps17
    go_wp2_with (first
      | (go_at_call 12; refine (HK.out _ NU.out DU.out).mono ?_; rintro e w' ⟨rfl, hb⟩; replace c0 := bcell hb c0; replace c1 := bcell hb c1; replace c2 := bcell hb c2; replace c3 := bcell hb c3; replace NU := hide (NU.out.below hb); replace DU := hide (DU.out.below hb); replace HU := hide (bel_next HU.out hb); clear hb)
      | (go_at_call 42; refine (HHs.out _ NU.out DU.out).mono ?_; rintro e w2 ⟨rfl, hb2⟩))
    go_ret
    exact ⟨rfl, bel_next HU.out hb2⟩

set_option maxHeartbeats 1000000 in
/-- The program's 'Same'. -/
theorem Same_any (pa pm pb pk : Option Addr) (na ca nm cm nb cb nk ck : Nat) (c c' : List Int) (m m' : List Dot) (w : World) (hN : NS w pa na c) (hD : DS w pm nm m) (hN' : NS w pb nb c') (hD' : DS w pk nk m') :
    Calls Try.prog 24 #[.agg #[.slice pa na ca, .slice pm nm cm], .agg #[.slice pb nb cb, .slice pk nk ck]] w fun e w' => e = .returned (.bool (decide (c = c') && decide (m = m'))) ∧ Below w.heap.size w w' := by
  have c0 : ((w.alloc (bxS pa pm na ca nm cm)).alloc (bxS pb pk nb cb nk ck)).cell? ⟨w.heap.size, 0, none⟩ = some (.slice pa na ca) := cell_old _ (cell_new w _ _ _ rfl 0 _ rfl)
  have c1 : ((w.alloc (bxS pa pm na ca nm cm)).alloc (bxS pb pk nb cb nk ck)).cell? ⟨w.heap.size, 1, none⟩ = some (.slice pm nm cm) := cell_old _ (cell_new w _ _ _ rfl 1 _ rfl)
  have c2 : ((w.alloc (bxS pa pm na ca nm cm)).alloc (bxS pb pk nb cb nk ck)).cell? ⟨w.heap.size + 1, 0, none⟩ = some (.slice pb nb cb) := cell_new _ _ _ _ (by simp) 0 _ rfl
  have c3 : ((w.alloc (bxS pa pm na ca nm cm)).alloc (bxS pb pk nb cb nk ck)).cell? ⟨w.heap.size + 1, 1, none⟩ = some (.slice pk nk ck) := cell_new _ _ _ _ (by simp) 1 _ rfl
  have HU := hide (bel2 w (bxS pa pm na ca nm cm) (bxS pb pk nb cb nk ck))
  have HA := hide (equalC_any pa pb na ca nb cb c c' _ ((hN.alloc (bxS pa pm na ca nm cm)).alloc (bxS pb pk nb cb nk ck)) ((hN'.alloc (bxS pa pm na ca nm cm)).alloc (bxS pb pk nb cb nk ck)))
  have DU := hide ((hD.alloc (bxS pa pm na ca nm cm)).alloc (bxS pb pk nb cb nk ck))
  have DU' := hide ((hD'.alloc (bxS pa pm na ca nm cm)).alloc (bxS pb pk nb cb nk ck))
  have HD2 := hide (fun W h k => equalD_any pm pk nm cm nk ck m m' W h k)
  clear hN hD hN' hD'
  by_cases hcc : c = c'
  · rw [decide_eq_true hcc] at HA
    have HE : Hid (decide (m = m') = (decide (c = c') && decide (m = m'))) := by unfold Hid; rw [decide_eq_true hcc]; rfl
    clear hcc
    generalize hmm : decide (m = m') = bb at HE HD2
    clear hmm
    go_enter Try.func24, Try.ntmps24
    go_wp2_with (first
      | (go_at_call 46; refine HA.out.mono ?_; rintro e w' ⟨rfl, hb⟩; replace c0 := bcell hb c0; replace c1 := bcell hb c1; replace c2 := bcell hb c2; replace c3 := bcell hb c3; replace DU := hide (DU.out.below hb); replace DU' := hide (DU'.out.below hb); replace HU := hide (bel_next HU.out hb); clear hb HA)
      | (go_at_call 47; refine (HD2.out _ DU.out DU'.out).mono ?_; rintro e w2 ⟨rfl, hb2⟩))
    go_ret
    exact ⟨retB HE.out, bel_next HU.out hb2⟩
  · rw [decide_eq_false hcc] at HA
    have HE : Hid (false = (decide (c = c') && decide (m = m'))) := by unfold Hid; rw [decide_eq_false hcc]; rfl
    clear hcc c0 c1 c2 c3
    go_enter Try.func24, Try.ntmps24
    go_wp2_with (go_at_call 46; refine HA.out.mono ?_; rintro e w' ⟨rfl, hb⟩)
    go_ret
    exact ⟨retB HE.out, bel_next HU.out hb⟩

set_option maxHeartbeats 1000000 in
/-- The document's 'Same'. -/
theorem SameR_any (pa pm pb pk : Option Addr) (na ca nm cm nb cb nk ck : Nat) (c c' : List Int) (m m' : List Dot) (w : World) (hN : NS w pa na c) (hD : DS w pm nm m) (hN' : NS w pb nb c') (hD' : DS w pk nk m') :
    Calls Try.prog 18 #[.agg #[.slice pa na ca, .slice pm nm cm], .agg #[.slice pb nb cb, .slice pk nk ck]] w fun e w' => e = .returned (.bool (decide (c = c') && decide (m = m'))) ∧ Below w.heap.size w w' := by
  have c0 : ((w.alloc (bxS pa pm na ca nm cm)).alloc (bxS pb pk nb cb nk ck)).cell? ⟨w.heap.size, 0, none⟩ = some (.slice pa na ca) := cell_old _ (cell_new w _ _ _ rfl 0 _ rfl)
  have c1 : ((w.alloc (bxS pa pm na ca nm cm)).alloc (bxS pb pk nb cb nk ck)).cell? ⟨w.heap.size, 1, none⟩ = some (.slice pm nm cm) := cell_old _ (cell_new w _ _ _ rfl 1 _ rfl)
  have c2 : ((w.alloc (bxS pa pm na ca nm cm)).alloc (bxS pb pk nb cb nk ck)).cell? ⟨w.heap.size + 1, 0, none⟩ = some (.slice pb nb cb) := cell_new _ _ _ _ (by simp) 0 _ rfl
  have c3 : ((w.alloc (bxS pa pm na ca nm cm)).alloc (bxS pb pk nb cb nk ck)).cell? ⟨w.heap.size + 1, 1, none⟩ = some (.slice pk nk ck) := cell_new _ _ _ _ (by simp) 1 _ rfl
  have HU := hide (bel2 w (bxS pa pm na ca nm cm) (bxS pb pk nb cb nk ck))
  have HA := hide (same_any pa pb na ca nb cb c c' _ ((hN.alloc (bxS pa pm na ca nm cm)).alloc (bxS pb pk nb cb nk ck)) ((hN'.alloc (bxS pa pm na ca nm cm)).alloc (bxS pb pk nb cb nk ck)))
  have DU := hide ((hD.alloc (bxS pa pm na ca nm cm)).alloc (bxS pb pk nb cb nk ck))
  have DU' := hide ((hD'.alloc (bxS pa pm na ca nm cm)).alloc (bxS pb pk nb cb nk ck))
  have HD2 := hide (fun W h k => Dots_any pm pk nm cm nk ck m m' W h k)
  clear hN hD hN' hD'
  by_cases hcc : c = c'
  · rw [decide_eq_true hcc] at HA
    have HE : Hid (decide (m = m') = (decide (c = c') && decide (m = m'))) := by unfold Hid; rw [decide_eq_true hcc]; rfl
    clear hcc
    generalize hmm : decide (m = m') = bb at HE HD2
    clear hmm
    go_enter Try.func18, Try.ntmps18
    go_wp2_with (first
      | (go_at_call 35; refine HA.out.mono ?_; rintro e w' ⟨rfl, hb⟩; replace c0 := bcell hb c0; replace c1 := bcell hb c1; replace c2 := bcell hb c2; replace c3 := bcell hb c3; replace DU := hide (DU.out.below hb); replace DU' := hide (DU'.out.below hb); replace HU := hide (bel_next HU.out hb); clear hb HA)
      | (go_at_call 14; refine (HD2.out _ DU.out DU'.out).mono ?_; rintro e w2 ⟨rfl, hb2⟩))
    go_ret
    exact ⟨retB HE.out, bel_next HU.out hb2⟩
  · rw [decide_eq_false hcc] at HA
    have HE : Hid (false = (decide (c = c') && decide (m = m'))) := by unfold Hid; rw [decide_eq_false hcc]; rfl
    clear hcc c0 c1 c2 c3
    go_enter Try.func18, Try.ntmps18
    go_wp2_with (go_at_call 35; refine HA.out.mono ?_; rintro e w' ⟨rfl, hb⟩)
    go_ret
    exact ⟨retB HE.out, bel_next HU.out hb⟩

end Go.Proofs.Ytccpbkemiilgcaa
