/- The document's Live (layer 9). -/
import Derived.Test.YtiodlpoeifmldaaZ18
namespace Go.Proofs.Ytiodlpoeifmldaa
open Go.RowKit Go.Lib
set_option linter.unusedVariables false
theorem lv9_step {l m : List Evt} {j : Nat} {e f : Evt} {o : Int} {k : ByteArray} {b v : Bool} (hx : l[j]? = some f) (h : v = (b && !((l.take j).any fun f => ahE e f && standsB m o k f && !(doesB f 2 o k)))) (hn : ahdB e.1 f.2.1 = false ∨ standsB m o k f = false ∨ doesB f 2 o k = true) : v = (b && !((l.take (j + 1)).any fun f => ahE e f && standsB m o k f && !(doesB f 2 o k))) := by
  rw [take_snocL hx, List.any_append, h]
  have : ahE e f = ahdB e.1 f.2.1 := rfl
  rcases hn with hn | hn | hn
  · simp [this, hn]
  · simp [hn]
  · simp [hn]
theorem lv9_stop {l m : List Evt} {j : Nat} {e f : Evt} {o : Int} {k : ByteArray} {b : Bool} (hx : l[j]? = some f) (ha : ahdB e.1 f.2.1 = true) (h1 : standsB m o k f = true) (h2 : doesB f 2 o k = false) : false = (b && !((l.take (j + 1)).any fun f => ahE e f && standsB m o k f && !(doesB f 2 o k))) := by
  rw [take_snocL hx, List.any_append]
  have : ahE e f = ahdB e.1 f.2.1 := rfl
  simp [this, ha, h1, h2]
/-- The Live of the first events. -/
def lvU9 (l : List Evt) (o : Int) (k : ByteArray) (i : Nat) : List Dot := ordD (((l.take i).filter (live9B l o k)).map (·.1))
theorem lvU9_yes {l : List Evt} {o : Int} {k : ByteArray} {i : Nat} {e : Evt} (hx : l[i]? = some e) (h : live9B l o k e = true) : lvU9 l o k (i + 1) = putD (lvU9 l o k i) e.1 := by
  unfold lvU9
  rw [take_snocL hx, List.filter_append, List.map_append]
  simp [h, ordD]
theorem lvU9_no {l : List Evt} {o : Int} {k : ByteArray} {i : Nat} {e : Evt} (hx : l[i]? = some e) (h : live9B l o k e = false) : lvU9 l o k (i + 1) = lvU9 l o k i := by
  unfold lvU9
  rw [take_snocL hx, List.filter_append, List.map_append]
  simp [h]
theorem lvU9_len (l : List Evt) (o : Int) (k : ByteArray) (i : Nat) : (lvU9 l o k i).length ≤ l.length := by
  unfold lvU9
  have h1 := foldl_putD_len (((l.take i).filter (live9B l o k)).map (·.1)) []
  have h2 : ((l.take i).filter (live9B l o k)).length ≤ (l.take i).length := List.length_filter_le _ _
  rw [List.length_map] at h1
  rw [List.length_take] at h2
  unfold ordD
  simp only [List.length_nil] at h1
  omega
set_option maxHeartbeats 8000000 in
theorem Live9_any (a : Option Addr) (n cap : Nat) (l : List Evt) (o : Int) (k : ByteArray) (w : World) (hE : EVS w a n l) (hn : n ≤ 1000) (hnd : (l.map (·.1)).Nodup) : Calls Try.prog 30 #[.slice a n cap, .int .i64 o, .string k] w fun e w' => ∃ v, e = .returned v ∧ OwnD w.heap.size w' v (liveL9 l o k) ∧ Below w.heap.size w w' := by
  have HV := hide hE
  have HLEN := hide hE.len
  have HND := hide hnd
  clear hE hnd
  have HO0 : Hid (OwnD w.heap.size (w.alloc (.cells #[] 24)) (.slice (some ⟨w.heap.size, 0, none⟩) 0 0) (lvU9 l o k 0)) := OwnD.made w w.heap.size w.heap.size rfl (Nat.le_refl _)
  have HB0 := hide (bel1 w (.cells #[] 24))
  go_enter Try.func30, Try.ntmps30
  go_wp2
  go_loopw [7, 8] (fun V v wr => ∃ i : Nat, i ≤ n ∧ v = .int .i64 i ∧ Hid (OwnD w.heap.size wr V (lvU9 l o k i)) ∧ Hid (Below w.heap.size w wr)) (fun _ v _ => n - (intOf v).toNat)
  case atStart => exact ⟨0, by omega, rfl, HO0, HB0⟩
  case round =>
    clear HO0 HB0
    obtain ⟨i, hi, rfl, HO, HB⟩ := hrel
    by_cases hlt : i < n
    · obtain ⟨b, off, rfl⟩ := HV.out.addr (by omega)
      obtain ⟨r, s, pa, na, ca, pe, ne, ce, c, le, hx, q0, q1, q2, q3, hN, _, hE, _⟩ := HV.out.at i hlt
      have C0 := hide q0
      have C1 := hide q1
      have C2 := hide q2
      have C3 := hide q3
      have HX := hide hx
      have HE := hide hE
      have hi0 : (0 : Int) ≤ (i : Int) := by omega
      have hi1 : (i : Int) < (n : Int) := by omega
      have c0 := bcell HB.out q0
      have c1 := bcell HB.out q1
      have c2 := bcell HB.out q2
      have c3 := bcell HB.out q3
      clear hx q0 q1 q2 q3 hN hE
      have HST := hide (stands_any (some ⟨b, off, none⟩) n cap l i o k wr (HV.out.below HB.out) hn HND.out _ HX.out)
      obtain ⟨b1, hb1⟩ : ∃ b, standsB l o k ((r, s), c, le) = b := ⟨_, rfl⟩
      obtain ⟨b2, hb2⟩ : ∃ b, doesB ((r, s), c, le) 2 o k = b := ⟨_, rfl⟩
      obtain ⟨b0, hb0⟩ : ∃ b, (b1 && !b2) = b := ⟨_, rfl⟩
      have HB0 : Hid ((standsB l o k ((r, s), c, le) && !(doesB ((r, s), c, le) 2 o k)) = b0) := by unfold Hid; rw [hb1, hb2, hb0]
      rw [hb1] at HST
      have HDO : Hid (∀ W, ES W pe ne le → Calls Try.prog 50 #[.agg #[.int .i64 r, .int .i64 s, .slice pa na ca, .slice pe ne ce], .int .i64 2, .int .i64 o, .string k] W fun e w' => e = .returned (.bool b2) ∧ Below W.heap.size W w') := fun W h => by rw [← hb2]; exact Does_any r s pa na ca pe ne ce c le 2 o k W h
      clear hb1 hb2
      cases b1
      · obtain rfl : b0 = false := hb0.symm
        clear hb0
        go_wp2_with (go_at_call 52; refine HST.out.mono ?_; rintro e w1 ⟨rfl, hb⟩; replace HO := hide (HO.out.below hb); replace HB := hide (bel_next HB.out hb); clear hb c0 c1 c2 c3 HDO HST)
        go_loopw [9, 10] (fun vl v wr2 => ∃ (j : Nat) (lv : Bool), j ≤ n ∧ v = .int .i64 j ∧ vl = .bool lv ∧ Hid (lv = (false && !((l.take j).any fun f => ahE ((r, s), c, le) f && standsB l o k f && !(doesB f 2 o k)))) ∧ Hid (Below w1.heap.size w1 wr2)) (fun _ v _ => n - (intOf v).toNat)
        case atStart => exact ⟨0, false, by omega, rfl, rfl, (show false = _ by simp), Below.refl _ _⟩
        case round =>
          obtain ⟨j, lv, hj, rfl, rfl, HF, HB2⟩ := hrel
          have HBA := hide (bel_next HB.out HB2.out)
          have c0 := bcell HBA.out C0.out
          have c1 := bcell HBA.out C1.out
          have c2 := bcell HBA.out C2.out
          have c3 := bcell HBA.out C3.out
          by_cases hjn : j < n
          · obtain ⟨r', s', pa', na', ca', pe', ne', ce', c', l', hj', d0, d1, d2, d3, hN', _, hE', _⟩ := (HV.out.below HBA.out).at j hjn
            have HJ := hide hj'
            have HN' := hide hN'
            have HE' := hide hE'
            have hj0 : (0 : Int) ≤ (j : Int) := by omega
            have hj1 : (j : Int) < (n : Int) := by omega
            clear hj' hN' hE'
            rcases ha : ahdB (r, s) c' with _ | _
            · have HA := hide ha
              have HF2 := hide (lv9_step HJ.out HF.out (.inl ha))
              clear ha
              go_upto_region 9 with fail
              refine wp_region_held_drew (S := fun W => Below wr.heap.size wr W) (by kernel_rfl) ((Below.refl _ wr).drew) (fun hS0 => ?_)
              refine takeInH 0 39 ?v153 rfl rfl (by kernel_rfl) (by kernel_rfl) (by kernel_rfl) (fun _ _ _ h => h) (by kernel_rfl) hS0 ?hy153 ?_
              case hy153 => (intro W hW; clear hW; go_simp; try rfl)
              simp only [Act.put, List.setIfInBounds_toArray, List.set_cons_zero, List.set_cons_succ]
              refine takeInH 1 40 ?v154 rfl rfl (by kernel_rfl) (by kernel_rfl) (by kernel_rfl) (fun _ _ _ h => h) (by kernel_rfl) hS0 ?hy154 ?_
              case hy154 => (intro W hW; clear hW; go_simp; try rfl)
              simp only [Act.put, List.setIfInBounds_toArray, List.set_cons_zero, List.set_cons_succ]
              refine takeInH 2 41 ?v155 rfl rfl (by kernel_rfl) (by kernel_rfl) (by kernel_rfl) (fun _ _ _ h => h) (by kernel_rfl) hS0 ?hy155 ?_
              case hy155 => (intro W hW; clear hW; go_simp; try rfl)
              simp only [Act.put, List.setIfInBounds_toArray, List.set_cons_zero, List.set_cons_succ]
              refine takeInH 3 42 ?v156 rfl rfl (by kernel_rfl) (by kernel_rfl) (by kernel_rfl) (fun _ _ _ h => h) (by kernel_rfl) hS0 ?hy156 ?_
              case hy156 => (intro W hW; have e0 := bcell hW c0; have e1 := bcell hW c1; have e2 := bcell hW c2; have e3 := bcell hW c3; have e4 := bcell hW d0; have e5 := bcell hW d1; have e6 := bcell hW d2; have e7 := bcell hW d3; clear hW; go_simp; try rfl)
              simp only [Act.put, List.setIfInBounds_toArray, List.set_cons_zero, List.set_cons_succ]
              refine takeInH 4 43 ?v157 rfl rfl (by kernel_rfl) (by kernel_rfl) (by kernel_rfl) (fun _ _ _ h => h) (by kernel_rfl) hS0 ?hy157 ?_
              case hy157 => (intro W hW; clear hW; go_simp; try rfl)
              simp only [Act.put, List.setIfInBounds_toArray, List.set_cons_zero, List.set_cons_succ]
              refine takeInH 5 44 ?v158 rfl rfl (by kernel_rfl) (by kernel_rfl) (by kernel_rfl) (fun _ _ _ h => h) (by kernel_rfl) hS0 ?hy158 ?_
              case hy158 => (intro W hW; clear hW; go_simp; try rfl)
              simp only [Act.put, List.setIfInBounds_toArray, List.set_cons_zero, List.set_cons_succ]
              refine takeInH 6 45 ?v159 rfl rfl (by kernel_rfl) (by kernel_rfl) (by kernel_rfl) (fun _ _ _ h => h) (by kernel_rfl) hS0 ?hy159 ?_
              case hy159 => (intro W hW; clear hW; go_simp; try rfl)
              simp only [Act.put, List.setIfInBounds_toArray, List.set_cons_zero, List.set_cons_succ]
              refine takeInH 7 46 ?v160 rfl rfl (by kernel_rfl) (by kernel_rfl) (by kernel_rfl) (fun _ _ _ h => h) (by kernel_rfl) hS0 ?hy160 ?_
              case hy160 => (intro W hW; have e0 := bcell hW c0; have e1 := bcell hW c1; have e2 := bcell hW c2; have e3 := bcell hW c3; have e4 := bcell hW d0; have e5 := bcell hW d1; have e6 := bcell hW d2; have e7 := bcell hW d3; clear hW; go_simp; try rfl)
              simp only [Act.put, List.setIfInBounds_toArray, List.set_cons_zero, List.set_cons_succ]
              refine wpAnyH_ready (rs := [8]) (by kernel_rfl) (by simp) ?_
              refine AllReadyH.cons rfl (fun K hK => ?_) AllReadyH.nil
              go_simp
              refine (AheadR_any r s pa na ca pe ne ce r' s' pa' na' ca' pe' ne' ce' c' _ (HN'.out.below hS0)).mono ?_
              rintro e w' ⟨rfl, hb⟩
              rw [show ahdB (r, s) c' = false from HA.out]
              refine hK.out _ _ ?hs161 (fun hS1 => ?_)
              case hs161 => exact bel_next hS0 hb
              clear hK K hb
              try simp only [Act.put, List.setIfInBounds_toArray, List.set_cons_zero, List.set_cons_succ]
              refine takeInH 9 48 ?v162 rfl rfl (by kernel_rfl) (by kernel_rfl) (by kernel_rfl) (fun _ _ _ h => h) (by kernel_rfl) hS1 ?hy162 ?_
              case hy162 => (intro W hW; clear hW; go_simp; try rfl)
              simp only [Act.put, List.setIfInBounds_toArray, List.set_cons_zero, List.set_cons_succ]
              refine takeNoH 10 49 rfl rfl (by kernel_rfl) (by kernel_rfl) (by kernel_rfl) (fun _ _ _ h => h) (by kernel_rfl) hS1 ?_
              simp only [Act.put, List.setIfInBounds_toArray, List.set_cons_zero, List.set_cons_succ]
              refine takeNoH 11 50 rfl rfl (by kernel_rfl) (by kernel_rfl) (by kernel_rfl) (fun _ _ _ h => h) (by kernel_rfl) hS1 ?_
              simp only [Act.put, List.setIfInBounds_toArray, List.set_cons_zero, List.set_cons_succ]
              refine takeNoH 12 51 rfl rfl (by kernel_rfl) (by kernel_rfl) (by kernel_rfl) (fun _ _ _ h => h) (by kernel_rfl) hS1 ?_
              simp only [Act.put, List.setIfInBounds_toArray, List.set_cons_zero, List.set_cons_succ]
              refine takeNoH 13 52 rfl rfl (by kernel_rfl) (by kernel_rfl) (by kernel_rfl) (fun _ _ _ h => h) (by kernel_rfl) hS1 ?_
              simp only [Act.put, List.setIfInBounds_toArray, List.set_cons_zero, List.set_cons_succ]
              refine takeNoH 14 53 rfl rfl (by kernel_rfl) (by kernel_rfl) (by kernel_rfl) (fun _ _ _ h => h) (by kernel_rfl) hS1 ?_
              simp only [Act.put, List.setIfInBounds_toArray, List.set_cons_zero, List.set_cons_succ]
              refine takeInH 15 54 ?v163 rfl rfl (by kernel_rfl) (by kernel_rfl) (by kernel_rfl) (fun _ _ _ h => h) (by kernel_rfl) hS1 ?hy163 ?_
              case hy163 => (intro W hW; clear hW; go_simp; try rfl)
              simp only [Act.put, List.setIfInBounds_toArray, List.set_cons_zero, List.set_cons_succ]
              refine takeInH 16 55 ?v164 rfl rfl (by kernel_rfl) (by kernel_rfl) (by kernel_rfl) (fun _ _ _ h => h) (by kernel_rfl) hS1 ?hy164 ?_
              case hy164 => (intro W hW; clear hW; go_simp; try rfl)
              simp only [Act.put, List.setIfInBounds_toArray, List.set_cons_zero, List.set_cons_succ]
              refine takeNoH 17 56 rfl rfl (by kernel_rfl) (by kernel_rfl) (by kernel_rfl) (fun _ _ _ h => h) (by kernel_rfl) hS1 ?_
              simp only [Act.put, List.setIfInBounds_toArray, List.set_cons_zero, List.set_cons_succ]
              refine takeNoH 18 57 rfl rfl (by kernel_rfl) (by kernel_rfl) (by kernel_rfl) (fun _ _ _ h => h) (by kernel_rfl) hS1 ?_
              simp only [Act.put, List.setIfInBounds_toArray, List.set_cons_zero, List.set_cons_succ]
              refine takeNoH 19 58 rfl rfl (by kernel_rfl) (by kernel_rfl) (by kernel_rfl) (fun _ _ _ h => h) (by kernel_rfl) hS1 ?_
              simp only [Act.put, List.setIfInBounds_toArray, List.set_cons_zero, List.set_cons_succ]
              refine takeNoH 20 59 rfl rfl (by kernel_rfl) (by kernel_rfl) (by kernel_rfl) (fun _ _ _ h => h) (by kernel_rfl) hS1 ?_
              simp only [Act.put, List.setIfInBounds_toArray, List.set_cons_zero, List.set_cons_succ]
              refine takeNoH 21 60 rfl rfl (by kernel_rfl) (by kernel_rfl) (by kernel_rfl) (fun _ _ _ h => h) (by kernel_rfl) hS1 ?_
              simp only [Act.put, List.setIfInBounds_toArray, List.set_cons_zero, List.set_cons_succ]
              refine takeNoH 22 61 rfl rfl (by kernel_rfl) (by kernel_rfl) (by kernel_rfl) (fun _ _ _ h => h) (by kernel_rfl) hS1 ?_
              simp only [Act.put, List.setIfInBounds_toArray, List.set_cons_zero, List.set_cons_succ]
              refine takeNoH 23 62 rfl rfl (by kernel_rfl) (by kernel_rfl) (by kernel_rfl) (fun _ _ _ h => h) (by kernel_rfl) hS1 ?_
              simp only [Act.put, List.setIfInBounds_toArray, List.set_cons_zero, List.set_cons_succ]
              refine takeNoH 24 63 rfl rfl (by kernel_rfl) (by kernel_rfl) (by kernel_rfl) (fun _ _ _ h => h) (by kernel_rfl) hS1 ?_
              simp only [Act.put, List.setIfInBounds_toArray, List.set_cons_zero, List.set_cons_succ]
              refine takeInH 25 64 ?v165 rfl rfl (by kernel_rfl) (by kernel_rfl) (by kernel_rfl) (fun _ _ _ h => h) (by kernel_rfl) hS1 ?hy165 ?_
              case hy165 => (intro W hW; clear hW; go_simp; try rfl)
              simp only [Act.put, List.setIfInBounds_toArray, List.set_cons_zero, List.set_cons_succ]
              refine wpAnyH_done (by kernel_rfl) ?_ _
              go_wp2
              go_roundw
              case rel => exact ⟨j + 1, lv, by omega, by go_num, rfl, HF2, (show Hid _ from bel_next HB2.out hS1)⟩
              case measure => simp [intOf]; omega
            · have HA := hide ha
              rcases h1 : standsB l o k ((r', s'), c', l') with _ | _
              · have H1 := hide h1
                have HF2 := hide (lv9_step HJ.out HF.out (.inr (.inl h1)))
                clear ha h1
                go_upto_region 9 with fail
                refine wp_region_held_drew (S := fun W => Below wr.heap.size wr W) (by kernel_rfl) ((Below.refl _ wr).drew) (fun hS0 => ?_)
                refine takeInH 0 39 ?v166 rfl rfl (by kernel_rfl) (by kernel_rfl) (by kernel_rfl) (fun _ _ _ h => h) (by kernel_rfl) hS0 ?hy166 ?_
                case hy166 => (intro W hW; clear hW; go_simp; try rfl)
                simp only [Act.put, List.setIfInBounds_toArray, List.set_cons_zero, List.set_cons_succ]
                refine takeInH 1 40 ?v167 rfl rfl (by kernel_rfl) (by kernel_rfl) (by kernel_rfl) (fun _ _ _ h => h) (by kernel_rfl) hS0 ?hy167 ?_
                case hy167 => (intro W hW; clear hW; go_simp; try rfl)
                simp only [Act.put, List.setIfInBounds_toArray, List.set_cons_zero, List.set_cons_succ]
                refine takeInH 2 41 ?v168 rfl rfl (by kernel_rfl) (by kernel_rfl) (by kernel_rfl) (fun _ _ _ h => h) (by kernel_rfl) hS0 ?hy168 ?_
                case hy168 => (intro W hW; clear hW; go_simp; try rfl)
                simp only [Act.put, List.setIfInBounds_toArray, List.set_cons_zero, List.set_cons_succ]
                refine takeInH 3 42 ?v169 rfl rfl (by kernel_rfl) (by kernel_rfl) (by kernel_rfl) (fun _ _ _ h => h) (by kernel_rfl) hS0 ?hy169 ?_
                case hy169 => (intro W hW; have e0 := bcell hW c0; have e1 := bcell hW c1; have e2 := bcell hW c2; have e3 := bcell hW c3; have e4 := bcell hW d0; have e5 := bcell hW d1; have e6 := bcell hW d2; have e7 := bcell hW d3; clear hW; go_simp; try rfl)
                simp only [Act.put, List.setIfInBounds_toArray, List.set_cons_zero, List.set_cons_succ]
                refine takeInH 4 43 ?v170 rfl rfl (by kernel_rfl) (by kernel_rfl) (by kernel_rfl) (fun _ _ _ h => h) (by kernel_rfl) hS0 ?hy170 ?_
                case hy170 => (intro W hW; clear hW; go_simp; try rfl)
                simp only [Act.put, List.setIfInBounds_toArray, List.set_cons_zero, List.set_cons_succ]
                refine takeInH 5 44 ?v171 rfl rfl (by kernel_rfl) (by kernel_rfl) (by kernel_rfl) (fun _ _ _ h => h) (by kernel_rfl) hS0 ?hy171 ?_
                case hy171 => (intro W hW; clear hW; go_simp; try rfl)
                simp only [Act.put, List.setIfInBounds_toArray, List.set_cons_zero, List.set_cons_succ]
                refine takeInH 6 45 ?v172 rfl rfl (by kernel_rfl) (by kernel_rfl) (by kernel_rfl) (fun _ _ _ h => h) (by kernel_rfl) hS0 ?hy172 ?_
                case hy172 => (intro W hW; clear hW; go_simp; try rfl)
                simp only [Act.put, List.setIfInBounds_toArray, List.set_cons_zero, List.set_cons_succ]
                refine takeInH 7 46 ?v173 rfl rfl (by kernel_rfl) (by kernel_rfl) (by kernel_rfl) (fun _ _ _ h => h) (by kernel_rfl) hS0 ?hy173 ?_
                case hy173 => (intro W hW; have e0 := bcell hW c0; have e1 := bcell hW c1; have e2 := bcell hW c2; have e3 := bcell hW c3; have e4 := bcell hW d0; have e5 := bcell hW d1; have e6 := bcell hW d2; have e7 := bcell hW d3; clear hW; go_simp; try rfl)
                simp only [Act.put, List.setIfInBounds_toArray, List.set_cons_zero, List.set_cons_succ]
                refine wpAnyH_ready (rs := [8]) (by kernel_rfl) (by simp) ?_
                refine AllReadyH.cons rfl (fun K hK => ?_) AllReadyH.nil
                go_simp
                refine (AheadR_any r s pa na ca pe ne ce r' s' pa' na' ca' pe' ne' ce' c' _ (HN'.out.below hS0)).mono ?_
                rintro e w' ⟨rfl, hb⟩
                rw [show ahdB (r, s) c' = true from HA.out]
                refine hK.out _ _ ?hs174 (fun hS1 => ?_)
                case hs174 => exact bel_next hS0 hb
                clear hK K hb
                try simp only [Act.put, List.setIfInBounds_toArray, List.set_cons_zero, List.set_cons_succ]
                refine takeInH 9 48 ?v175 rfl rfl (by kernel_rfl) (by kernel_rfl) (by kernel_rfl) (fun _ _ _ h => h) (by kernel_rfl) hS1 ?hy175 ?_
                case hy175 => (intro W hW; clear hW; go_simp; try rfl)
                simp only [Act.put, List.setIfInBounds_toArray, List.set_cons_zero, List.set_cons_succ]
                refine takeInH 10 49 ?v176 rfl rfl (by kernel_rfl) (by kernel_rfl) (by kernel_rfl) (fun _ _ _ h => h) (by kernel_rfl) hS1 ?hy176 ?_
                case hy176 => (intro W hW; clear hW; go_simp; try rfl)
                simp only [Act.put, List.setIfInBounds_toArray, List.set_cons_zero, List.set_cons_succ]
                refine takeInH 11 50 ?v177 rfl rfl (by kernel_rfl) (by kernel_rfl) (by kernel_rfl) (fun _ _ _ h => h) (by kernel_rfl) hS1 ?hy177 ?_
                case hy177 => (intro W hW; clear hW; go_simp; try rfl)
                simp only [Act.put, List.setIfInBounds_toArray, List.set_cons_zero, List.set_cons_succ]
                refine takeInH 12 51 ?v178 rfl rfl (by kernel_rfl) (by kernel_rfl) (by kernel_rfl) (fun _ _ _ h => h) (by kernel_rfl) hS1 ?hy178 ?_
                case hy178 => (intro W hW; clear hW; go_simp; try rfl)
                simp only [Act.put, List.setIfInBounds_toArray, List.set_cons_zero, List.set_cons_succ]
                refine takeInH 13 52 ?v179 rfl rfl (by kernel_rfl) (by kernel_rfl) (by kernel_rfl) (fun _ _ _ h => h) (by kernel_rfl) hS1 ?hy179 ?_
                case hy179 => (intro W hW; clear hW; go_simp; try rfl)
                simp only [Act.put, List.setIfInBounds_toArray, List.set_cons_zero, List.set_cons_succ]
                refine wpAnyH_ready (rs := [14]) (by kernel_rfl) (by simp) ?_
                refine AllReadyH.cons rfl (fun K hK => ?_) AllReadyH.nil
                go_simp
                refine (stands_any (some ⟨b, off, none⟩) n cap l j o k _ (HV.out.below (bel_next HBA.out hS1)) hn HND.out _ HJ.out).mono ?_
                rintro e w' ⟨rfl, hb⟩
                rw [show standsB l o k ((r', s'), c', l') = false from H1.out]
                refine hK.out _ _ ?hs180 (fun hS2 => ?_)
                case hs180 => exact bel_next hS1 hb
                clear hK K hb
                try simp only [Act.put, List.setIfInBounds_toArray, List.set_cons_zero, List.set_cons_succ]
                refine takeInH 15 54 ?v181 rfl rfl (by kernel_rfl) (by kernel_rfl) (by kernel_rfl) (fun _ _ _ h => h) (by kernel_rfl) hS2 ?hy181 ?_
                case hy181 => (intro W hW; clear hW; go_simp; try rfl)
                simp only [Act.put, List.setIfInBounds_toArray, List.set_cons_zero, List.set_cons_succ]
                refine takeInH 16 55 ?v182 rfl rfl (by kernel_rfl) (by kernel_rfl) (by kernel_rfl) (fun _ _ _ h => h) (by kernel_rfl) hS2 ?hy182 ?_
                case hy182 => (intro W hW; clear hW; go_simp; try rfl)
                simp only [Act.put, List.setIfInBounds_toArray, List.set_cons_zero, List.set_cons_succ]
                refine takeNoH 17 56 rfl rfl (by kernel_rfl) (by kernel_rfl) (by kernel_rfl) (fun _ _ _ h => h) (by kernel_rfl) hS2 ?_
                simp only [Act.put, List.setIfInBounds_toArray, List.set_cons_zero, List.set_cons_succ]
                refine takeNoH 18 57 rfl rfl (by kernel_rfl) (by kernel_rfl) (by kernel_rfl) (fun _ _ _ h => h) (by kernel_rfl) hS2 ?_
                simp only [Act.put, List.setIfInBounds_toArray, List.set_cons_zero, List.set_cons_succ]
                refine takeNoH 19 58 rfl rfl (by kernel_rfl) (by kernel_rfl) (by kernel_rfl) (fun _ _ _ h => h) (by kernel_rfl) hS2 ?_
                simp only [Act.put, List.setIfInBounds_toArray, List.set_cons_zero, List.set_cons_succ]
                refine takeNoH 20 59 rfl rfl (by kernel_rfl) (by kernel_rfl) (by kernel_rfl) (fun _ _ _ h => h) (by kernel_rfl) hS2 ?_
                simp only [Act.put, List.setIfInBounds_toArray, List.set_cons_zero, List.set_cons_succ]
                refine takeNoH 21 60 rfl rfl (by kernel_rfl) (by kernel_rfl) (by kernel_rfl) (fun _ _ _ h => h) (by kernel_rfl) hS2 ?_
                simp only [Act.put, List.setIfInBounds_toArray, List.set_cons_zero, List.set_cons_succ]
                refine takeNoH 22 61 rfl rfl (by kernel_rfl) (by kernel_rfl) (by kernel_rfl) (fun _ _ _ h => h) (by kernel_rfl) hS2 ?_
                simp only [Act.put, List.setIfInBounds_toArray, List.set_cons_zero, List.set_cons_succ]
                refine takeNoH 23 62 rfl rfl (by kernel_rfl) (by kernel_rfl) (by kernel_rfl) (fun _ _ _ h => h) (by kernel_rfl) hS2 ?_
                simp only [Act.put, List.setIfInBounds_toArray, List.set_cons_zero, List.set_cons_succ]
                refine takeNoH 24 63 rfl rfl (by kernel_rfl) (by kernel_rfl) (by kernel_rfl) (fun _ _ _ h => h) (by kernel_rfl) hS2 ?_
                simp only [Act.put, List.setIfInBounds_toArray, List.set_cons_zero, List.set_cons_succ]
                refine takeInH 25 64 ?v183 rfl rfl (by kernel_rfl) (by kernel_rfl) (by kernel_rfl) (fun _ _ _ h => h) (by kernel_rfl) hS2 ?hy183 ?_
                case hy183 => (intro W hW; clear hW; go_simp; try rfl)
                simp only [Act.put, List.setIfInBounds_toArray, List.set_cons_zero, List.set_cons_succ]
                refine wpAnyH_done (by kernel_rfl) ?_ _
                go_wp2
                go_roundw
                case rel => exact ⟨j + 1, lv, by omega, by go_num, rfl, HF2, (show Hid _ from bel_next HB2.out hS2)⟩
                case measure => simp [intOf]; omega
              · have H1 := hide h1
                rcases h2 : doesB ((r', s'), c', l') 2 o k with _ | _
                · have H2 := hide h2
                  have HF2 := hide (lv9_stop (b := false) (e := ((r, s), c, le)) (o := o) (k := k) HJ.out ha h1 h2)
                  clear ha h1 h2
                  go_upto_region 9 with fail
                  refine wp_region_held_drew (S := fun W => Below wr.heap.size wr W) (by kernel_rfl) ((Below.refl _ wr).drew) (fun hS0 => ?_)
                  refine takeInH 0 39 ?v184 rfl rfl (by kernel_rfl) (by kernel_rfl) (by kernel_rfl) (fun _ _ _ h => h) (by kernel_rfl) hS0 ?hy184 ?_
                  case hy184 => (intro W hW; clear hW; go_simp; try rfl)
                  simp only [Act.put, List.setIfInBounds_toArray, List.set_cons_zero, List.set_cons_succ]
                  refine takeInH 1 40 ?v185 rfl rfl (by kernel_rfl) (by kernel_rfl) (by kernel_rfl) (fun _ _ _ h => h) (by kernel_rfl) hS0 ?hy185 ?_
                  case hy185 => (intro W hW; clear hW; go_simp; try rfl)
                  simp only [Act.put, List.setIfInBounds_toArray, List.set_cons_zero, List.set_cons_succ]
                  refine takeInH 2 41 ?v186 rfl rfl (by kernel_rfl) (by kernel_rfl) (by kernel_rfl) (fun _ _ _ h => h) (by kernel_rfl) hS0 ?hy186 ?_
                  case hy186 => (intro W hW; clear hW; go_simp; try rfl)
                  simp only [Act.put, List.setIfInBounds_toArray, List.set_cons_zero, List.set_cons_succ]
                  refine takeInH 3 42 ?v187 rfl rfl (by kernel_rfl) (by kernel_rfl) (by kernel_rfl) (fun _ _ _ h => h) (by kernel_rfl) hS0 ?hy187 ?_
                  case hy187 => (intro W hW; have e0 := bcell hW c0; have e1 := bcell hW c1; have e2 := bcell hW c2; have e3 := bcell hW c3; have e4 := bcell hW d0; have e5 := bcell hW d1; have e6 := bcell hW d2; have e7 := bcell hW d3; clear hW; go_simp; try rfl)
                  simp only [Act.put, List.setIfInBounds_toArray, List.set_cons_zero, List.set_cons_succ]
                  refine takeInH 4 43 ?v188 rfl rfl (by kernel_rfl) (by kernel_rfl) (by kernel_rfl) (fun _ _ _ h => h) (by kernel_rfl) hS0 ?hy188 ?_
                  case hy188 => (intro W hW; clear hW; go_simp; try rfl)
                  simp only [Act.put, List.setIfInBounds_toArray, List.set_cons_zero, List.set_cons_succ]
                  refine takeInH 5 44 ?v189 rfl rfl (by kernel_rfl) (by kernel_rfl) (by kernel_rfl) (fun _ _ _ h => h) (by kernel_rfl) hS0 ?hy189 ?_
                  case hy189 => (intro W hW; clear hW; go_simp; try rfl)
                  simp only [Act.put, List.setIfInBounds_toArray, List.set_cons_zero, List.set_cons_succ]
                  refine takeInH 6 45 ?v190 rfl rfl (by kernel_rfl) (by kernel_rfl) (by kernel_rfl) (fun _ _ _ h => h) (by kernel_rfl) hS0 ?hy190 ?_
                  case hy190 => (intro W hW; clear hW; go_simp; try rfl)
                  simp only [Act.put, List.setIfInBounds_toArray, List.set_cons_zero, List.set_cons_succ]
                  refine takeInH 7 46 ?v191 rfl rfl (by kernel_rfl) (by kernel_rfl) (by kernel_rfl) (fun _ _ _ h => h) (by kernel_rfl) hS0 ?hy191 ?_
                  case hy191 => (intro W hW; have e0 := bcell hW c0; have e1 := bcell hW c1; have e2 := bcell hW c2; have e3 := bcell hW c3; have e4 := bcell hW d0; have e5 := bcell hW d1; have e6 := bcell hW d2; have e7 := bcell hW d3; clear hW; go_simp; try rfl)
                  simp only [Act.put, List.setIfInBounds_toArray, List.set_cons_zero, List.set_cons_succ]
                  refine wpAnyH_ready (rs := [8]) (by kernel_rfl) (by simp) ?_
                  refine AllReadyH.cons rfl (fun K hK => ?_) AllReadyH.nil
                  go_simp
                  refine (AheadR_any r s pa na ca pe ne ce r' s' pa' na' ca' pe' ne' ce' c' _ (HN'.out.below hS0)).mono ?_
                  rintro e w' ⟨rfl, hb⟩
                  rw [show ahdB (r, s) c' = true from HA.out]
                  refine hK.out _ _ ?hs192 (fun hS1 => ?_)
                  case hs192 => exact bel_next hS0 hb
                  clear hK K hb
                  try simp only [Act.put, List.setIfInBounds_toArray, List.set_cons_zero, List.set_cons_succ]
                  refine takeInH 9 48 ?v193 rfl rfl (by kernel_rfl) (by kernel_rfl) (by kernel_rfl) (fun _ _ _ h => h) (by kernel_rfl) hS1 ?hy193 ?_
                  case hy193 => (intro W hW; clear hW; go_simp; try rfl)
                  simp only [Act.put, List.setIfInBounds_toArray, List.set_cons_zero, List.set_cons_succ]
                  refine takeInH 10 49 ?v194 rfl rfl (by kernel_rfl) (by kernel_rfl) (by kernel_rfl) (fun _ _ _ h => h) (by kernel_rfl) hS1 ?hy194 ?_
                  case hy194 => (intro W hW; clear hW; go_simp; try rfl)
                  simp only [Act.put, List.setIfInBounds_toArray, List.set_cons_zero, List.set_cons_succ]
                  refine takeInH 11 50 ?v195 rfl rfl (by kernel_rfl) (by kernel_rfl) (by kernel_rfl) (fun _ _ _ h => h) (by kernel_rfl) hS1 ?hy195 ?_
                  case hy195 => (intro W hW; clear hW; go_simp; try rfl)
                  simp only [Act.put, List.setIfInBounds_toArray, List.set_cons_zero, List.set_cons_succ]
                  refine takeInH 12 51 ?v196 rfl rfl (by kernel_rfl) (by kernel_rfl) (by kernel_rfl) (fun _ _ _ h => h) (by kernel_rfl) hS1 ?hy196 ?_
                  case hy196 => (intro W hW; clear hW; go_simp; try rfl)
                  simp only [Act.put, List.setIfInBounds_toArray, List.set_cons_zero, List.set_cons_succ]
                  refine takeInH 13 52 ?v197 rfl rfl (by kernel_rfl) (by kernel_rfl) (by kernel_rfl) (fun _ _ _ h => h) (by kernel_rfl) hS1 ?hy197 ?_
                  case hy197 => (intro W hW; clear hW; go_simp; try rfl)
                  simp only [Act.put, List.setIfInBounds_toArray, List.set_cons_zero, List.set_cons_succ]
                  refine wpAnyH_ready (rs := [14]) (by kernel_rfl) (by simp) ?_
                  refine AllReadyH.cons rfl (fun K hK => ?_) AllReadyH.nil
                  go_simp
                  refine (stands_any (some ⟨b, off, none⟩) n cap l j o k _ (HV.out.below (bel_next HBA.out hS1)) hn HND.out _ HJ.out).mono ?_
                  rintro e w' ⟨rfl, hb⟩
                  rw [show standsB l o k ((r', s'), c', l') = true from H1.out]
                  refine hK.out _ _ ?hs198 (fun hS2 => ?_)
                  case hs198 => exact bel_next hS1 hb
                  clear hK K hb
                  try simp only [Act.put, List.setIfInBounds_toArray, List.set_cons_zero, List.set_cons_succ]
                  refine takeInH 15 54 ?v199 rfl rfl (by kernel_rfl) (by kernel_rfl) (by kernel_rfl) (fun _ _ _ h => h) (by kernel_rfl) hS2 ?hy199 ?_
                  case hy199 => (intro W hW; clear hW; go_simp; try rfl)
                  simp only [Act.put, List.setIfInBounds_toArray, List.set_cons_zero, List.set_cons_succ]
                  refine takeInH 16 55 ?v200 rfl rfl (by kernel_rfl) (by kernel_rfl) (by kernel_rfl) (fun _ _ _ h => h) (by kernel_rfl) hS2 ?hy200 ?_
                  case hy200 => (intro W hW; clear hW; go_simp; try rfl)
                  simp only [Act.put, List.setIfInBounds_toArray, List.set_cons_zero, List.set_cons_succ]
                  refine takeInH 17 56 ?v201 rfl rfl (by kernel_rfl) (by kernel_rfl) (by kernel_rfl) (fun _ _ _ h => h) (by kernel_rfl) hS2 ?hy201 ?_
                  case hy201 => (intro W hW; clear hW; go_simp; try rfl)
                  simp only [Act.put, List.setIfInBounds_toArray, List.set_cons_zero, List.set_cons_succ]
                  refine takeInH 18 57 ?v202 rfl rfl (by kernel_rfl) (by kernel_rfl) (by kernel_rfl) (fun _ _ _ h => h) (by kernel_rfl) hS2 ?hy202 ?_
                  case hy202 => (intro W hW; clear hW; go_simp; try rfl)
                  simp only [Act.put, List.setIfInBounds_toArray, List.set_cons_zero, List.set_cons_succ]
                  refine takeInH 19 58 ?v203 rfl rfl (by kernel_rfl) (by kernel_rfl) (by kernel_rfl) (fun _ _ _ h => h) (by kernel_rfl) hS2 ?hy203 ?_
                  case hy203 => (intro W hW; clear hW; go_simp; try rfl)
                  simp only [Act.put, List.setIfInBounds_toArray, List.set_cons_zero, List.set_cons_succ]
                  refine takeInH 20 59 ?v204 rfl rfl (by kernel_rfl) (by kernel_rfl) (by kernel_rfl) (fun _ _ _ h => h) (by kernel_rfl) hS2 ?hy204 ?_
                  case hy204 => (intro W hW; have e0 := bcell hW c0; have e1 := bcell hW c1; have e2 := bcell hW c2; have e3 := bcell hW c3; have e4 := bcell hW d0; have e5 := bcell hW d1; have e6 := bcell hW d2; have e7 := bcell hW d3; clear hW; go_simp; try rfl)
                  simp only [Act.put, List.setIfInBounds_toArray, List.set_cons_zero, List.set_cons_succ]
                  refine takeInH 21 60 ?v205 rfl rfl (by kernel_rfl) (by kernel_rfl) (by kernel_rfl) (fun _ _ _ h => h) (by kernel_rfl) hS2 ?hy205 ?_
                  case hy205 => (intro W hW; clear hW; go_simp; try rfl)
                  simp only [Act.put, List.setIfInBounds_toArray, List.set_cons_zero, List.set_cons_succ]
                  refine takeInH 22 61 ?v206 rfl rfl (by kernel_rfl) (by kernel_rfl) (by kernel_rfl) (fun _ _ _ h => h) (by kernel_rfl) hS2 ?hy206 ?_
                  case hy206 => (intro W hW; clear hW; go_simp; try rfl)
                  simp only [Act.put, List.setIfInBounds_toArray, List.set_cons_zero, List.set_cons_succ]
                  refine wpAnyH_ready (rs := [23]) (by kernel_rfl) (by simp) ?_
                  refine AllReadyH.cons rfl (fun K hK => ?_) AllReadyH.nil
                  go_simp
                  refine (Does_any r' s' pa' na' ca' pe' ne' ce' c' l' 2 o k _ (HE'.out.below hS2)).mono ?_
                  rintro e w' ⟨rfl, hb⟩
                  rw [show doesB ((r', s'), c', l') 2 o k = false from H2.out]
                  refine hK.out _ _ ?hs207 (fun hS3 => ?_)
                  case hs207 => exact bel_next hS2 hb
                  clear hK K hb
                  try simp only [Act.put, List.setIfInBounds_toArray, List.set_cons_zero, List.set_cons_succ]
                  refine takeInH 24 63 ?v208 rfl rfl (by kernel_rfl) (by kernel_rfl) (by kernel_rfl) (fun _ _ _ h => h) (by kernel_rfl) hS3 ?hy208 ?_
                  case hy208 => (intro W hW; clear hW; go_simp; try rfl)
                  simp only [Act.put, List.setIfInBounds_toArray, List.set_cons_zero, List.set_cons_succ]
                  refine takeInH 25 64 ?v209 rfl rfl (by kernel_rfl) (by kernel_rfl) (by kernel_rfl) (fun _ _ _ h => h) (by kernel_rfl) hS3 ?hy209 ?_
                  case hy209 => (intro W hW; clear hW; go_simp; try rfl)
                  simp only [Act.put, List.setIfInBounds_toArray, List.set_cons_zero, List.set_cons_succ]
                  refine wpAnyH_done (by kernel_rfl) ?_ _
                  go_wp2
                  go_roundw
                  case rel => exact ⟨j + 1, false, by omega, by go_num, rfl, HF2, (show Hid _ from bel_next HB2.out hS3)⟩
                  case measure => simp [intOf]; omega
                · have H2 := hide h2
                  have HF2 := hide (lv9_step HJ.out HF.out (.inr (.inr h2)))
                  clear ha h1 h2
                  go_upto_region 9 with fail
                  refine wp_region_held_drew (S := fun W => Below wr.heap.size wr W) (by kernel_rfl) ((Below.refl _ wr).drew) (fun hS0 => ?_)
                  refine takeInH 0 39 ?v210 rfl rfl (by kernel_rfl) (by kernel_rfl) (by kernel_rfl) (fun _ _ _ h => h) (by kernel_rfl) hS0 ?hy210 ?_
                  case hy210 => (intro W hW; clear hW; go_simp; try rfl)
                  simp only [Act.put, List.setIfInBounds_toArray, List.set_cons_zero, List.set_cons_succ]
                  refine takeInH 1 40 ?v211 rfl rfl (by kernel_rfl) (by kernel_rfl) (by kernel_rfl) (fun _ _ _ h => h) (by kernel_rfl) hS0 ?hy211 ?_
                  case hy211 => (intro W hW; clear hW; go_simp; try rfl)
                  simp only [Act.put, List.setIfInBounds_toArray, List.set_cons_zero, List.set_cons_succ]
                  refine takeInH 2 41 ?v212 rfl rfl (by kernel_rfl) (by kernel_rfl) (by kernel_rfl) (fun _ _ _ h => h) (by kernel_rfl) hS0 ?hy212 ?_
                  case hy212 => (intro W hW; clear hW; go_simp; try rfl)
                  simp only [Act.put, List.setIfInBounds_toArray, List.set_cons_zero, List.set_cons_succ]
                  refine takeInH 3 42 ?v213 rfl rfl (by kernel_rfl) (by kernel_rfl) (by kernel_rfl) (fun _ _ _ h => h) (by kernel_rfl) hS0 ?hy213 ?_
                  case hy213 => (intro W hW; have e0 := bcell hW c0; have e1 := bcell hW c1; have e2 := bcell hW c2; have e3 := bcell hW c3; have e4 := bcell hW d0; have e5 := bcell hW d1; have e6 := bcell hW d2; have e7 := bcell hW d3; clear hW; go_simp; try rfl)
                  simp only [Act.put, List.setIfInBounds_toArray, List.set_cons_zero, List.set_cons_succ]
                  refine takeInH 4 43 ?v214 rfl rfl (by kernel_rfl) (by kernel_rfl) (by kernel_rfl) (fun _ _ _ h => h) (by kernel_rfl) hS0 ?hy214 ?_
                  case hy214 => (intro W hW; clear hW; go_simp; try rfl)
                  simp only [Act.put, List.setIfInBounds_toArray, List.set_cons_zero, List.set_cons_succ]
                  refine takeInH 5 44 ?v215 rfl rfl (by kernel_rfl) (by kernel_rfl) (by kernel_rfl) (fun _ _ _ h => h) (by kernel_rfl) hS0 ?hy215 ?_
                  case hy215 => (intro W hW; clear hW; go_simp; try rfl)
                  simp only [Act.put, List.setIfInBounds_toArray, List.set_cons_zero, List.set_cons_succ]
                  refine takeInH 6 45 ?v216 rfl rfl (by kernel_rfl) (by kernel_rfl) (by kernel_rfl) (fun _ _ _ h => h) (by kernel_rfl) hS0 ?hy216 ?_
                  case hy216 => (intro W hW; clear hW; go_simp; try rfl)
                  simp only [Act.put, List.setIfInBounds_toArray, List.set_cons_zero, List.set_cons_succ]
                  refine takeInH 7 46 ?v217 rfl rfl (by kernel_rfl) (by kernel_rfl) (by kernel_rfl) (fun _ _ _ h => h) (by kernel_rfl) hS0 ?hy217 ?_
                  case hy217 => (intro W hW; have e0 := bcell hW c0; have e1 := bcell hW c1; have e2 := bcell hW c2; have e3 := bcell hW c3; have e4 := bcell hW d0; have e5 := bcell hW d1; have e6 := bcell hW d2; have e7 := bcell hW d3; clear hW; go_simp; try rfl)
                  simp only [Act.put, List.setIfInBounds_toArray, List.set_cons_zero, List.set_cons_succ]
                  refine wpAnyH_ready (rs := [8]) (by kernel_rfl) (by simp) ?_
                  refine AllReadyH.cons rfl (fun K hK => ?_) AllReadyH.nil
                  go_simp
                  refine (AheadR_any r s pa na ca pe ne ce r' s' pa' na' ca' pe' ne' ce' c' _ (HN'.out.below hS0)).mono ?_
                  rintro e w' ⟨rfl, hb⟩
                  rw [show ahdB (r, s) c' = true from HA.out]
                  refine hK.out _ _ ?hs218 (fun hS1 => ?_)
                  case hs218 => exact bel_next hS0 hb
                  clear hK K hb
                  try simp only [Act.put, List.setIfInBounds_toArray, List.set_cons_zero, List.set_cons_succ]
                  refine takeInH 9 48 ?v219 rfl rfl (by kernel_rfl) (by kernel_rfl) (by kernel_rfl) (fun _ _ _ h => h) (by kernel_rfl) hS1 ?hy219 ?_
                  case hy219 => (intro W hW; clear hW; go_simp; try rfl)
                  simp only [Act.put, List.setIfInBounds_toArray, List.set_cons_zero, List.set_cons_succ]
                  refine takeInH 10 49 ?v220 rfl rfl (by kernel_rfl) (by kernel_rfl) (by kernel_rfl) (fun _ _ _ h => h) (by kernel_rfl) hS1 ?hy220 ?_
                  case hy220 => (intro W hW; clear hW; go_simp; try rfl)
                  simp only [Act.put, List.setIfInBounds_toArray, List.set_cons_zero, List.set_cons_succ]
                  refine takeInH 11 50 ?v221 rfl rfl (by kernel_rfl) (by kernel_rfl) (by kernel_rfl) (fun _ _ _ h => h) (by kernel_rfl) hS1 ?hy221 ?_
                  case hy221 => (intro W hW; clear hW; go_simp; try rfl)
                  simp only [Act.put, List.setIfInBounds_toArray, List.set_cons_zero, List.set_cons_succ]
                  refine takeInH 12 51 ?v222 rfl rfl (by kernel_rfl) (by kernel_rfl) (by kernel_rfl) (fun _ _ _ h => h) (by kernel_rfl) hS1 ?hy222 ?_
                  case hy222 => (intro W hW; clear hW; go_simp; try rfl)
                  simp only [Act.put, List.setIfInBounds_toArray, List.set_cons_zero, List.set_cons_succ]
                  refine takeInH 13 52 ?v223 rfl rfl (by kernel_rfl) (by kernel_rfl) (by kernel_rfl) (fun _ _ _ h => h) (by kernel_rfl) hS1 ?hy223 ?_
                  case hy223 => (intro W hW; clear hW; go_simp; try rfl)
                  simp only [Act.put, List.setIfInBounds_toArray, List.set_cons_zero, List.set_cons_succ]
                  refine wpAnyH_ready (rs := [14]) (by kernel_rfl) (by simp) ?_
                  refine AllReadyH.cons rfl (fun K hK => ?_) AllReadyH.nil
                  go_simp
                  refine (stands_any (some ⟨b, off, none⟩) n cap l j o k _ (HV.out.below (bel_next HBA.out hS1)) hn HND.out _ HJ.out).mono ?_
                  rintro e w' ⟨rfl, hb⟩
                  rw [show standsB l o k ((r', s'), c', l') = true from H1.out]
                  refine hK.out _ _ ?hs224 (fun hS2 => ?_)
                  case hs224 => exact bel_next hS1 hb
                  clear hK K hb
                  try simp only [Act.put, List.setIfInBounds_toArray, List.set_cons_zero, List.set_cons_succ]
                  refine takeInH 15 54 ?v225 rfl rfl (by kernel_rfl) (by kernel_rfl) (by kernel_rfl) (fun _ _ _ h => h) (by kernel_rfl) hS2 ?hy225 ?_
                  case hy225 => (intro W hW; clear hW; go_simp; try rfl)
                  simp only [Act.put, List.setIfInBounds_toArray, List.set_cons_zero, List.set_cons_succ]
                  refine takeInH 16 55 ?v226 rfl rfl (by kernel_rfl) (by kernel_rfl) (by kernel_rfl) (fun _ _ _ h => h) (by kernel_rfl) hS2 ?hy226 ?_
                  case hy226 => (intro W hW; clear hW; go_simp; try rfl)
                  simp only [Act.put, List.setIfInBounds_toArray, List.set_cons_zero, List.set_cons_succ]
                  refine takeInH 17 56 ?v227 rfl rfl (by kernel_rfl) (by kernel_rfl) (by kernel_rfl) (fun _ _ _ h => h) (by kernel_rfl) hS2 ?hy227 ?_
                  case hy227 => (intro W hW; clear hW; go_simp; try rfl)
                  simp only [Act.put, List.setIfInBounds_toArray, List.set_cons_zero, List.set_cons_succ]
                  refine takeInH 18 57 ?v228 rfl rfl (by kernel_rfl) (by kernel_rfl) (by kernel_rfl) (fun _ _ _ h => h) (by kernel_rfl) hS2 ?hy228 ?_
                  case hy228 => (intro W hW; clear hW; go_simp; try rfl)
                  simp only [Act.put, List.setIfInBounds_toArray, List.set_cons_zero, List.set_cons_succ]
                  refine takeInH 19 58 ?v229 rfl rfl (by kernel_rfl) (by kernel_rfl) (by kernel_rfl) (fun _ _ _ h => h) (by kernel_rfl) hS2 ?hy229 ?_
                  case hy229 => (intro W hW; clear hW; go_simp; try rfl)
                  simp only [Act.put, List.setIfInBounds_toArray, List.set_cons_zero, List.set_cons_succ]
                  refine takeInH 20 59 ?v230 rfl rfl (by kernel_rfl) (by kernel_rfl) (by kernel_rfl) (fun _ _ _ h => h) (by kernel_rfl) hS2 ?hy230 ?_
                  case hy230 => (intro W hW; have e0 := bcell hW c0; have e1 := bcell hW c1; have e2 := bcell hW c2; have e3 := bcell hW c3; have e4 := bcell hW d0; have e5 := bcell hW d1; have e6 := bcell hW d2; have e7 := bcell hW d3; clear hW; go_simp; try rfl)
                  simp only [Act.put, List.setIfInBounds_toArray, List.set_cons_zero, List.set_cons_succ]
                  refine takeInH 21 60 ?v231 rfl rfl (by kernel_rfl) (by kernel_rfl) (by kernel_rfl) (fun _ _ _ h => h) (by kernel_rfl) hS2 ?hy231 ?_
                  case hy231 => (intro W hW; clear hW; go_simp; try rfl)
                  simp only [Act.put, List.setIfInBounds_toArray, List.set_cons_zero, List.set_cons_succ]
                  refine takeInH 22 61 ?v232 rfl rfl (by kernel_rfl) (by kernel_rfl) (by kernel_rfl) (fun _ _ _ h => h) (by kernel_rfl) hS2 ?hy232 ?_
                  case hy232 => (intro W hW; clear hW; go_simp; try rfl)
                  simp only [Act.put, List.setIfInBounds_toArray, List.set_cons_zero, List.set_cons_succ]
                  refine wpAnyH_ready (rs := [23]) (by kernel_rfl) (by simp) ?_
                  refine AllReadyH.cons rfl (fun K hK => ?_) AllReadyH.nil
                  go_simp
                  refine (Does_any r' s' pa' na' ca' pe' ne' ce' c' l' 2 o k _ (HE'.out.below hS2)).mono ?_
                  rintro e w' ⟨rfl, hb⟩
                  rw [show doesB ((r', s'), c', l') 2 o k = true from H2.out]
                  refine hK.out _ _ ?hs233 (fun hS3 => ?_)
                  case hs233 => exact bel_next hS2 hb
                  clear hK K hb
                  try simp only [Act.put, List.setIfInBounds_toArray, List.set_cons_zero, List.set_cons_succ]
                  refine takeInH 24 63 ?v234 rfl rfl (by kernel_rfl) (by kernel_rfl) (by kernel_rfl) (fun _ _ _ h => h) (by kernel_rfl) hS3 ?hy234 ?_
                  case hy234 => (intro W hW; clear hW; go_simp; try rfl)
                  simp only [Act.put, List.setIfInBounds_toArray, List.set_cons_zero, List.set_cons_succ]
                  refine takeInH 25 64 ?v235 rfl rfl (by kernel_rfl) (by kernel_rfl) (by kernel_rfl) (fun _ _ _ h => h) (by kernel_rfl) hS3 ?hy235 ?_
                  case hy235 => (intro W hW; clear hW; go_simp; try rfl)
                  simp only [Act.put, List.setIfInBounds_toArray, List.set_cons_zero, List.set_cons_succ]
                  refine wpAnyH_done (by kernel_rfl) ?_ _
                  go_wp2
                  go_roundw
                  case rel => exact ⟨j + 1, lv, by omega, by go_num, rfl, HF2, (show Hid _ from bel_next HB2.out hS3)⟩
                  case measure => simp [intOf]; omega
          · obtain rfl : j = n := by omega
            have HFL : Hid (live9B l o k ((r, s), c, le) = lv) := by
              have q := HF.out
              rw [← HLEN.out, List.take_length] at q
              rw [q]
              unfold Hid live9B
              rw [HB0.out]
            clear HF
            cases lv
            · have HU := hide (lvU9_no HX.out HFL.out)
              replace HO := hide (HO.out.below HB2.out)
              rw [← HU.out] at HO
              go_wp2
              go_roundw
              case rel => exact ⟨i + 1, by omega, by go_num, HO, HBA⟩
              case measure => simp [intOf]; omega
            · have HU := hide (lvU9_yes HX.out HFL.out)
              have HLU := hide (lvU9_len l o k i)
              replace HO := hide (HO.out.below HB2.out)
              go_wp2_with (go_at_call 41; refine (PutR_any _ _ (lvU9 l o k i) (r, s) _ HO.out HBA.out.size (by have := HLU.out; rw [HLEN.out] at this; omega)).mono ?_; rintro e w3 ⟨v3, rfl, ho3, hb3⟩)
              have HO3 := hide ho3
              rw [← show lvU9 l o k (i + 1) = putD (lvU9 l o k i) (r, s) from HU.out] at HO3
              go_roundw
              case rel => exact ⟨i + 1, by omega, by go_num, HO3, (show Hid _ from bel_next HBA.out hb3)⟩
              case measure => simp [intOf]; omega
      · cases b2
        · obtain rfl : b0 = true := hb0.symm
          clear hb0
          go_wp2_with (first | (go_at_call 52; refine HST.out.mono ?_; rintro e w0 ⟨rfl, hb⟩; replace HO := hide (HO.out.below hb); replace HB := hide (bel_next HB.out hb); replace c0 := bcell hb c0; replace c1 := bcell hb c1; replace c2 := bcell hb c2; replace c3 := bcell hb c3; clear hb HST) | (go_at_call 50; refine (HDO.out _ (HE.out.below HB.out)).mono ?_; rintro e w1 ⟨rfl, hb⟩; replace HO := hide (HO.out.below hb); replace HB := hide (bel_next HB.out hb); clear hb c0 c1 c2 c3 HDO))
          go_loopw [9, 10] (fun vl v wr2 => ∃ (j : Nat) (lv : Bool), j ≤ n ∧ v = .int .i64 j ∧ vl = .bool lv ∧ Hid (lv = (true && !((l.take j).any fun f => ahE ((r, s), c, le) f && standsB l o k f && !(doesB f 2 o k)))) ∧ Hid (Below w1.heap.size w1 wr2)) (fun _ v _ => n - (intOf v).toNat)
          case atStart => exact ⟨0, true, by omega, rfl, rfl, (show true = _ by simp), Below.refl _ _⟩
          case round =>
            obtain ⟨j, lv, hj, rfl, rfl, HF, HB2⟩ := hrel
            have HBA := hide (bel_next HB.out HB2.out)
            have c0 := bcell HBA.out C0.out
            have c1 := bcell HBA.out C1.out
            have c2 := bcell HBA.out C2.out
            have c3 := bcell HBA.out C3.out
            by_cases hjn : j < n
            · obtain ⟨r', s', pa', na', ca', pe', ne', ce', c', l', hj', d0, d1, d2, d3, hN', _, hE', _⟩ := (HV.out.below HBA.out).at j hjn
              have HJ := hide hj'
              have HN' := hide hN'
              have HE' := hide hE'
              have hj0 : (0 : Int) ≤ (j : Int) := by omega
              have hj1 : (j : Int) < (n : Int) := by omega
              clear hj' hN' hE'
              rcases ha : ahdB (r, s) c' with _ | _
              · have HA := hide ha
                have HF2 := hide (lv9_step HJ.out HF.out (.inl ha))
                clear ha
                go_upto_region 9 with fail
                refine wp_region_held_drew (S := fun W => Below wr.heap.size wr W) (by kernel_rfl) ((Below.refl _ wr).drew) (fun hS0 => ?_)
                refine takeInH 0 39 ?v236 rfl rfl (by kernel_rfl) (by kernel_rfl) (by kernel_rfl) (fun _ _ _ h => h) (by kernel_rfl) hS0 ?hy236 ?_
                case hy236 => (intro W hW; clear hW; go_simp; try rfl)
                simp only [Act.put, List.setIfInBounds_toArray, List.set_cons_zero, List.set_cons_succ]
                refine takeInH 1 40 ?v237 rfl rfl (by kernel_rfl) (by kernel_rfl) (by kernel_rfl) (fun _ _ _ h => h) (by kernel_rfl) hS0 ?hy237 ?_
                case hy237 => (intro W hW; clear hW; go_simp; try rfl)
                simp only [Act.put, List.setIfInBounds_toArray, List.set_cons_zero, List.set_cons_succ]
                refine takeInH 2 41 ?v238 rfl rfl (by kernel_rfl) (by kernel_rfl) (by kernel_rfl) (fun _ _ _ h => h) (by kernel_rfl) hS0 ?hy238 ?_
                case hy238 => (intro W hW; clear hW; go_simp; try rfl)
                simp only [Act.put, List.setIfInBounds_toArray, List.set_cons_zero, List.set_cons_succ]
                refine takeInH 3 42 ?v239 rfl rfl (by kernel_rfl) (by kernel_rfl) (by kernel_rfl) (fun _ _ _ h => h) (by kernel_rfl) hS0 ?hy239 ?_
                case hy239 => (intro W hW; have e0 := bcell hW c0; have e1 := bcell hW c1; have e2 := bcell hW c2; have e3 := bcell hW c3; have e4 := bcell hW d0; have e5 := bcell hW d1; have e6 := bcell hW d2; have e7 := bcell hW d3; clear hW; go_simp; try rfl)
                simp only [Act.put, List.setIfInBounds_toArray, List.set_cons_zero, List.set_cons_succ]
                refine takeInH 4 43 ?v240 rfl rfl (by kernel_rfl) (by kernel_rfl) (by kernel_rfl) (fun _ _ _ h => h) (by kernel_rfl) hS0 ?hy240 ?_
                case hy240 => (intro W hW; clear hW; go_simp; try rfl)
                simp only [Act.put, List.setIfInBounds_toArray, List.set_cons_zero, List.set_cons_succ]
                refine takeInH 5 44 ?v241 rfl rfl (by kernel_rfl) (by kernel_rfl) (by kernel_rfl) (fun _ _ _ h => h) (by kernel_rfl) hS0 ?hy241 ?_
                case hy241 => (intro W hW; clear hW; go_simp; try rfl)
                simp only [Act.put, List.setIfInBounds_toArray, List.set_cons_zero, List.set_cons_succ]
                refine takeInH 6 45 ?v242 rfl rfl (by kernel_rfl) (by kernel_rfl) (by kernel_rfl) (fun _ _ _ h => h) (by kernel_rfl) hS0 ?hy242 ?_
                case hy242 => (intro W hW; clear hW; go_simp; try rfl)
                simp only [Act.put, List.setIfInBounds_toArray, List.set_cons_zero, List.set_cons_succ]
                refine takeInH 7 46 ?v243 rfl rfl (by kernel_rfl) (by kernel_rfl) (by kernel_rfl) (fun _ _ _ h => h) (by kernel_rfl) hS0 ?hy243 ?_
                case hy243 => (intro W hW; have e0 := bcell hW c0; have e1 := bcell hW c1; have e2 := bcell hW c2; have e3 := bcell hW c3; have e4 := bcell hW d0; have e5 := bcell hW d1; have e6 := bcell hW d2; have e7 := bcell hW d3; clear hW; go_simp; try rfl)
                simp only [Act.put, List.setIfInBounds_toArray, List.set_cons_zero, List.set_cons_succ]
                refine wpAnyH_ready (rs := [8]) (by kernel_rfl) (by simp) ?_
                refine AllReadyH.cons rfl (fun K hK => ?_) AllReadyH.nil
                go_simp
                refine (AheadR_any r s pa na ca pe ne ce r' s' pa' na' ca' pe' ne' ce' c' _ (HN'.out.below hS0)).mono ?_
                rintro e w' ⟨rfl, hb⟩
                rw [show ahdB (r, s) c' = false from HA.out]
                refine hK.out _ _ ?hs244 (fun hS1 => ?_)
                case hs244 => exact bel_next hS0 hb
                clear hK K hb
                try simp only [Act.put, List.setIfInBounds_toArray, List.set_cons_zero, List.set_cons_succ]
                refine takeInH 9 48 ?v245 rfl rfl (by kernel_rfl) (by kernel_rfl) (by kernel_rfl) (fun _ _ _ h => h) (by kernel_rfl) hS1 ?hy245 ?_
                case hy245 => (intro W hW; clear hW; go_simp; try rfl)
                simp only [Act.put, List.setIfInBounds_toArray, List.set_cons_zero, List.set_cons_succ]
                refine takeNoH 10 49 rfl rfl (by kernel_rfl) (by kernel_rfl) (by kernel_rfl) (fun _ _ _ h => h) (by kernel_rfl) hS1 ?_
                simp only [Act.put, List.setIfInBounds_toArray, List.set_cons_zero, List.set_cons_succ]
                refine takeNoH 11 50 rfl rfl (by kernel_rfl) (by kernel_rfl) (by kernel_rfl) (fun _ _ _ h => h) (by kernel_rfl) hS1 ?_
                simp only [Act.put, List.setIfInBounds_toArray, List.set_cons_zero, List.set_cons_succ]
                refine takeNoH 12 51 rfl rfl (by kernel_rfl) (by kernel_rfl) (by kernel_rfl) (fun _ _ _ h => h) (by kernel_rfl) hS1 ?_
                simp only [Act.put, List.setIfInBounds_toArray, List.set_cons_zero, List.set_cons_succ]
                refine takeNoH 13 52 rfl rfl (by kernel_rfl) (by kernel_rfl) (by kernel_rfl) (fun _ _ _ h => h) (by kernel_rfl) hS1 ?_
                simp only [Act.put, List.setIfInBounds_toArray, List.set_cons_zero, List.set_cons_succ]
                refine takeNoH 14 53 rfl rfl (by kernel_rfl) (by kernel_rfl) (by kernel_rfl) (fun _ _ _ h => h) (by kernel_rfl) hS1 ?_
                simp only [Act.put, List.setIfInBounds_toArray, List.set_cons_zero, List.set_cons_succ]
                refine takeInH 15 54 ?v246 rfl rfl (by kernel_rfl) (by kernel_rfl) (by kernel_rfl) (fun _ _ _ h => h) (by kernel_rfl) hS1 ?hy246 ?_
                case hy246 => (intro W hW; clear hW; go_simp; try rfl)
                simp only [Act.put, List.setIfInBounds_toArray, List.set_cons_zero, List.set_cons_succ]
                refine takeInH 16 55 ?v247 rfl rfl (by kernel_rfl) (by kernel_rfl) (by kernel_rfl) (fun _ _ _ h => h) (by kernel_rfl) hS1 ?hy247 ?_
                case hy247 => (intro W hW; clear hW; go_simp; try rfl)
                simp only [Act.put, List.setIfInBounds_toArray, List.set_cons_zero, List.set_cons_succ]
                refine takeNoH 17 56 rfl rfl (by kernel_rfl) (by kernel_rfl) (by kernel_rfl) (fun _ _ _ h => h) (by kernel_rfl) hS1 ?_
                simp only [Act.put, List.setIfInBounds_toArray, List.set_cons_zero, List.set_cons_succ]
                refine takeNoH 18 57 rfl rfl (by kernel_rfl) (by kernel_rfl) (by kernel_rfl) (fun _ _ _ h => h) (by kernel_rfl) hS1 ?_
                simp only [Act.put, List.setIfInBounds_toArray, List.set_cons_zero, List.set_cons_succ]
                refine takeNoH 19 58 rfl rfl (by kernel_rfl) (by kernel_rfl) (by kernel_rfl) (fun _ _ _ h => h) (by kernel_rfl) hS1 ?_
                simp only [Act.put, List.setIfInBounds_toArray, List.set_cons_zero, List.set_cons_succ]
                refine takeNoH 20 59 rfl rfl (by kernel_rfl) (by kernel_rfl) (by kernel_rfl) (fun _ _ _ h => h) (by kernel_rfl) hS1 ?_
                simp only [Act.put, List.setIfInBounds_toArray, List.set_cons_zero, List.set_cons_succ]
                refine takeNoH 21 60 rfl rfl (by kernel_rfl) (by kernel_rfl) (by kernel_rfl) (fun _ _ _ h => h) (by kernel_rfl) hS1 ?_
                simp only [Act.put, List.setIfInBounds_toArray, List.set_cons_zero, List.set_cons_succ]
                refine takeNoH 22 61 rfl rfl (by kernel_rfl) (by kernel_rfl) (by kernel_rfl) (fun _ _ _ h => h) (by kernel_rfl) hS1 ?_
                simp only [Act.put, List.setIfInBounds_toArray, List.set_cons_zero, List.set_cons_succ]
                refine takeNoH 23 62 rfl rfl (by kernel_rfl) (by kernel_rfl) (by kernel_rfl) (fun _ _ _ h => h) (by kernel_rfl) hS1 ?_
                simp only [Act.put, List.setIfInBounds_toArray, List.set_cons_zero, List.set_cons_succ]
                refine takeNoH 24 63 rfl rfl (by kernel_rfl) (by kernel_rfl) (by kernel_rfl) (fun _ _ _ h => h) (by kernel_rfl) hS1 ?_
                simp only [Act.put, List.setIfInBounds_toArray, List.set_cons_zero, List.set_cons_succ]
                refine takeInH 25 64 ?v248 rfl rfl (by kernel_rfl) (by kernel_rfl) (by kernel_rfl) (fun _ _ _ h => h) (by kernel_rfl) hS1 ?hy248 ?_
                case hy248 => (intro W hW; clear hW; go_simp; try rfl)
                simp only [Act.put, List.setIfInBounds_toArray, List.set_cons_zero, List.set_cons_succ]
                refine wpAnyH_done (by kernel_rfl) ?_ _
                go_wp2
                go_roundw
                case rel => exact ⟨j + 1, lv, by omega, by go_num, rfl, HF2, (show Hid _ from bel_next HB2.out hS1)⟩
                case measure => simp [intOf]; omega
              · have HA := hide ha
                rcases h1 : standsB l o k ((r', s'), c', l') with _ | _
                · have H1 := hide h1
                  have HF2 := hide (lv9_step HJ.out HF.out (.inr (.inl h1)))
                  clear ha h1
                  go_upto_region 9 with fail
                  refine wp_region_held_drew (S := fun W => Below wr.heap.size wr W) (by kernel_rfl) ((Below.refl _ wr).drew) (fun hS0 => ?_)
                  refine takeInH 0 39 ?v249 rfl rfl (by kernel_rfl) (by kernel_rfl) (by kernel_rfl) (fun _ _ _ h => h) (by kernel_rfl) hS0 ?hy249 ?_
                  case hy249 => (intro W hW; clear hW; go_simp; try rfl)
                  simp only [Act.put, List.setIfInBounds_toArray, List.set_cons_zero, List.set_cons_succ]
                  refine takeInH 1 40 ?v250 rfl rfl (by kernel_rfl) (by kernel_rfl) (by kernel_rfl) (fun _ _ _ h => h) (by kernel_rfl) hS0 ?hy250 ?_
                  case hy250 => (intro W hW; clear hW; go_simp; try rfl)
                  simp only [Act.put, List.setIfInBounds_toArray, List.set_cons_zero, List.set_cons_succ]
                  refine takeInH 2 41 ?v251 rfl rfl (by kernel_rfl) (by kernel_rfl) (by kernel_rfl) (fun _ _ _ h => h) (by kernel_rfl) hS0 ?hy251 ?_
                  case hy251 => (intro W hW; clear hW; go_simp; try rfl)
                  simp only [Act.put, List.setIfInBounds_toArray, List.set_cons_zero, List.set_cons_succ]
                  refine takeInH 3 42 ?v252 rfl rfl (by kernel_rfl) (by kernel_rfl) (by kernel_rfl) (fun _ _ _ h => h) (by kernel_rfl) hS0 ?hy252 ?_
                  case hy252 => (intro W hW; have e0 := bcell hW c0; have e1 := bcell hW c1; have e2 := bcell hW c2; have e3 := bcell hW c3; have e4 := bcell hW d0; have e5 := bcell hW d1; have e6 := bcell hW d2; have e7 := bcell hW d3; clear hW; go_simp; try rfl)
                  simp only [Act.put, List.setIfInBounds_toArray, List.set_cons_zero, List.set_cons_succ]
                  refine takeInH 4 43 ?v253 rfl rfl (by kernel_rfl) (by kernel_rfl) (by kernel_rfl) (fun _ _ _ h => h) (by kernel_rfl) hS0 ?hy253 ?_
                  case hy253 => (intro W hW; clear hW; go_simp; try rfl)
                  simp only [Act.put, List.setIfInBounds_toArray, List.set_cons_zero, List.set_cons_succ]
                  refine takeInH 5 44 ?v254 rfl rfl (by kernel_rfl) (by kernel_rfl) (by kernel_rfl) (fun _ _ _ h => h) (by kernel_rfl) hS0 ?hy254 ?_
                  case hy254 => (intro W hW; clear hW; go_simp; try rfl)
                  simp only [Act.put, List.setIfInBounds_toArray, List.set_cons_zero, List.set_cons_succ]
                  refine takeInH 6 45 ?v255 rfl rfl (by kernel_rfl) (by kernel_rfl) (by kernel_rfl) (fun _ _ _ h => h) (by kernel_rfl) hS0 ?hy255 ?_
                  case hy255 => (intro W hW; clear hW; go_simp; try rfl)
                  simp only [Act.put, List.setIfInBounds_toArray, List.set_cons_zero, List.set_cons_succ]
                  refine takeInH 7 46 ?v256 rfl rfl (by kernel_rfl) (by kernel_rfl) (by kernel_rfl) (fun _ _ _ h => h) (by kernel_rfl) hS0 ?hy256 ?_
                  case hy256 => (intro W hW; have e0 := bcell hW c0; have e1 := bcell hW c1; have e2 := bcell hW c2; have e3 := bcell hW c3; have e4 := bcell hW d0; have e5 := bcell hW d1; have e6 := bcell hW d2; have e7 := bcell hW d3; clear hW; go_simp; try rfl)
                  simp only [Act.put, List.setIfInBounds_toArray, List.set_cons_zero, List.set_cons_succ]
                  refine wpAnyH_ready (rs := [8]) (by kernel_rfl) (by simp) ?_
                  refine AllReadyH.cons rfl (fun K hK => ?_) AllReadyH.nil
                  go_simp
                  refine (AheadR_any r s pa na ca pe ne ce r' s' pa' na' ca' pe' ne' ce' c' _ (HN'.out.below hS0)).mono ?_
                  rintro e w' ⟨rfl, hb⟩
                  rw [show ahdB (r, s) c' = true from HA.out]
                  refine hK.out _ _ ?hs257 (fun hS1 => ?_)
                  case hs257 => exact bel_next hS0 hb
                  clear hK K hb
                  try simp only [Act.put, List.setIfInBounds_toArray, List.set_cons_zero, List.set_cons_succ]
                  refine takeInH 9 48 ?v258 rfl rfl (by kernel_rfl) (by kernel_rfl) (by kernel_rfl) (fun _ _ _ h => h) (by kernel_rfl) hS1 ?hy258 ?_
                  case hy258 => (intro W hW; clear hW; go_simp; try rfl)
                  simp only [Act.put, List.setIfInBounds_toArray, List.set_cons_zero, List.set_cons_succ]
                  refine takeInH 10 49 ?v259 rfl rfl (by kernel_rfl) (by kernel_rfl) (by kernel_rfl) (fun _ _ _ h => h) (by kernel_rfl) hS1 ?hy259 ?_
                  case hy259 => (intro W hW; clear hW; go_simp; try rfl)
                  simp only [Act.put, List.setIfInBounds_toArray, List.set_cons_zero, List.set_cons_succ]
                  refine takeInH 11 50 ?v260 rfl rfl (by kernel_rfl) (by kernel_rfl) (by kernel_rfl) (fun _ _ _ h => h) (by kernel_rfl) hS1 ?hy260 ?_
                  case hy260 => (intro W hW; clear hW; go_simp; try rfl)
                  simp only [Act.put, List.setIfInBounds_toArray, List.set_cons_zero, List.set_cons_succ]
                  refine takeInH 12 51 ?v261 rfl rfl (by kernel_rfl) (by kernel_rfl) (by kernel_rfl) (fun _ _ _ h => h) (by kernel_rfl) hS1 ?hy261 ?_
                  case hy261 => (intro W hW; clear hW; go_simp; try rfl)
                  simp only [Act.put, List.setIfInBounds_toArray, List.set_cons_zero, List.set_cons_succ]
                  refine takeInH 13 52 ?v262 rfl rfl (by kernel_rfl) (by kernel_rfl) (by kernel_rfl) (fun _ _ _ h => h) (by kernel_rfl) hS1 ?hy262 ?_
                  case hy262 => (intro W hW; clear hW; go_simp; try rfl)
                  simp only [Act.put, List.setIfInBounds_toArray, List.set_cons_zero, List.set_cons_succ]
                  refine wpAnyH_ready (rs := [14]) (by kernel_rfl) (by simp) ?_
                  refine AllReadyH.cons rfl (fun K hK => ?_) AllReadyH.nil
                  go_simp
                  refine (stands_any (some ⟨b, off, none⟩) n cap l j o k _ (HV.out.below (bel_next HBA.out hS1)) hn HND.out _ HJ.out).mono ?_
                  rintro e w' ⟨rfl, hb⟩
                  rw [show standsB l o k ((r', s'), c', l') = false from H1.out]
                  refine hK.out _ _ ?hs263 (fun hS2 => ?_)
                  case hs263 => exact bel_next hS1 hb
                  clear hK K hb
                  try simp only [Act.put, List.setIfInBounds_toArray, List.set_cons_zero, List.set_cons_succ]
                  refine takeInH 15 54 ?v264 rfl rfl (by kernel_rfl) (by kernel_rfl) (by kernel_rfl) (fun _ _ _ h => h) (by kernel_rfl) hS2 ?hy264 ?_
                  case hy264 => (intro W hW; clear hW; go_simp; try rfl)
                  simp only [Act.put, List.setIfInBounds_toArray, List.set_cons_zero, List.set_cons_succ]
                  refine takeInH 16 55 ?v265 rfl rfl (by kernel_rfl) (by kernel_rfl) (by kernel_rfl) (fun _ _ _ h => h) (by kernel_rfl) hS2 ?hy265 ?_
                  case hy265 => (intro W hW; clear hW; go_simp; try rfl)
                  simp only [Act.put, List.setIfInBounds_toArray, List.set_cons_zero, List.set_cons_succ]
                  refine takeNoH 17 56 rfl rfl (by kernel_rfl) (by kernel_rfl) (by kernel_rfl) (fun _ _ _ h => h) (by kernel_rfl) hS2 ?_
                  simp only [Act.put, List.setIfInBounds_toArray, List.set_cons_zero, List.set_cons_succ]
                  refine takeNoH 18 57 rfl rfl (by kernel_rfl) (by kernel_rfl) (by kernel_rfl) (fun _ _ _ h => h) (by kernel_rfl) hS2 ?_
                  simp only [Act.put, List.setIfInBounds_toArray, List.set_cons_zero, List.set_cons_succ]
                  refine takeNoH 19 58 rfl rfl (by kernel_rfl) (by kernel_rfl) (by kernel_rfl) (fun _ _ _ h => h) (by kernel_rfl) hS2 ?_
                  simp only [Act.put, List.setIfInBounds_toArray, List.set_cons_zero, List.set_cons_succ]
                  refine takeNoH 20 59 rfl rfl (by kernel_rfl) (by kernel_rfl) (by kernel_rfl) (fun _ _ _ h => h) (by kernel_rfl) hS2 ?_
                  simp only [Act.put, List.setIfInBounds_toArray, List.set_cons_zero, List.set_cons_succ]
                  refine takeNoH 21 60 rfl rfl (by kernel_rfl) (by kernel_rfl) (by kernel_rfl) (fun _ _ _ h => h) (by kernel_rfl) hS2 ?_
                  simp only [Act.put, List.setIfInBounds_toArray, List.set_cons_zero, List.set_cons_succ]
                  refine takeNoH 22 61 rfl rfl (by kernel_rfl) (by kernel_rfl) (by kernel_rfl) (fun _ _ _ h => h) (by kernel_rfl) hS2 ?_
                  simp only [Act.put, List.setIfInBounds_toArray, List.set_cons_zero, List.set_cons_succ]
                  refine takeNoH 23 62 rfl rfl (by kernel_rfl) (by kernel_rfl) (by kernel_rfl) (fun _ _ _ h => h) (by kernel_rfl) hS2 ?_
                  simp only [Act.put, List.setIfInBounds_toArray, List.set_cons_zero, List.set_cons_succ]
                  refine takeNoH 24 63 rfl rfl (by kernel_rfl) (by kernel_rfl) (by kernel_rfl) (fun _ _ _ h => h) (by kernel_rfl) hS2 ?_
                  simp only [Act.put, List.setIfInBounds_toArray, List.set_cons_zero, List.set_cons_succ]
                  refine takeInH 25 64 ?v266 rfl rfl (by kernel_rfl) (by kernel_rfl) (by kernel_rfl) (fun _ _ _ h => h) (by kernel_rfl) hS2 ?hy266 ?_
                  case hy266 => (intro W hW; clear hW; go_simp; try rfl)
                  simp only [Act.put, List.setIfInBounds_toArray, List.set_cons_zero, List.set_cons_succ]
                  refine wpAnyH_done (by kernel_rfl) ?_ _
                  go_wp2
                  go_roundw
                  case rel => exact ⟨j + 1, lv, by omega, by go_num, rfl, HF2, (show Hid _ from bel_next HB2.out hS2)⟩
                  case measure => simp [intOf]; omega
                · have H1 := hide h1
                  rcases h2 : doesB ((r', s'), c', l') 2 o k with _ | _
                  · have H2 := hide h2
                    have HF2 := hide (lv9_stop (b := true) (e := ((r, s), c, le)) (o := o) (k := k) HJ.out ha h1 h2)
                    clear ha h1 h2
                    go_upto_region 9 with fail
                    refine wp_region_held_drew (S := fun W => Below wr.heap.size wr W) (by kernel_rfl) ((Below.refl _ wr).drew) (fun hS0 => ?_)
                    refine takeInH 0 39 ?v267 rfl rfl (by kernel_rfl) (by kernel_rfl) (by kernel_rfl) (fun _ _ _ h => h) (by kernel_rfl) hS0 ?hy267 ?_
                    case hy267 => (intro W hW; clear hW; go_simp; try rfl)
                    simp only [Act.put, List.setIfInBounds_toArray, List.set_cons_zero, List.set_cons_succ]
                    refine takeInH 1 40 ?v268 rfl rfl (by kernel_rfl) (by kernel_rfl) (by kernel_rfl) (fun _ _ _ h => h) (by kernel_rfl) hS0 ?hy268 ?_
                    case hy268 => (intro W hW; clear hW; go_simp; try rfl)
                    simp only [Act.put, List.setIfInBounds_toArray, List.set_cons_zero, List.set_cons_succ]
                    refine takeInH 2 41 ?v269 rfl rfl (by kernel_rfl) (by kernel_rfl) (by kernel_rfl) (fun _ _ _ h => h) (by kernel_rfl) hS0 ?hy269 ?_
                    case hy269 => (intro W hW; clear hW; go_simp; try rfl)
                    simp only [Act.put, List.setIfInBounds_toArray, List.set_cons_zero, List.set_cons_succ]
                    refine takeInH 3 42 ?v270 rfl rfl (by kernel_rfl) (by kernel_rfl) (by kernel_rfl) (fun _ _ _ h => h) (by kernel_rfl) hS0 ?hy270 ?_
                    case hy270 => (intro W hW; have e0 := bcell hW c0; have e1 := bcell hW c1; have e2 := bcell hW c2; have e3 := bcell hW c3; have e4 := bcell hW d0; have e5 := bcell hW d1; have e6 := bcell hW d2; have e7 := bcell hW d3; clear hW; go_simp; try rfl)
                    simp only [Act.put, List.setIfInBounds_toArray, List.set_cons_zero, List.set_cons_succ]
                    refine takeInH 4 43 ?v271 rfl rfl (by kernel_rfl) (by kernel_rfl) (by kernel_rfl) (fun _ _ _ h => h) (by kernel_rfl) hS0 ?hy271 ?_
                    case hy271 => (intro W hW; clear hW; go_simp; try rfl)
                    simp only [Act.put, List.setIfInBounds_toArray, List.set_cons_zero, List.set_cons_succ]
                    refine takeInH 5 44 ?v272 rfl rfl (by kernel_rfl) (by kernel_rfl) (by kernel_rfl) (fun _ _ _ h => h) (by kernel_rfl) hS0 ?hy272 ?_
                    case hy272 => (intro W hW; clear hW; go_simp; try rfl)
                    simp only [Act.put, List.setIfInBounds_toArray, List.set_cons_zero, List.set_cons_succ]
                    refine takeInH 6 45 ?v273 rfl rfl (by kernel_rfl) (by kernel_rfl) (by kernel_rfl) (fun _ _ _ h => h) (by kernel_rfl) hS0 ?hy273 ?_
                    case hy273 => (intro W hW; clear hW; go_simp; try rfl)
                    simp only [Act.put, List.setIfInBounds_toArray, List.set_cons_zero, List.set_cons_succ]
                    refine takeInH 7 46 ?v274 rfl rfl (by kernel_rfl) (by kernel_rfl) (by kernel_rfl) (fun _ _ _ h => h) (by kernel_rfl) hS0 ?hy274 ?_
                    case hy274 => (intro W hW; have e0 := bcell hW c0; have e1 := bcell hW c1; have e2 := bcell hW c2; have e3 := bcell hW c3; have e4 := bcell hW d0; have e5 := bcell hW d1; have e6 := bcell hW d2; have e7 := bcell hW d3; clear hW; go_simp; try rfl)
                    simp only [Act.put, List.setIfInBounds_toArray, List.set_cons_zero, List.set_cons_succ]
                    refine wpAnyH_ready (rs := [8]) (by kernel_rfl) (by simp) ?_
                    refine AllReadyH.cons rfl (fun K hK => ?_) AllReadyH.nil
                    go_simp
                    refine (AheadR_any r s pa na ca pe ne ce r' s' pa' na' ca' pe' ne' ce' c' _ (HN'.out.below hS0)).mono ?_
                    rintro e w' ⟨rfl, hb⟩
                    rw [show ahdB (r, s) c' = true from HA.out]
                    refine hK.out _ _ ?hs275 (fun hS1 => ?_)
                    case hs275 => exact bel_next hS0 hb
                    clear hK K hb
                    try simp only [Act.put, List.setIfInBounds_toArray, List.set_cons_zero, List.set_cons_succ]
                    refine takeInH 9 48 ?v276 rfl rfl (by kernel_rfl) (by kernel_rfl) (by kernel_rfl) (fun _ _ _ h => h) (by kernel_rfl) hS1 ?hy276 ?_
                    case hy276 => (intro W hW; clear hW; go_simp; try rfl)
                    simp only [Act.put, List.setIfInBounds_toArray, List.set_cons_zero, List.set_cons_succ]
                    refine takeInH 10 49 ?v277 rfl rfl (by kernel_rfl) (by kernel_rfl) (by kernel_rfl) (fun _ _ _ h => h) (by kernel_rfl) hS1 ?hy277 ?_
                    case hy277 => (intro W hW; clear hW; go_simp; try rfl)
                    simp only [Act.put, List.setIfInBounds_toArray, List.set_cons_zero, List.set_cons_succ]
                    refine takeInH 11 50 ?v278 rfl rfl (by kernel_rfl) (by kernel_rfl) (by kernel_rfl) (fun _ _ _ h => h) (by kernel_rfl) hS1 ?hy278 ?_
                    case hy278 => (intro W hW; clear hW; go_simp; try rfl)
                    simp only [Act.put, List.setIfInBounds_toArray, List.set_cons_zero, List.set_cons_succ]
                    refine takeInH 12 51 ?v279 rfl rfl (by kernel_rfl) (by kernel_rfl) (by kernel_rfl) (fun _ _ _ h => h) (by kernel_rfl) hS1 ?hy279 ?_
                    case hy279 => (intro W hW; clear hW; go_simp; try rfl)
                    simp only [Act.put, List.setIfInBounds_toArray, List.set_cons_zero, List.set_cons_succ]
                    refine takeInH 13 52 ?v280 rfl rfl (by kernel_rfl) (by kernel_rfl) (by kernel_rfl) (fun _ _ _ h => h) (by kernel_rfl) hS1 ?hy280 ?_
                    case hy280 => (intro W hW; clear hW; go_simp; try rfl)
                    simp only [Act.put, List.setIfInBounds_toArray, List.set_cons_zero, List.set_cons_succ]
                    refine wpAnyH_ready (rs := [14]) (by kernel_rfl) (by simp) ?_
                    refine AllReadyH.cons rfl (fun K hK => ?_) AllReadyH.nil
                    go_simp
                    refine (stands_any (some ⟨b, off, none⟩) n cap l j o k _ (HV.out.below (bel_next HBA.out hS1)) hn HND.out _ HJ.out).mono ?_
                    rintro e w' ⟨rfl, hb⟩
                    rw [show standsB l o k ((r', s'), c', l') = true from H1.out]
                    refine hK.out _ _ ?hs281 (fun hS2 => ?_)
                    case hs281 => exact bel_next hS1 hb
                    clear hK K hb
                    try simp only [Act.put, List.setIfInBounds_toArray, List.set_cons_zero, List.set_cons_succ]
                    refine takeInH 15 54 ?v282 rfl rfl (by kernel_rfl) (by kernel_rfl) (by kernel_rfl) (fun _ _ _ h => h) (by kernel_rfl) hS2 ?hy282 ?_
                    case hy282 => (intro W hW; clear hW; go_simp; try rfl)
                    simp only [Act.put, List.setIfInBounds_toArray, List.set_cons_zero, List.set_cons_succ]
                    refine takeInH 16 55 ?v283 rfl rfl (by kernel_rfl) (by kernel_rfl) (by kernel_rfl) (fun _ _ _ h => h) (by kernel_rfl) hS2 ?hy283 ?_
                    case hy283 => (intro W hW; clear hW; go_simp; try rfl)
                    simp only [Act.put, List.setIfInBounds_toArray, List.set_cons_zero, List.set_cons_succ]
                    refine takeInH 17 56 ?v284 rfl rfl (by kernel_rfl) (by kernel_rfl) (by kernel_rfl) (fun _ _ _ h => h) (by kernel_rfl) hS2 ?hy284 ?_
                    case hy284 => (intro W hW; clear hW; go_simp; try rfl)
                    simp only [Act.put, List.setIfInBounds_toArray, List.set_cons_zero, List.set_cons_succ]
                    refine takeInH 18 57 ?v285 rfl rfl (by kernel_rfl) (by kernel_rfl) (by kernel_rfl) (fun _ _ _ h => h) (by kernel_rfl) hS2 ?hy285 ?_
                    case hy285 => (intro W hW; clear hW; go_simp; try rfl)
                    simp only [Act.put, List.setIfInBounds_toArray, List.set_cons_zero, List.set_cons_succ]
                    refine takeInH 19 58 ?v286 rfl rfl (by kernel_rfl) (by kernel_rfl) (by kernel_rfl) (fun _ _ _ h => h) (by kernel_rfl) hS2 ?hy286 ?_
                    case hy286 => (intro W hW; clear hW; go_simp; try rfl)
                    simp only [Act.put, List.setIfInBounds_toArray, List.set_cons_zero, List.set_cons_succ]
                    refine takeInH 20 59 ?v287 rfl rfl (by kernel_rfl) (by kernel_rfl) (by kernel_rfl) (fun _ _ _ h => h) (by kernel_rfl) hS2 ?hy287 ?_
                    case hy287 => (intro W hW; have e0 := bcell hW c0; have e1 := bcell hW c1; have e2 := bcell hW c2; have e3 := bcell hW c3; have e4 := bcell hW d0; have e5 := bcell hW d1; have e6 := bcell hW d2; have e7 := bcell hW d3; clear hW; go_simp; try rfl)
                    simp only [Act.put, List.setIfInBounds_toArray, List.set_cons_zero, List.set_cons_succ]
                    refine takeInH 21 60 ?v288 rfl rfl (by kernel_rfl) (by kernel_rfl) (by kernel_rfl) (fun _ _ _ h => h) (by kernel_rfl) hS2 ?hy288 ?_
                    case hy288 => (intro W hW; clear hW; go_simp; try rfl)
                    simp only [Act.put, List.setIfInBounds_toArray, List.set_cons_zero, List.set_cons_succ]
                    refine takeInH 22 61 ?v289 rfl rfl (by kernel_rfl) (by kernel_rfl) (by kernel_rfl) (fun _ _ _ h => h) (by kernel_rfl) hS2 ?hy289 ?_
                    case hy289 => (intro W hW; clear hW; go_simp; try rfl)
                    simp only [Act.put, List.setIfInBounds_toArray, List.set_cons_zero, List.set_cons_succ]
                    refine wpAnyH_ready (rs := [23]) (by kernel_rfl) (by simp) ?_
                    refine AllReadyH.cons rfl (fun K hK => ?_) AllReadyH.nil
                    go_simp
                    refine (Does_any r' s' pa' na' ca' pe' ne' ce' c' l' 2 o k _ (HE'.out.below hS2)).mono ?_
                    rintro e w' ⟨rfl, hb⟩
                    rw [show doesB ((r', s'), c', l') 2 o k = false from H2.out]
                    refine hK.out _ _ ?hs290 (fun hS3 => ?_)
                    case hs290 => exact bel_next hS2 hb
                    clear hK K hb
                    try simp only [Act.put, List.setIfInBounds_toArray, List.set_cons_zero, List.set_cons_succ]
                    refine takeInH 24 63 ?v291 rfl rfl (by kernel_rfl) (by kernel_rfl) (by kernel_rfl) (fun _ _ _ h => h) (by kernel_rfl) hS3 ?hy291 ?_
                    case hy291 => (intro W hW; clear hW; go_simp; try rfl)
                    simp only [Act.put, List.setIfInBounds_toArray, List.set_cons_zero, List.set_cons_succ]
                    refine takeInH 25 64 ?v292 rfl rfl (by kernel_rfl) (by kernel_rfl) (by kernel_rfl) (fun _ _ _ h => h) (by kernel_rfl) hS3 ?hy292 ?_
                    case hy292 => (intro W hW; clear hW; go_simp; try rfl)
                    simp only [Act.put, List.setIfInBounds_toArray, List.set_cons_zero, List.set_cons_succ]
                    refine wpAnyH_done (by kernel_rfl) ?_ _
                    go_wp2
                    go_roundw
                    case rel => exact ⟨j + 1, false, by omega, by go_num, rfl, HF2, (show Hid _ from bel_next HB2.out hS3)⟩
                    case measure => simp [intOf]; omega
                  · have H2 := hide h2
                    have HF2 := hide (lv9_step HJ.out HF.out (.inr (.inr h2)))
                    clear ha h1 h2
                    go_upto_region 9 with fail
                    refine wp_region_held_drew (S := fun W => Below wr.heap.size wr W) (by kernel_rfl) ((Below.refl _ wr).drew) (fun hS0 => ?_)
                    refine takeInH 0 39 ?v293 rfl rfl (by kernel_rfl) (by kernel_rfl) (by kernel_rfl) (fun _ _ _ h => h) (by kernel_rfl) hS0 ?hy293 ?_
                    case hy293 => (intro W hW; clear hW; go_simp; try rfl)
                    simp only [Act.put, List.setIfInBounds_toArray, List.set_cons_zero, List.set_cons_succ]
                    refine takeInH 1 40 ?v294 rfl rfl (by kernel_rfl) (by kernel_rfl) (by kernel_rfl) (fun _ _ _ h => h) (by kernel_rfl) hS0 ?hy294 ?_
                    case hy294 => (intro W hW; clear hW; go_simp; try rfl)
                    simp only [Act.put, List.setIfInBounds_toArray, List.set_cons_zero, List.set_cons_succ]
                    refine takeInH 2 41 ?v295 rfl rfl (by kernel_rfl) (by kernel_rfl) (by kernel_rfl) (fun _ _ _ h => h) (by kernel_rfl) hS0 ?hy295 ?_
                    case hy295 => (intro W hW; clear hW; go_simp; try rfl)
                    simp only [Act.put, List.setIfInBounds_toArray, List.set_cons_zero, List.set_cons_succ]
                    refine takeInH 3 42 ?v296 rfl rfl (by kernel_rfl) (by kernel_rfl) (by kernel_rfl) (fun _ _ _ h => h) (by kernel_rfl) hS0 ?hy296 ?_
                    case hy296 => (intro W hW; have e0 := bcell hW c0; have e1 := bcell hW c1; have e2 := bcell hW c2; have e3 := bcell hW c3; have e4 := bcell hW d0; have e5 := bcell hW d1; have e6 := bcell hW d2; have e7 := bcell hW d3; clear hW; go_simp; try rfl)
                    simp only [Act.put, List.setIfInBounds_toArray, List.set_cons_zero, List.set_cons_succ]
                    refine takeInH 4 43 ?v297 rfl rfl (by kernel_rfl) (by kernel_rfl) (by kernel_rfl) (fun _ _ _ h => h) (by kernel_rfl) hS0 ?hy297 ?_
                    case hy297 => (intro W hW; clear hW; go_simp; try rfl)
                    simp only [Act.put, List.setIfInBounds_toArray, List.set_cons_zero, List.set_cons_succ]
                    refine takeInH 5 44 ?v298 rfl rfl (by kernel_rfl) (by kernel_rfl) (by kernel_rfl) (fun _ _ _ h => h) (by kernel_rfl) hS0 ?hy298 ?_
                    case hy298 => (intro W hW; clear hW; go_simp; try rfl)
                    simp only [Act.put, List.setIfInBounds_toArray, List.set_cons_zero, List.set_cons_succ]
                    refine takeInH 6 45 ?v299 rfl rfl (by kernel_rfl) (by kernel_rfl) (by kernel_rfl) (fun _ _ _ h => h) (by kernel_rfl) hS0 ?hy299 ?_
                    case hy299 => (intro W hW; clear hW; go_simp; try rfl)
                    simp only [Act.put, List.setIfInBounds_toArray, List.set_cons_zero, List.set_cons_succ]
                    refine takeInH 7 46 ?v300 rfl rfl (by kernel_rfl) (by kernel_rfl) (by kernel_rfl) (fun _ _ _ h => h) (by kernel_rfl) hS0 ?hy300 ?_
                    case hy300 => (intro W hW; have e0 := bcell hW c0; have e1 := bcell hW c1; have e2 := bcell hW c2; have e3 := bcell hW c3; have e4 := bcell hW d0; have e5 := bcell hW d1; have e6 := bcell hW d2; have e7 := bcell hW d3; clear hW; go_simp; try rfl)
                    simp only [Act.put, List.setIfInBounds_toArray, List.set_cons_zero, List.set_cons_succ]
                    refine wpAnyH_ready (rs := [8]) (by kernel_rfl) (by simp) ?_
                    refine AllReadyH.cons rfl (fun K hK => ?_) AllReadyH.nil
                    go_simp
                    refine (AheadR_any r s pa na ca pe ne ce r' s' pa' na' ca' pe' ne' ce' c' _ (HN'.out.below hS0)).mono ?_
                    rintro e w' ⟨rfl, hb⟩
                    rw [show ahdB (r, s) c' = true from HA.out]
                    refine hK.out _ _ ?hs301 (fun hS1 => ?_)
                    case hs301 => exact bel_next hS0 hb
                    clear hK K hb
                    try simp only [Act.put, List.setIfInBounds_toArray, List.set_cons_zero, List.set_cons_succ]
                    refine takeInH 9 48 ?v302 rfl rfl (by kernel_rfl) (by kernel_rfl) (by kernel_rfl) (fun _ _ _ h => h) (by kernel_rfl) hS1 ?hy302 ?_
                    case hy302 => (intro W hW; clear hW; go_simp; try rfl)
                    simp only [Act.put, List.setIfInBounds_toArray, List.set_cons_zero, List.set_cons_succ]
                    refine takeInH 10 49 ?v303 rfl rfl (by kernel_rfl) (by kernel_rfl) (by kernel_rfl) (fun _ _ _ h => h) (by kernel_rfl) hS1 ?hy303 ?_
                    case hy303 => (intro W hW; clear hW; go_simp; try rfl)
                    simp only [Act.put, List.setIfInBounds_toArray, List.set_cons_zero, List.set_cons_succ]
                    refine takeInH 11 50 ?v304 rfl rfl (by kernel_rfl) (by kernel_rfl) (by kernel_rfl) (fun _ _ _ h => h) (by kernel_rfl) hS1 ?hy304 ?_
                    case hy304 => (intro W hW; clear hW; go_simp; try rfl)
                    simp only [Act.put, List.setIfInBounds_toArray, List.set_cons_zero, List.set_cons_succ]
                    refine takeInH 12 51 ?v305 rfl rfl (by kernel_rfl) (by kernel_rfl) (by kernel_rfl) (fun _ _ _ h => h) (by kernel_rfl) hS1 ?hy305 ?_
                    case hy305 => (intro W hW; clear hW; go_simp; try rfl)
                    simp only [Act.put, List.setIfInBounds_toArray, List.set_cons_zero, List.set_cons_succ]
                    refine takeInH 13 52 ?v306 rfl rfl (by kernel_rfl) (by kernel_rfl) (by kernel_rfl) (fun _ _ _ h => h) (by kernel_rfl) hS1 ?hy306 ?_
                    case hy306 => (intro W hW; clear hW; go_simp; try rfl)
                    simp only [Act.put, List.setIfInBounds_toArray, List.set_cons_zero, List.set_cons_succ]
                    refine wpAnyH_ready (rs := [14]) (by kernel_rfl) (by simp) ?_
                    refine AllReadyH.cons rfl (fun K hK => ?_) AllReadyH.nil
                    go_simp
                    refine (stands_any (some ⟨b, off, none⟩) n cap l j o k _ (HV.out.below (bel_next HBA.out hS1)) hn HND.out _ HJ.out).mono ?_
                    rintro e w' ⟨rfl, hb⟩
                    rw [show standsB l o k ((r', s'), c', l') = true from H1.out]
                    refine hK.out _ _ ?hs307 (fun hS2 => ?_)
                    case hs307 => exact bel_next hS1 hb
                    clear hK K hb
                    try simp only [Act.put, List.setIfInBounds_toArray, List.set_cons_zero, List.set_cons_succ]
                    refine takeInH 15 54 ?v308 rfl rfl (by kernel_rfl) (by kernel_rfl) (by kernel_rfl) (fun _ _ _ h => h) (by kernel_rfl) hS2 ?hy308 ?_
                    case hy308 => (intro W hW; clear hW; go_simp; try rfl)
                    simp only [Act.put, List.setIfInBounds_toArray, List.set_cons_zero, List.set_cons_succ]
                    refine takeInH 16 55 ?v309 rfl rfl (by kernel_rfl) (by kernel_rfl) (by kernel_rfl) (fun _ _ _ h => h) (by kernel_rfl) hS2 ?hy309 ?_
                    case hy309 => (intro W hW; clear hW; go_simp; try rfl)
                    simp only [Act.put, List.setIfInBounds_toArray, List.set_cons_zero, List.set_cons_succ]
                    refine takeInH 17 56 ?v310 rfl rfl (by kernel_rfl) (by kernel_rfl) (by kernel_rfl) (fun _ _ _ h => h) (by kernel_rfl) hS2 ?hy310 ?_
                    case hy310 => (intro W hW; clear hW; go_simp; try rfl)
                    simp only [Act.put, List.setIfInBounds_toArray, List.set_cons_zero, List.set_cons_succ]
                    refine takeInH 18 57 ?v311 rfl rfl (by kernel_rfl) (by kernel_rfl) (by kernel_rfl) (fun _ _ _ h => h) (by kernel_rfl) hS2 ?hy311 ?_
                    case hy311 => (intro W hW; clear hW; go_simp; try rfl)
                    simp only [Act.put, List.setIfInBounds_toArray, List.set_cons_zero, List.set_cons_succ]
                    refine takeInH 19 58 ?v312 rfl rfl (by kernel_rfl) (by kernel_rfl) (by kernel_rfl) (fun _ _ _ h => h) (by kernel_rfl) hS2 ?hy312 ?_
                    case hy312 => (intro W hW; clear hW; go_simp; try rfl)
                    simp only [Act.put, List.setIfInBounds_toArray, List.set_cons_zero, List.set_cons_succ]
                    refine takeInH 20 59 ?v313 rfl rfl (by kernel_rfl) (by kernel_rfl) (by kernel_rfl) (fun _ _ _ h => h) (by kernel_rfl) hS2 ?hy313 ?_
                    case hy313 => (intro W hW; have e0 := bcell hW c0; have e1 := bcell hW c1; have e2 := bcell hW c2; have e3 := bcell hW c3; have e4 := bcell hW d0; have e5 := bcell hW d1; have e6 := bcell hW d2; have e7 := bcell hW d3; clear hW; go_simp; try rfl)
                    simp only [Act.put, List.setIfInBounds_toArray, List.set_cons_zero, List.set_cons_succ]
                    refine takeInH 21 60 ?v314 rfl rfl (by kernel_rfl) (by kernel_rfl) (by kernel_rfl) (fun _ _ _ h => h) (by kernel_rfl) hS2 ?hy314 ?_
                    case hy314 => (intro W hW; clear hW; go_simp; try rfl)
                    simp only [Act.put, List.setIfInBounds_toArray, List.set_cons_zero, List.set_cons_succ]
                    refine takeInH 22 61 ?v315 rfl rfl (by kernel_rfl) (by kernel_rfl) (by kernel_rfl) (fun _ _ _ h => h) (by kernel_rfl) hS2 ?hy315 ?_
                    case hy315 => (intro W hW; clear hW; go_simp; try rfl)
                    simp only [Act.put, List.setIfInBounds_toArray, List.set_cons_zero, List.set_cons_succ]
                    refine wpAnyH_ready (rs := [23]) (by kernel_rfl) (by simp) ?_
                    refine AllReadyH.cons rfl (fun K hK => ?_) AllReadyH.nil
                    go_simp
                    refine (Does_any r' s' pa' na' ca' pe' ne' ce' c' l' 2 o k _ (HE'.out.below hS2)).mono ?_
                    rintro e w' ⟨rfl, hb⟩
                    rw [show doesB ((r', s'), c', l') 2 o k = true from H2.out]
                    refine hK.out _ _ ?hs316 (fun hS3 => ?_)
                    case hs316 => exact bel_next hS2 hb
                    clear hK K hb
                    try simp only [Act.put, List.setIfInBounds_toArray, List.set_cons_zero, List.set_cons_succ]
                    refine takeInH 24 63 ?v317 rfl rfl (by kernel_rfl) (by kernel_rfl) (by kernel_rfl) (fun _ _ _ h => h) (by kernel_rfl) hS3 ?hy317 ?_
                    case hy317 => (intro W hW; clear hW; go_simp; try rfl)
                    simp only [Act.put, List.setIfInBounds_toArray, List.set_cons_zero, List.set_cons_succ]
                    refine takeInH 25 64 ?v318 rfl rfl (by kernel_rfl) (by kernel_rfl) (by kernel_rfl) (fun _ _ _ h => h) (by kernel_rfl) hS3 ?hy318 ?_
                    case hy318 => (intro W hW; clear hW; go_simp; try rfl)
                    simp only [Act.put, List.setIfInBounds_toArray, List.set_cons_zero, List.set_cons_succ]
                    refine wpAnyH_done (by kernel_rfl) ?_ _
                    go_wp2
                    go_roundw
                    case rel => exact ⟨j + 1, lv, by omega, by go_num, rfl, HF2, (show Hid _ from bel_next HB2.out hS3)⟩
                    case measure => simp [intOf]; omega
            · obtain rfl : j = n := by omega
              have HFL : Hid (live9B l o k ((r, s), c, le) = lv) := by
                have q := HF.out
                rw [← HLEN.out, List.take_length] at q
                rw [q]
                unfold Hid live9B
                rw [HB0.out]
              clear HF
              cases lv
              · have HU := hide (lvU9_no HX.out HFL.out)
                replace HO := hide (HO.out.below HB2.out)
                rw [← HU.out] at HO
                go_wp2
                go_roundw
                case rel => exact ⟨i + 1, by omega, by go_num, HO, HBA⟩
                case measure => simp [intOf]; omega
              · have HU := hide (lvU9_yes HX.out HFL.out)
                have HLU := hide (lvU9_len l o k i)
                replace HO := hide (HO.out.below HB2.out)
                go_wp2_with (go_at_call 41; refine (PutR_any _ _ (lvU9 l o k i) (r, s) _ HO.out HBA.out.size (by have := HLU.out; rw [HLEN.out] at this; omega)).mono ?_; rintro e w3 ⟨v3, rfl, ho3, hb3⟩)
                have HO3 := hide ho3
                rw [← show lvU9 l o k (i + 1) = putD (lvU9 l o k i) (r, s) from HU.out] at HO3
                go_roundw
                case rel => exact ⟨i + 1, by omega, by go_num, HO3, (show Hid _ from bel_next HBA.out hb3)⟩
                case measure => simp [intOf]; omega
        · obtain rfl : b0 = false := hb0.symm
          clear hb0
          go_wp2_with (first | (go_at_call 52; refine HST.out.mono ?_; rintro e w0 ⟨rfl, hb⟩; replace HO := hide (HO.out.below hb); replace HB := hide (bel_next HB.out hb); replace c0 := bcell hb c0; replace c1 := bcell hb c1; replace c2 := bcell hb c2; replace c3 := bcell hb c3; clear hb HST) | (go_at_call 50; refine (HDO.out _ (HE.out.below HB.out)).mono ?_; rintro e w1 ⟨rfl, hb⟩; replace HO := hide (HO.out.below hb); replace HB := hide (bel_next HB.out hb); clear hb c0 c1 c2 c3 HDO))
          go_loopw [9, 10] (fun vl v wr2 => ∃ (j : Nat) (lv : Bool), j ≤ n ∧ v = .int .i64 j ∧ vl = .bool lv ∧ Hid (lv = (false && !((l.take j).any fun f => ahE ((r, s), c, le) f && standsB l o k f && !(doesB f 2 o k)))) ∧ Hid (Below w1.heap.size w1 wr2)) (fun _ v _ => n - (intOf v).toNat)
          case atStart => exact ⟨0, false, by omega, rfl, rfl, (show false = _ by simp), Below.refl _ _⟩
          case round =>
            obtain ⟨j, lv, hj, rfl, rfl, HF, HB2⟩ := hrel
            have HBA := hide (bel_next HB.out HB2.out)
            have c0 := bcell HBA.out C0.out
            have c1 := bcell HBA.out C1.out
            have c2 := bcell HBA.out C2.out
            have c3 := bcell HBA.out C3.out
            by_cases hjn : j < n
            · obtain ⟨r', s', pa', na', ca', pe', ne', ce', c', l', hj', d0, d1, d2, d3, hN', _, hE', _⟩ := (HV.out.below HBA.out).at j hjn
              have HJ := hide hj'
              have HN' := hide hN'
              have HE' := hide hE'
              have hj0 : (0 : Int) ≤ (j : Int) := by omega
              have hj1 : (j : Int) < (n : Int) := by omega
              clear hj' hN' hE'
              rcases ha : ahdB (r, s) c' with _ | _
              · have HA := hide ha
                have HF2 := hide (lv9_step HJ.out HF.out (.inl ha))
                clear ha
                go_upto_region 9 with fail
                refine wp_region_held_drew (S := fun W => Below wr.heap.size wr W) (by kernel_rfl) ((Below.refl _ wr).drew) (fun hS0 => ?_)
                refine takeInH 0 39 ?v319 rfl rfl (by kernel_rfl) (by kernel_rfl) (by kernel_rfl) (fun _ _ _ h => h) (by kernel_rfl) hS0 ?hy319 ?_
                case hy319 => (intro W hW; clear hW; go_simp; try rfl)
                simp only [Act.put, List.setIfInBounds_toArray, List.set_cons_zero, List.set_cons_succ]
                refine takeInH 1 40 ?v320 rfl rfl (by kernel_rfl) (by kernel_rfl) (by kernel_rfl) (fun _ _ _ h => h) (by kernel_rfl) hS0 ?hy320 ?_
                case hy320 => (intro W hW; clear hW; go_simp; try rfl)
                simp only [Act.put, List.setIfInBounds_toArray, List.set_cons_zero, List.set_cons_succ]
                refine takeInH 2 41 ?v321 rfl rfl (by kernel_rfl) (by kernel_rfl) (by kernel_rfl) (fun _ _ _ h => h) (by kernel_rfl) hS0 ?hy321 ?_
                case hy321 => (intro W hW; clear hW; go_simp; try rfl)
                simp only [Act.put, List.setIfInBounds_toArray, List.set_cons_zero, List.set_cons_succ]
                refine takeInH 3 42 ?v322 rfl rfl (by kernel_rfl) (by kernel_rfl) (by kernel_rfl) (fun _ _ _ h => h) (by kernel_rfl) hS0 ?hy322 ?_
                case hy322 => (intro W hW; have e0 := bcell hW c0; have e1 := bcell hW c1; have e2 := bcell hW c2; have e3 := bcell hW c3; have e4 := bcell hW d0; have e5 := bcell hW d1; have e6 := bcell hW d2; have e7 := bcell hW d3; clear hW; go_simp; try rfl)
                simp only [Act.put, List.setIfInBounds_toArray, List.set_cons_zero, List.set_cons_succ]
                refine takeInH 4 43 ?v323 rfl rfl (by kernel_rfl) (by kernel_rfl) (by kernel_rfl) (fun _ _ _ h => h) (by kernel_rfl) hS0 ?hy323 ?_
                case hy323 => (intro W hW; clear hW; go_simp; try rfl)
                simp only [Act.put, List.setIfInBounds_toArray, List.set_cons_zero, List.set_cons_succ]
                refine takeInH 5 44 ?v324 rfl rfl (by kernel_rfl) (by kernel_rfl) (by kernel_rfl) (fun _ _ _ h => h) (by kernel_rfl) hS0 ?hy324 ?_
                case hy324 => (intro W hW; clear hW; go_simp; try rfl)
                simp only [Act.put, List.setIfInBounds_toArray, List.set_cons_zero, List.set_cons_succ]
                refine takeInH 6 45 ?v325 rfl rfl (by kernel_rfl) (by kernel_rfl) (by kernel_rfl) (fun _ _ _ h => h) (by kernel_rfl) hS0 ?hy325 ?_
                case hy325 => (intro W hW; clear hW; go_simp; try rfl)
                simp only [Act.put, List.setIfInBounds_toArray, List.set_cons_zero, List.set_cons_succ]
                refine takeInH 7 46 ?v326 rfl rfl (by kernel_rfl) (by kernel_rfl) (by kernel_rfl) (fun _ _ _ h => h) (by kernel_rfl) hS0 ?hy326 ?_
                case hy326 => (intro W hW; have e0 := bcell hW c0; have e1 := bcell hW c1; have e2 := bcell hW c2; have e3 := bcell hW c3; have e4 := bcell hW d0; have e5 := bcell hW d1; have e6 := bcell hW d2; have e7 := bcell hW d3; clear hW; go_simp; try rfl)
                simp only [Act.put, List.setIfInBounds_toArray, List.set_cons_zero, List.set_cons_succ]
                refine wpAnyH_ready (rs := [8]) (by kernel_rfl) (by simp) ?_
                refine AllReadyH.cons rfl (fun K hK => ?_) AllReadyH.nil
                go_simp
                refine (AheadR_any r s pa na ca pe ne ce r' s' pa' na' ca' pe' ne' ce' c' _ (HN'.out.below hS0)).mono ?_
                rintro e w' ⟨rfl, hb⟩
                rw [show ahdB (r, s) c' = false from HA.out]
                refine hK.out _ _ ?hs327 (fun hS1 => ?_)
                case hs327 => exact bel_next hS0 hb
                clear hK K hb
                try simp only [Act.put, List.setIfInBounds_toArray, List.set_cons_zero, List.set_cons_succ]
                refine takeInH 9 48 ?v328 rfl rfl (by kernel_rfl) (by kernel_rfl) (by kernel_rfl) (fun _ _ _ h => h) (by kernel_rfl) hS1 ?hy328 ?_
                case hy328 => (intro W hW; clear hW; go_simp; try rfl)
                simp only [Act.put, List.setIfInBounds_toArray, List.set_cons_zero, List.set_cons_succ]
                refine takeNoH 10 49 rfl rfl (by kernel_rfl) (by kernel_rfl) (by kernel_rfl) (fun _ _ _ h => h) (by kernel_rfl) hS1 ?_
                simp only [Act.put, List.setIfInBounds_toArray, List.set_cons_zero, List.set_cons_succ]
                refine takeNoH 11 50 rfl rfl (by kernel_rfl) (by kernel_rfl) (by kernel_rfl) (fun _ _ _ h => h) (by kernel_rfl) hS1 ?_
                simp only [Act.put, List.setIfInBounds_toArray, List.set_cons_zero, List.set_cons_succ]
                refine takeNoH 12 51 rfl rfl (by kernel_rfl) (by kernel_rfl) (by kernel_rfl) (fun _ _ _ h => h) (by kernel_rfl) hS1 ?_
                simp only [Act.put, List.setIfInBounds_toArray, List.set_cons_zero, List.set_cons_succ]
                refine takeNoH 13 52 rfl rfl (by kernel_rfl) (by kernel_rfl) (by kernel_rfl) (fun _ _ _ h => h) (by kernel_rfl) hS1 ?_
                simp only [Act.put, List.setIfInBounds_toArray, List.set_cons_zero, List.set_cons_succ]
                refine takeNoH 14 53 rfl rfl (by kernel_rfl) (by kernel_rfl) (by kernel_rfl) (fun _ _ _ h => h) (by kernel_rfl) hS1 ?_
                simp only [Act.put, List.setIfInBounds_toArray, List.set_cons_zero, List.set_cons_succ]
                refine takeInH 15 54 ?v329 rfl rfl (by kernel_rfl) (by kernel_rfl) (by kernel_rfl) (fun _ _ _ h => h) (by kernel_rfl) hS1 ?hy329 ?_
                case hy329 => (intro W hW; clear hW; go_simp; try rfl)
                simp only [Act.put, List.setIfInBounds_toArray, List.set_cons_zero, List.set_cons_succ]
                refine takeInH 16 55 ?v330 rfl rfl (by kernel_rfl) (by kernel_rfl) (by kernel_rfl) (fun _ _ _ h => h) (by kernel_rfl) hS1 ?hy330 ?_
                case hy330 => (intro W hW; clear hW; go_simp; try rfl)
                simp only [Act.put, List.setIfInBounds_toArray, List.set_cons_zero, List.set_cons_succ]
                refine takeNoH 17 56 rfl rfl (by kernel_rfl) (by kernel_rfl) (by kernel_rfl) (fun _ _ _ h => h) (by kernel_rfl) hS1 ?_
                simp only [Act.put, List.setIfInBounds_toArray, List.set_cons_zero, List.set_cons_succ]
                refine takeNoH 18 57 rfl rfl (by kernel_rfl) (by kernel_rfl) (by kernel_rfl) (fun _ _ _ h => h) (by kernel_rfl) hS1 ?_
                simp only [Act.put, List.setIfInBounds_toArray, List.set_cons_zero, List.set_cons_succ]
                refine takeNoH 19 58 rfl rfl (by kernel_rfl) (by kernel_rfl) (by kernel_rfl) (fun _ _ _ h => h) (by kernel_rfl) hS1 ?_
                simp only [Act.put, List.setIfInBounds_toArray, List.set_cons_zero, List.set_cons_succ]
                refine takeNoH 20 59 rfl rfl (by kernel_rfl) (by kernel_rfl) (by kernel_rfl) (fun _ _ _ h => h) (by kernel_rfl) hS1 ?_
                simp only [Act.put, List.setIfInBounds_toArray, List.set_cons_zero, List.set_cons_succ]
                refine takeNoH 21 60 rfl rfl (by kernel_rfl) (by kernel_rfl) (by kernel_rfl) (fun _ _ _ h => h) (by kernel_rfl) hS1 ?_
                simp only [Act.put, List.setIfInBounds_toArray, List.set_cons_zero, List.set_cons_succ]
                refine takeNoH 22 61 rfl rfl (by kernel_rfl) (by kernel_rfl) (by kernel_rfl) (fun _ _ _ h => h) (by kernel_rfl) hS1 ?_
                simp only [Act.put, List.setIfInBounds_toArray, List.set_cons_zero, List.set_cons_succ]
                refine takeNoH 23 62 rfl rfl (by kernel_rfl) (by kernel_rfl) (by kernel_rfl) (fun _ _ _ h => h) (by kernel_rfl) hS1 ?_
                simp only [Act.put, List.setIfInBounds_toArray, List.set_cons_zero, List.set_cons_succ]
                refine takeNoH 24 63 rfl rfl (by kernel_rfl) (by kernel_rfl) (by kernel_rfl) (fun _ _ _ h => h) (by kernel_rfl) hS1 ?_
                simp only [Act.put, List.setIfInBounds_toArray, List.set_cons_zero, List.set_cons_succ]
                refine takeInH 25 64 ?v331 rfl rfl (by kernel_rfl) (by kernel_rfl) (by kernel_rfl) (fun _ _ _ h => h) (by kernel_rfl) hS1 ?hy331 ?_
                case hy331 => (intro W hW; clear hW; go_simp; try rfl)
                simp only [Act.put, List.setIfInBounds_toArray, List.set_cons_zero, List.set_cons_succ]
                refine wpAnyH_done (by kernel_rfl) ?_ _
                go_wp2
                go_roundw
                case rel => exact ⟨j + 1, lv, by omega, by go_num, rfl, HF2, (show Hid _ from bel_next HB2.out hS1)⟩
                case measure => simp [intOf]; omega
              · have HA := hide ha
                rcases h1 : standsB l o k ((r', s'), c', l') with _ | _
                · have H1 := hide h1
                  have HF2 := hide (lv9_step HJ.out HF.out (.inr (.inl h1)))
                  clear ha h1
                  go_upto_region 9 with fail
                  refine wp_region_held_drew (S := fun W => Below wr.heap.size wr W) (by kernel_rfl) ((Below.refl _ wr).drew) (fun hS0 => ?_)
                  refine takeInH 0 39 ?v332 rfl rfl (by kernel_rfl) (by kernel_rfl) (by kernel_rfl) (fun _ _ _ h => h) (by kernel_rfl) hS0 ?hy332 ?_
                  case hy332 => (intro W hW; clear hW; go_simp; try rfl)
                  simp only [Act.put, List.setIfInBounds_toArray, List.set_cons_zero, List.set_cons_succ]
                  refine takeInH 1 40 ?v333 rfl rfl (by kernel_rfl) (by kernel_rfl) (by kernel_rfl) (fun _ _ _ h => h) (by kernel_rfl) hS0 ?hy333 ?_
                  case hy333 => (intro W hW; clear hW; go_simp; try rfl)
                  simp only [Act.put, List.setIfInBounds_toArray, List.set_cons_zero, List.set_cons_succ]
                  refine takeInH 2 41 ?v334 rfl rfl (by kernel_rfl) (by kernel_rfl) (by kernel_rfl) (fun _ _ _ h => h) (by kernel_rfl) hS0 ?hy334 ?_
                  case hy334 => (intro W hW; clear hW; go_simp; try rfl)
                  simp only [Act.put, List.setIfInBounds_toArray, List.set_cons_zero, List.set_cons_succ]
                  refine takeInH 3 42 ?v335 rfl rfl (by kernel_rfl) (by kernel_rfl) (by kernel_rfl) (fun _ _ _ h => h) (by kernel_rfl) hS0 ?hy335 ?_
                  case hy335 => (intro W hW; have e0 := bcell hW c0; have e1 := bcell hW c1; have e2 := bcell hW c2; have e3 := bcell hW c3; have e4 := bcell hW d0; have e5 := bcell hW d1; have e6 := bcell hW d2; have e7 := bcell hW d3; clear hW; go_simp; try rfl)
                  simp only [Act.put, List.setIfInBounds_toArray, List.set_cons_zero, List.set_cons_succ]
                  refine takeInH 4 43 ?v336 rfl rfl (by kernel_rfl) (by kernel_rfl) (by kernel_rfl) (fun _ _ _ h => h) (by kernel_rfl) hS0 ?hy336 ?_
                  case hy336 => (intro W hW; clear hW; go_simp; try rfl)
                  simp only [Act.put, List.setIfInBounds_toArray, List.set_cons_zero, List.set_cons_succ]
                  refine takeInH 5 44 ?v337 rfl rfl (by kernel_rfl) (by kernel_rfl) (by kernel_rfl) (fun _ _ _ h => h) (by kernel_rfl) hS0 ?hy337 ?_
                  case hy337 => (intro W hW; clear hW; go_simp; try rfl)
                  simp only [Act.put, List.setIfInBounds_toArray, List.set_cons_zero, List.set_cons_succ]
                  refine takeInH 6 45 ?v338 rfl rfl (by kernel_rfl) (by kernel_rfl) (by kernel_rfl) (fun _ _ _ h => h) (by kernel_rfl) hS0 ?hy338 ?_
                  case hy338 => (intro W hW; clear hW; go_simp; try rfl)
                  simp only [Act.put, List.setIfInBounds_toArray, List.set_cons_zero, List.set_cons_succ]
                  refine takeInH 7 46 ?v339 rfl rfl (by kernel_rfl) (by kernel_rfl) (by kernel_rfl) (fun _ _ _ h => h) (by kernel_rfl) hS0 ?hy339 ?_
                  case hy339 => (intro W hW; have e0 := bcell hW c0; have e1 := bcell hW c1; have e2 := bcell hW c2; have e3 := bcell hW c3; have e4 := bcell hW d0; have e5 := bcell hW d1; have e6 := bcell hW d2; have e7 := bcell hW d3; clear hW; go_simp; try rfl)
                  simp only [Act.put, List.setIfInBounds_toArray, List.set_cons_zero, List.set_cons_succ]
                  refine wpAnyH_ready (rs := [8]) (by kernel_rfl) (by simp) ?_
                  refine AllReadyH.cons rfl (fun K hK => ?_) AllReadyH.nil
                  go_simp
                  refine (AheadR_any r s pa na ca pe ne ce r' s' pa' na' ca' pe' ne' ce' c' _ (HN'.out.below hS0)).mono ?_
                  rintro e w' ⟨rfl, hb⟩
                  rw [show ahdB (r, s) c' = true from HA.out]
                  refine hK.out _ _ ?hs340 (fun hS1 => ?_)
                  case hs340 => exact bel_next hS0 hb
                  clear hK K hb
                  try simp only [Act.put, List.setIfInBounds_toArray, List.set_cons_zero, List.set_cons_succ]
                  refine takeInH 9 48 ?v341 rfl rfl (by kernel_rfl) (by kernel_rfl) (by kernel_rfl) (fun _ _ _ h => h) (by kernel_rfl) hS1 ?hy341 ?_
                  case hy341 => (intro W hW; clear hW; go_simp; try rfl)
                  simp only [Act.put, List.setIfInBounds_toArray, List.set_cons_zero, List.set_cons_succ]
                  refine takeInH 10 49 ?v342 rfl rfl (by kernel_rfl) (by kernel_rfl) (by kernel_rfl) (fun _ _ _ h => h) (by kernel_rfl) hS1 ?hy342 ?_
                  case hy342 => (intro W hW; clear hW; go_simp; try rfl)
                  simp only [Act.put, List.setIfInBounds_toArray, List.set_cons_zero, List.set_cons_succ]
                  refine takeInH 11 50 ?v343 rfl rfl (by kernel_rfl) (by kernel_rfl) (by kernel_rfl) (fun _ _ _ h => h) (by kernel_rfl) hS1 ?hy343 ?_
                  case hy343 => (intro W hW; clear hW; go_simp; try rfl)
                  simp only [Act.put, List.setIfInBounds_toArray, List.set_cons_zero, List.set_cons_succ]
                  refine takeInH 12 51 ?v344 rfl rfl (by kernel_rfl) (by kernel_rfl) (by kernel_rfl) (fun _ _ _ h => h) (by kernel_rfl) hS1 ?hy344 ?_
                  case hy344 => (intro W hW; clear hW; go_simp; try rfl)
                  simp only [Act.put, List.setIfInBounds_toArray, List.set_cons_zero, List.set_cons_succ]
                  refine takeInH 13 52 ?v345 rfl rfl (by kernel_rfl) (by kernel_rfl) (by kernel_rfl) (fun _ _ _ h => h) (by kernel_rfl) hS1 ?hy345 ?_
                  case hy345 => (intro W hW; clear hW; go_simp; try rfl)
                  simp only [Act.put, List.setIfInBounds_toArray, List.set_cons_zero, List.set_cons_succ]
                  refine wpAnyH_ready (rs := [14]) (by kernel_rfl) (by simp) ?_
                  refine AllReadyH.cons rfl (fun K hK => ?_) AllReadyH.nil
                  go_simp
                  refine (stands_any (some ⟨b, off, none⟩) n cap l j o k _ (HV.out.below (bel_next HBA.out hS1)) hn HND.out _ HJ.out).mono ?_
                  rintro e w' ⟨rfl, hb⟩
                  rw [show standsB l o k ((r', s'), c', l') = false from H1.out]
                  refine hK.out _ _ ?hs346 (fun hS2 => ?_)
                  case hs346 => exact bel_next hS1 hb
                  clear hK K hb
                  try simp only [Act.put, List.setIfInBounds_toArray, List.set_cons_zero, List.set_cons_succ]
                  refine takeInH 15 54 ?v347 rfl rfl (by kernel_rfl) (by kernel_rfl) (by kernel_rfl) (fun _ _ _ h => h) (by kernel_rfl) hS2 ?hy347 ?_
                  case hy347 => (intro W hW; clear hW; go_simp; try rfl)
                  simp only [Act.put, List.setIfInBounds_toArray, List.set_cons_zero, List.set_cons_succ]
                  refine takeInH 16 55 ?v348 rfl rfl (by kernel_rfl) (by kernel_rfl) (by kernel_rfl) (fun _ _ _ h => h) (by kernel_rfl) hS2 ?hy348 ?_
                  case hy348 => (intro W hW; clear hW; go_simp; try rfl)
                  simp only [Act.put, List.setIfInBounds_toArray, List.set_cons_zero, List.set_cons_succ]
                  refine takeNoH 17 56 rfl rfl (by kernel_rfl) (by kernel_rfl) (by kernel_rfl) (fun _ _ _ h => h) (by kernel_rfl) hS2 ?_
                  simp only [Act.put, List.setIfInBounds_toArray, List.set_cons_zero, List.set_cons_succ]
                  refine takeNoH 18 57 rfl rfl (by kernel_rfl) (by kernel_rfl) (by kernel_rfl) (fun _ _ _ h => h) (by kernel_rfl) hS2 ?_
                  simp only [Act.put, List.setIfInBounds_toArray, List.set_cons_zero, List.set_cons_succ]
                  refine takeNoH 19 58 rfl rfl (by kernel_rfl) (by kernel_rfl) (by kernel_rfl) (fun _ _ _ h => h) (by kernel_rfl) hS2 ?_
                  simp only [Act.put, List.setIfInBounds_toArray, List.set_cons_zero, List.set_cons_succ]
                  refine takeNoH 20 59 rfl rfl (by kernel_rfl) (by kernel_rfl) (by kernel_rfl) (fun _ _ _ h => h) (by kernel_rfl) hS2 ?_
                  simp only [Act.put, List.setIfInBounds_toArray, List.set_cons_zero, List.set_cons_succ]
                  refine takeNoH 21 60 rfl rfl (by kernel_rfl) (by kernel_rfl) (by kernel_rfl) (fun _ _ _ h => h) (by kernel_rfl) hS2 ?_
                  simp only [Act.put, List.setIfInBounds_toArray, List.set_cons_zero, List.set_cons_succ]
                  refine takeNoH 22 61 rfl rfl (by kernel_rfl) (by kernel_rfl) (by kernel_rfl) (fun _ _ _ h => h) (by kernel_rfl) hS2 ?_
                  simp only [Act.put, List.setIfInBounds_toArray, List.set_cons_zero, List.set_cons_succ]
                  refine takeNoH 23 62 rfl rfl (by kernel_rfl) (by kernel_rfl) (by kernel_rfl) (fun _ _ _ h => h) (by kernel_rfl) hS2 ?_
                  simp only [Act.put, List.setIfInBounds_toArray, List.set_cons_zero, List.set_cons_succ]
                  refine takeNoH 24 63 rfl rfl (by kernel_rfl) (by kernel_rfl) (by kernel_rfl) (fun _ _ _ h => h) (by kernel_rfl) hS2 ?_
                  simp only [Act.put, List.setIfInBounds_toArray, List.set_cons_zero, List.set_cons_succ]
                  refine takeInH 25 64 ?v349 rfl rfl (by kernel_rfl) (by kernel_rfl) (by kernel_rfl) (fun _ _ _ h => h) (by kernel_rfl) hS2 ?hy349 ?_
                  case hy349 => (intro W hW; clear hW; go_simp; try rfl)
                  simp only [Act.put, List.setIfInBounds_toArray, List.set_cons_zero, List.set_cons_succ]
                  refine wpAnyH_done (by kernel_rfl) ?_ _
                  go_wp2
                  go_roundw
                  case rel => exact ⟨j + 1, lv, by omega, by go_num, rfl, HF2, (show Hid _ from bel_next HB2.out hS2)⟩
                  case measure => simp [intOf]; omega
                · have H1 := hide h1
                  rcases h2 : doesB ((r', s'), c', l') 2 o k with _ | _
                  · have H2 := hide h2
                    have HF2 := hide (lv9_stop (b := false) (e := ((r, s), c, le)) (o := o) (k := k) HJ.out ha h1 h2)
                    clear ha h1 h2
                    go_upto_region 9 with fail
                    refine wp_region_held_drew (S := fun W => Below wr.heap.size wr W) (by kernel_rfl) ((Below.refl _ wr).drew) (fun hS0 => ?_)
                    refine takeInH 0 39 ?v350 rfl rfl (by kernel_rfl) (by kernel_rfl) (by kernel_rfl) (fun _ _ _ h => h) (by kernel_rfl) hS0 ?hy350 ?_
                    case hy350 => (intro W hW; clear hW; go_simp; try rfl)
                    simp only [Act.put, List.setIfInBounds_toArray, List.set_cons_zero, List.set_cons_succ]
                    refine takeInH 1 40 ?v351 rfl rfl (by kernel_rfl) (by kernel_rfl) (by kernel_rfl) (fun _ _ _ h => h) (by kernel_rfl) hS0 ?hy351 ?_
                    case hy351 => (intro W hW; clear hW; go_simp; try rfl)
                    simp only [Act.put, List.setIfInBounds_toArray, List.set_cons_zero, List.set_cons_succ]
                    refine takeInH 2 41 ?v352 rfl rfl (by kernel_rfl) (by kernel_rfl) (by kernel_rfl) (fun _ _ _ h => h) (by kernel_rfl) hS0 ?hy352 ?_
                    case hy352 => (intro W hW; clear hW; go_simp; try rfl)
                    simp only [Act.put, List.setIfInBounds_toArray, List.set_cons_zero, List.set_cons_succ]
                    refine takeInH 3 42 ?v353 rfl rfl (by kernel_rfl) (by kernel_rfl) (by kernel_rfl) (fun _ _ _ h => h) (by kernel_rfl) hS0 ?hy353 ?_
                    case hy353 => (intro W hW; have e0 := bcell hW c0; have e1 := bcell hW c1; have e2 := bcell hW c2; have e3 := bcell hW c3; have e4 := bcell hW d0; have e5 := bcell hW d1; have e6 := bcell hW d2; have e7 := bcell hW d3; clear hW; go_simp; try rfl)
                    simp only [Act.put, List.setIfInBounds_toArray, List.set_cons_zero, List.set_cons_succ]
                    refine takeInH 4 43 ?v354 rfl rfl (by kernel_rfl) (by kernel_rfl) (by kernel_rfl) (fun _ _ _ h => h) (by kernel_rfl) hS0 ?hy354 ?_
                    case hy354 => (intro W hW; clear hW; go_simp; try rfl)
                    simp only [Act.put, List.setIfInBounds_toArray, List.set_cons_zero, List.set_cons_succ]
                    refine takeInH 5 44 ?v355 rfl rfl (by kernel_rfl) (by kernel_rfl) (by kernel_rfl) (fun _ _ _ h => h) (by kernel_rfl) hS0 ?hy355 ?_
                    case hy355 => (intro W hW; clear hW; go_simp; try rfl)
                    simp only [Act.put, List.setIfInBounds_toArray, List.set_cons_zero, List.set_cons_succ]
                    refine takeInH 6 45 ?v356 rfl rfl (by kernel_rfl) (by kernel_rfl) (by kernel_rfl) (fun _ _ _ h => h) (by kernel_rfl) hS0 ?hy356 ?_
                    case hy356 => (intro W hW; clear hW; go_simp; try rfl)
                    simp only [Act.put, List.setIfInBounds_toArray, List.set_cons_zero, List.set_cons_succ]
                    refine takeInH 7 46 ?v357 rfl rfl (by kernel_rfl) (by kernel_rfl) (by kernel_rfl) (fun _ _ _ h => h) (by kernel_rfl) hS0 ?hy357 ?_
                    case hy357 => (intro W hW; have e0 := bcell hW c0; have e1 := bcell hW c1; have e2 := bcell hW c2; have e3 := bcell hW c3; have e4 := bcell hW d0; have e5 := bcell hW d1; have e6 := bcell hW d2; have e7 := bcell hW d3; clear hW; go_simp; try rfl)
                    simp only [Act.put, List.setIfInBounds_toArray, List.set_cons_zero, List.set_cons_succ]
                    refine wpAnyH_ready (rs := [8]) (by kernel_rfl) (by simp) ?_
                    refine AllReadyH.cons rfl (fun K hK => ?_) AllReadyH.nil
                    go_simp
                    refine (AheadR_any r s pa na ca pe ne ce r' s' pa' na' ca' pe' ne' ce' c' _ (HN'.out.below hS0)).mono ?_
                    rintro e w' ⟨rfl, hb⟩
                    rw [show ahdB (r, s) c' = true from HA.out]
                    refine hK.out _ _ ?hs358 (fun hS1 => ?_)
                    case hs358 => exact bel_next hS0 hb
                    clear hK K hb
                    try simp only [Act.put, List.setIfInBounds_toArray, List.set_cons_zero, List.set_cons_succ]
                    refine takeInH 9 48 ?v359 rfl rfl (by kernel_rfl) (by kernel_rfl) (by kernel_rfl) (fun _ _ _ h => h) (by kernel_rfl) hS1 ?hy359 ?_
                    case hy359 => (intro W hW; clear hW; go_simp; try rfl)
                    simp only [Act.put, List.setIfInBounds_toArray, List.set_cons_zero, List.set_cons_succ]
                    refine takeInH 10 49 ?v360 rfl rfl (by kernel_rfl) (by kernel_rfl) (by kernel_rfl) (fun _ _ _ h => h) (by kernel_rfl) hS1 ?hy360 ?_
                    case hy360 => (intro W hW; clear hW; go_simp; try rfl)
                    simp only [Act.put, List.setIfInBounds_toArray, List.set_cons_zero, List.set_cons_succ]
                    refine takeInH 11 50 ?v361 rfl rfl (by kernel_rfl) (by kernel_rfl) (by kernel_rfl) (fun _ _ _ h => h) (by kernel_rfl) hS1 ?hy361 ?_
                    case hy361 => (intro W hW; clear hW; go_simp; try rfl)
                    simp only [Act.put, List.setIfInBounds_toArray, List.set_cons_zero, List.set_cons_succ]
                    refine takeInH 12 51 ?v362 rfl rfl (by kernel_rfl) (by kernel_rfl) (by kernel_rfl) (fun _ _ _ h => h) (by kernel_rfl) hS1 ?hy362 ?_
                    case hy362 => (intro W hW; clear hW; go_simp; try rfl)
                    simp only [Act.put, List.setIfInBounds_toArray, List.set_cons_zero, List.set_cons_succ]
                    refine takeInH 13 52 ?v363 rfl rfl (by kernel_rfl) (by kernel_rfl) (by kernel_rfl) (fun _ _ _ h => h) (by kernel_rfl) hS1 ?hy363 ?_
                    case hy363 => (intro W hW; clear hW; go_simp; try rfl)
                    simp only [Act.put, List.setIfInBounds_toArray, List.set_cons_zero, List.set_cons_succ]
                    refine wpAnyH_ready (rs := [14]) (by kernel_rfl) (by simp) ?_
                    refine AllReadyH.cons rfl (fun K hK => ?_) AllReadyH.nil
                    go_simp
                    refine (stands_any (some ⟨b, off, none⟩) n cap l j o k _ (HV.out.below (bel_next HBA.out hS1)) hn HND.out _ HJ.out).mono ?_
                    rintro e w' ⟨rfl, hb⟩
                    rw [show standsB l o k ((r', s'), c', l') = true from H1.out]
                    refine hK.out _ _ ?hs364 (fun hS2 => ?_)
                    case hs364 => exact bel_next hS1 hb
                    clear hK K hb
                    try simp only [Act.put, List.setIfInBounds_toArray, List.set_cons_zero, List.set_cons_succ]
                    refine takeInH 15 54 ?v365 rfl rfl (by kernel_rfl) (by kernel_rfl) (by kernel_rfl) (fun _ _ _ h => h) (by kernel_rfl) hS2 ?hy365 ?_
                    case hy365 => (intro W hW; clear hW; go_simp; try rfl)
                    simp only [Act.put, List.setIfInBounds_toArray, List.set_cons_zero, List.set_cons_succ]
                    refine takeInH 16 55 ?v366 rfl rfl (by kernel_rfl) (by kernel_rfl) (by kernel_rfl) (fun _ _ _ h => h) (by kernel_rfl) hS2 ?hy366 ?_
                    case hy366 => (intro W hW; clear hW; go_simp; try rfl)
                    simp only [Act.put, List.setIfInBounds_toArray, List.set_cons_zero, List.set_cons_succ]
                    refine takeInH 17 56 ?v367 rfl rfl (by kernel_rfl) (by kernel_rfl) (by kernel_rfl) (fun _ _ _ h => h) (by kernel_rfl) hS2 ?hy367 ?_
                    case hy367 => (intro W hW; clear hW; go_simp; try rfl)
                    simp only [Act.put, List.setIfInBounds_toArray, List.set_cons_zero, List.set_cons_succ]
                    refine takeInH 18 57 ?v368 rfl rfl (by kernel_rfl) (by kernel_rfl) (by kernel_rfl) (fun _ _ _ h => h) (by kernel_rfl) hS2 ?hy368 ?_
                    case hy368 => (intro W hW; clear hW; go_simp; try rfl)
                    simp only [Act.put, List.setIfInBounds_toArray, List.set_cons_zero, List.set_cons_succ]
                    refine takeInH 19 58 ?v369 rfl rfl (by kernel_rfl) (by kernel_rfl) (by kernel_rfl) (fun _ _ _ h => h) (by kernel_rfl) hS2 ?hy369 ?_
                    case hy369 => (intro W hW; clear hW; go_simp; try rfl)
                    simp only [Act.put, List.setIfInBounds_toArray, List.set_cons_zero, List.set_cons_succ]
                    refine takeInH 20 59 ?v370 rfl rfl (by kernel_rfl) (by kernel_rfl) (by kernel_rfl) (fun _ _ _ h => h) (by kernel_rfl) hS2 ?hy370 ?_
                    case hy370 => (intro W hW; have e0 := bcell hW c0; have e1 := bcell hW c1; have e2 := bcell hW c2; have e3 := bcell hW c3; have e4 := bcell hW d0; have e5 := bcell hW d1; have e6 := bcell hW d2; have e7 := bcell hW d3; clear hW; go_simp; try rfl)
                    simp only [Act.put, List.setIfInBounds_toArray, List.set_cons_zero, List.set_cons_succ]
                    refine takeInH 21 60 ?v371 rfl rfl (by kernel_rfl) (by kernel_rfl) (by kernel_rfl) (fun _ _ _ h => h) (by kernel_rfl) hS2 ?hy371 ?_
                    case hy371 => (intro W hW; clear hW; go_simp; try rfl)
                    simp only [Act.put, List.setIfInBounds_toArray, List.set_cons_zero, List.set_cons_succ]
                    refine takeInH 22 61 ?v372 rfl rfl (by kernel_rfl) (by kernel_rfl) (by kernel_rfl) (fun _ _ _ h => h) (by kernel_rfl) hS2 ?hy372 ?_
                    case hy372 => (intro W hW; clear hW; go_simp; try rfl)
                    simp only [Act.put, List.setIfInBounds_toArray, List.set_cons_zero, List.set_cons_succ]
                    refine wpAnyH_ready (rs := [23]) (by kernel_rfl) (by simp) ?_
                    refine AllReadyH.cons rfl (fun K hK => ?_) AllReadyH.nil
                    go_simp
                    refine (Does_any r' s' pa' na' ca' pe' ne' ce' c' l' 2 o k _ (HE'.out.below hS2)).mono ?_
                    rintro e w' ⟨rfl, hb⟩
                    rw [show doesB ((r', s'), c', l') 2 o k = false from H2.out]
                    refine hK.out _ _ ?hs373 (fun hS3 => ?_)
                    case hs373 => exact bel_next hS2 hb
                    clear hK K hb
                    try simp only [Act.put, List.setIfInBounds_toArray, List.set_cons_zero, List.set_cons_succ]
                    refine takeInH 24 63 ?v374 rfl rfl (by kernel_rfl) (by kernel_rfl) (by kernel_rfl) (fun _ _ _ h => h) (by kernel_rfl) hS3 ?hy374 ?_
                    case hy374 => (intro W hW; clear hW; go_simp; try rfl)
                    simp only [Act.put, List.setIfInBounds_toArray, List.set_cons_zero, List.set_cons_succ]
                    refine takeInH 25 64 ?v375 rfl rfl (by kernel_rfl) (by kernel_rfl) (by kernel_rfl) (fun _ _ _ h => h) (by kernel_rfl) hS3 ?hy375 ?_
                    case hy375 => (intro W hW; clear hW; go_simp; try rfl)
                    simp only [Act.put, List.setIfInBounds_toArray, List.set_cons_zero, List.set_cons_succ]
                    refine wpAnyH_done (by kernel_rfl) ?_ _
                    go_wp2
                    go_roundw
                    case rel => exact ⟨j + 1, false, by omega, by go_num, rfl, HF2, (show Hid _ from bel_next HB2.out hS3)⟩
                    case measure => simp [intOf]; omega
                  · have H2 := hide h2
                    have HF2 := hide (lv9_step HJ.out HF.out (.inr (.inr h2)))
                    clear ha h1 h2
                    go_upto_region 9 with fail
                    refine wp_region_held_drew (S := fun W => Below wr.heap.size wr W) (by kernel_rfl) ((Below.refl _ wr).drew) (fun hS0 => ?_)
                    refine takeInH 0 39 ?v376 rfl rfl (by kernel_rfl) (by kernel_rfl) (by kernel_rfl) (fun _ _ _ h => h) (by kernel_rfl) hS0 ?hy376 ?_
                    case hy376 => (intro W hW; clear hW; go_simp; try rfl)
                    simp only [Act.put, List.setIfInBounds_toArray, List.set_cons_zero, List.set_cons_succ]
                    refine takeInH 1 40 ?v377 rfl rfl (by kernel_rfl) (by kernel_rfl) (by kernel_rfl) (fun _ _ _ h => h) (by kernel_rfl) hS0 ?hy377 ?_
                    case hy377 => (intro W hW; clear hW; go_simp; try rfl)
                    simp only [Act.put, List.setIfInBounds_toArray, List.set_cons_zero, List.set_cons_succ]
                    refine takeInH 2 41 ?v378 rfl rfl (by kernel_rfl) (by kernel_rfl) (by kernel_rfl) (fun _ _ _ h => h) (by kernel_rfl) hS0 ?hy378 ?_
                    case hy378 => (intro W hW; clear hW; go_simp; try rfl)
                    simp only [Act.put, List.setIfInBounds_toArray, List.set_cons_zero, List.set_cons_succ]
                    refine takeInH 3 42 ?v379 rfl rfl (by kernel_rfl) (by kernel_rfl) (by kernel_rfl) (fun _ _ _ h => h) (by kernel_rfl) hS0 ?hy379 ?_
                    case hy379 => (intro W hW; have e0 := bcell hW c0; have e1 := bcell hW c1; have e2 := bcell hW c2; have e3 := bcell hW c3; have e4 := bcell hW d0; have e5 := bcell hW d1; have e6 := bcell hW d2; have e7 := bcell hW d3; clear hW; go_simp; try rfl)
                    simp only [Act.put, List.setIfInBounds_toArray, List.set_cons_zero, List.set_cons_succ]
                    refine takeInH 4 43 ?v380 rfl rfl (by kernel_rfl) (by kernel_rfl) (by kernel_rfl) (fun _ _ _ h => h) (by kernel_rfl) hS0 ?hy380 ?_
                    case hy380 => (intro W hW; clear hW; go_simp; try rfl)
                    simp only [Act.put, List.setIfInBounds_toArray, List.set_cons_zero, List.set_cons_succ]
                    refine takeInH 5 44 ?v381 rfl rfl (by kernel_rfl) (by kernel_rfl) (by kernel_rfl) (fun _ _ _ h => h) (by kernel_rfl) hS0 ?hy381 ?_
                    case hy381 => (intro W hW; clear hW; go_simp; try rfl)
                    simp only [Act.put, List.setIfInBounds_toArray, List.set_cons_zero, List.set_cons_succ]
                    refine takeInH 6 45 ?v382 rfl rfl (by kernel_rfl) (by kernel_rfl) (by kernel_rfl) (fun _ _ _ h => h) (by kernel_rfl) hS0 ?hy382 ?_
                    case hy382 => (intro W hW; clear hW; go_simp; try rfl)
                    simp only [Act.put, List.setIfInBounds_toArray, List.set_cons_zero, List.set_cons_succ]
                    refine takeInH 7 46 ?v383 rfl rfl (by kernel_rfl) (by kernel_rfl) (by kernel_rfl) (fun _ _ _ h => h) (by kernel_rfl) hS0 ?hy383 ?_
                    case hy383 => (intro W hW; have e0 := bcell hW c0; have e1 := bcell hW c1; have e2 := bcell hW c2; have e3 := bcell hW c3; have e4 := bcell hW d0; have e5 := bcell hW d1; have e6 := bcell hW d2; have e7 := bcell hW d3; clear hW; go_simp; try rfl)
                    simp only [Act.put, List.setIfInBounds_toArray, List.set_cons_zero, List.set_cons_succ]
                    refine wpAnyH_ready (rs := [8]) (by kernel_rfl) (by simp) ?_
                    refine AllReadyH.cons rfl (fun K hK => ?_) AllReadyH.nil
                    go_simp
                    refine (AheadR_any r s pa na ca pe ne ce r' s' pa' na' ca' pe' ne' ce' c' _ (HN'.out.below hS0)).mono ?_
                    rintro e w' ⟨rfl, hb⟩
                    rw [show ahdB (r, s) c' = true from HA.out]
                    refine hK.out _ _ ?hs384 (fun hS1 => ?_)
                    case hs384 => exact bel_next hS0 hb
                    clear hK K hb
                    try simp only [Act.put, List.setIfInBounds_toArray, List.set_cons_zero, List.set_cons_succ]
                    refine takeInH 9 48 ?v385 rfl rfl (by kernel_rfl) (by kernel_rfl) (by kernel_rfl) (fun _ _ _ h => h) (by kernel_rfl) hS1 ?hy385 ?_
                    case hy385 => (intro W hW; clear hW; go_simp; try rfl)
                    simp only [Act.put, List.setIfInBounds_toArray, List.set_cons_zero, List.set_cons_succ]
                    refine takeInH 10 49 ?v386 rfl rfl (by kernel_rfl) (by kernel_rfl) (by kernel_rfl) (fun _ _ _ h => h) (by kernel_rfl) hS1 ?hy386 ?_
                    case hy386 => (intro W hW; clear hW; go_simp; try rfl)
                    simp only [Act.put, List.setIfInBounds_toArray, List.set_cons_zero, List.set_cons_succ]
                    refine takeInH 11 50 ?v387 rfl rfl (by kernel_rfl) (by kernel_rfl) (by kernel_rfl) (fun _ _ _ h => h) (by kernel_rfl) hS1 ?hy387 ?_
                    case hy387 => (intro W hW; clear hW; go_simp; try rfl)
                    simp only [Act.put, List.setIfInBounds_toArray, List.set_cons_zero, List.set_cons_succ]
                    refine takeInH 12 51 ?v388 rfl rfl (by kernel_rfl) (by kernel_rfl) (by kernel_rfl) (fun _ _ _ h => h) (by kernel_rfl) hS1 ?hy388 ?_
                    case hy388 => (intro W hW; clear hW; go_simp; try rfl)
                    simp only [Act.put, List.setIfInBounds_toArray, List.set_cons_zero, List.set_cons_succ]
                    refine takeInH 13 52 ?v389 rfl rfl (by kernel_rfl) (by kernel_rfl) (by kernel_rfl) (fun _ _ _ h => h) (by kernel_rfl) hS1 ?hy389 ?_
                    case hy389 => (intro W hW; clear hW; go_simp; try rfl)
                    simp only [Act.put, List.setIfInBounds_toArray, List.set_cons_zero, List.set_cons_succ]
                    refine wpAnyH_ready (rs := [14]) (by kernel_rfl) (by simp) ?_
                    refine AllReadyH.cons rfl (fun K hK => ?_) AllReadyH.nil
                    go_simp
                    refine (stands_any (some ⟨b, off, none⟩) n cap l j o k _ (HV.out.below (bel_next HBA.out hS1)) hn HND.out _ HJ.out).mono ?_
                    rintro e w' ⟨rfl, hb⟩
                    rw [show standsB l o k ((r', s'), c', l') = true from H1.out]
                    refine hK.out _ _ ?hs390 (fun hS2 => ?_)
                    case hs390 => exact bel_next hS1 hb
                    clear hK K hb
                    try simp only [Act.put, List.setIfInBounds_toArray, List.set_cons_zero, List.set_cons_succ]
                    refine takeInH 15 54 ?v391 rfl rfl (by kernel_rfl) (by kernel_rfl) (by kernel_rfl) (fun _ _ _ h => h) (by kernel_rfl) hS2 ?hy391 ?_
                    case hy391 => (intro W hW; clear hW; go_simp; try rfl)
                    simp only [Act.put, List.setIfInBounds_toArray, List.set_cons_zero, List.set_cons_succ]
                    refine takeInH 16 55 ?v392 rfl rfl (by kernel_rfl) (by kernel_rfl) (by kernel_rfl) (fun _ _ _ h => h) (by kernel_rfl) hS2 ?hy392 ?_
                    case hy392 => (intro W hW; clear hW; go_simp; try rfl)
                    simp only [Act.put, List.setIfInBounds_toArray, List.set_cons_zero, List.set_cons_succ]
                    refine takeInH 17 56 ?v393 rfl rfl (by kernel_rfl) (by kernel_rfl) (by kernel_rfl) (fun _ _ _ h => h) (by kernel_rfl) hS2 ?hy393 ?_
                    case hy393 => (intro W hW; clear hW; go_simp; try rfl)
                    simp only [Act.put, List.setIfInBounds_toArray, List.set_cons_zero, List.set_cons_succ]
                    refine takeInH 18 57 ?v394 rfl rfl (by kernel_rfl) (by kernel_rfl) (by kernel_rfl) (fun _ _ _ h => h) (by kernel_rfl) hS2 ?hy394 ?_
                    case hy394 => (intro W hW; clear hW; go_simp; try rfl)
                    simp only [Act.put, List.setIfInBounds_toArray, List.set_cons_zero, List.set_cons_succ]
                    refine takeInH 19 58 ?v395 rfl rfl (by kernel_rfl) (by kernel_rfl) (by kernel_rfl) (fun _ _ _ h => h) (by kernel_rfl) hS2 ?hy395 ?_
                    case hy395 => (intro W hW; clear hW; go_simp; try rfl)
                    simp only [Act.put, List.setIfInBounds_toArray, List.set_cons_zero, List.set_cons_succ]
                    refine takeInH 20 59 ?v396 rfl rfl (by kernel_rfl) (by kernel_rfl) (by kernel_rfl) (fun _ _ _ h => h) (by kernel_rfl) hS2 ?hy396 ?_
                    case hy396 => (intro W hW; have e0 := bcell hW c0; have e1 := bcell hW c1; have e2 := bcell hW c2; have e3 := bcell hW c3; have e4 := bcell hW d0; have e5 := bcell hW d1; have e6 := bcell hW d2; have e7 := bcell hW d3; clear hW; go_simp; try rfl)
                    simp only [Act.put, List.setIfInBounds_toArray, List.set_cons_zero, List.set_cons_succ]
                    refine takeInH 21 60 ?v397 rfl rfl (by kernel_rfl) (by kernel_rfl) (by kernel_rfl) (fun _ _ _ h => h) (by kernel_rfl) hS2 ?hy397 ?_
                    case hy397 => (intro W hW; clear hW; go_simp; try rfl)
                    simp only [Act.put, List.setIfInBounds_toArray, List.set_cons_zero, List.set_cons_succ]
                    refine takeInH 22 61 ?v398 rfl rfl (by kernel_rfl) (by kernel_rfl) (by kernel_rfl) (fun _ _ _ h => h) (by kernel_rfl) hS2 ?hy398 ?_
                    case hy398 => (intro W hW; clear hW; go_simp; try rfl)
                    simp only [Act.put, List.setIfInBounds_toArray, List.set_cons_zero, List.set_cons_succ]
                    refine wpAnyH_ready (rs := [23]) (by kernel_rfl) (by simp) ?_
                    refine AllReadyH.cons rfl (fun K hK => ?_) AllReadyH.nil
                    go_simp
                    refine (Does_any r' s' pa' na' ca' pe' ne' ce' c' l' 2 o k _ (HE'.out.below hS2)).mono ?_
                    rintro e w' ⟨rfl, hb⟩
                    rw [show doesB ((r', s'), c', l') 2 o k = true from H2.out]
                    refine hK.out _ _ ?hs399 (fun hS3 => ?_)
                    case hs399 => exact bel_next hS2 hb
                    clear hK K hb
                    try simp only [Act.put, List.setIfInBounds_toArray, List.set_cons_zero, List.set_cons_succ]
                    refine takeInH 24 63 ?v400 rfl rfl (by kernel_rfl) (by kernel_rfl) (by kernel_rfl) (fun _ _ _ h => h) (by kernel_rfl) hS3 ?hy400 ?_
                    case hy400 => (intro W hW; clear hW; go_simp; try rfl)
                    simp only [Act.put, List.setIfInBounds_toArray, List.set_cons_zero, List.set_cons_succ]
                    refine takeInH 25 64 ?v401 rfl rfl (by kernel_rfl) (by kernel_rfl) (by kernel_rfl) (fun _ _ _ h => h) (by kernel_rfl) hS3 ?hy401 ?_
                    case hy401 => (intro W hW; clear hW; go_simp; try rfl)
                    simp only [Act.put, List.setIfInBounds_toArray, List.set_cons_zero, List.set_cons_succ]
                    refine wpAnyH_done (by kernel_rfl) ?_ _
                    go_wp2
                    go_roundw
                    case rel => exact ⟨j + 1, lv, by omega, by go_num, rfl, HF2, (show Hid _ from bel_next HB2.out hS3)⟩
                    case measure => simp [intOf]; omega
            · obtain rfl : j = n := by omega
              have HFL : Hid (live9B l o k ((r, s), c, le) = lv) := by
                have q := HF.out
                rw [← HLEN.out, List.take_length] at q
                rw [q]
                unfold Hid live9B
                rw [HB0.out]
              clear HF
              cases lv
              · have HU := hide (lvU9_no HX.out HFL.out)
                replace HO := hide (HO.out.below HB2.out)
                rw [← HU.out] at HO
                go_wp2
                go_roundw
                case rel => exact ⟨i + 1, by omega, by go_num, HO, HBA⟩
                case measure => simp [intOf]; omega
              · have HU := hide (lvU9_yes HX.out HFL.out)
                have HLU := hide (lvU9_len l o k i)
                replace HO := hide (HO.out.below HB2.out)
                go_wp2_with (go_at_call 41; refine (PutR_any _ _ (lvU9 l o k i) (r, s) _ HO.out HBA.out.size (by have := HLU.out; rw [HLEN.out] at this; omega)).mono ?_; rintro e w3 ⟨v3, rfl, ho3, hb3⟩)
                have HO3 := hide ho3
                rw [← show lvU9 l o k (i + 1) = putD (lvU9 l o k i) (r, s) from HU.out] at HO3
                go_roundw
                case rel => exact ⟨i + 1, by omega, by go_num, HO3, (show Hid _ from bel_next HBA.out hb3)⟩
                case measure => simp [intOf]; omega
    · obtain rfl : i = n := by omega
      have HU : Hid (lvU9 l o k i = liveL9 l o k) := by unfold Hid lvU9 liveL9; rw [← HLEN.out, List.take_length]
      rw [HU.out] at HO
      go_wp2
      go_ret
      exact ⟨_, rfl, HO.out, HB.out⟩
end Go.Proofs.Ytiodlpoeifmldaa
