/- The document's Does and Live (layer 8). -/
import Derived.Test.YtoogahfmjgajpaaD0
import Derived.Test.YtoogahfmjgajpaaB4
namespace Go.Proofs.Ytoogahfmjgajpaa
open Go.RowKit Go.Lib
set_option linter.unusedVariables false
theorem does_yes {d : Dot} {c : List Int} {l : List Eff} {kind o : Int} {k : ByteArray} {i : Nat} {x : Eff} (hx : l[i]? = some x) (h1 : x.1 = kind) (h2 : x.2.1 = o) (h3 : kOf x = k) : doesB (d, c, l) kind o k = true := doesB_iff.2 ⟨x, List.mem_of_getElem? hx, h1, h2, h3⟩
def NoE (kind o : Int) (k : ByteArray) (x : Eff) : Prop := ¬ (x.1 = kind ∧ x.2.1 = o ∧ kOf x = k)
theorem does_no {d : Dot} {c : List Int} {l : List Eff} {kind o : Int} {k : ByteArray} (h : ∀ x ∈ l, NoE kind o k x) : doesB (d, c, l) kind o k = false := by
  rcases hb : doesB (d, c, l) kind o k with _ | _
  · rfl
  · obtain ⟨x, hx, q⟩ := doesB_iff.1 hb
    exact absurd q (h x hx)
theorem noE_step {kind o : Int} {k : ByteArray} {l : List Eff} {i : Nat} {x : Eff} (hx : l[i]? = some x) (h : ∀ y ∈ l.take i, NoE kind o k y) (hn : NoE kind o k x) : ∀ y ∈ l.take (i + 1), NoE kind o k y := by
  intro y hy
  rw [take_snocL hx] at hy
  rcases List.mem_append.1 hy with q | q
  · exact h y q
  · rw [List.mem_singleton] at q; subst q; exact hn
theorem ES.addr8 {w : World} {a : Option Addr} {n : Nat} {l : List Eff} (h : ES w a n l) (hn : 0 < n) : ∃ b off, a = some ⟨b, off, none⟩ := by
  rcases h.1.2.2 with h0 | ⟨b, off, ha, _⟩
  · omega
  · exact ⟨b, off, ha⟩
set_option maxHeartbeats 2000000 in
theorem Does_any (r s : Int) (pa : Option Addr) (na ca : Nat) (pe : Option Addr) (ne ce : Nat) (c : List Int) (l : List Eff) (kind o : Int) (k : ByteArray) (w : World) (hE : ES w pe ne l) : Calls Try.prog 25 #[.agg #[.int .i64 r, .int .i64 s, .slice pa na ca, .slice pe ne ce], .int .i64 kind, .int .i64 o, .string k] w fun e w' => e = .returned (.bool (doesB ((r, s), c, l) kind o k)) ∧ Below w.heap.size w w' := by
  have HV := hide hE
  have HLEN := hide hE.1.1
  have hmx := hE.1.2.1
  unfold maxLen at hmx
  have HBX0 := hide (BX.new w _ rfl #[.int .i64 r, .int .i64 s, .slice pa na ca, .slice pe ne ce] 57)
  have HB0 := hide (bel1 w (.cells #[.int .i64 r, .int .i64 s, .slice pa na ca, .slice pe ne ce] 57))
  clear hE
  go_enter Try.func25, Try.ntmps25
  go_wp2
  go_loopw [9] (fun v wr => ∃ i : Nat, i ≤ ne ∧ v = .int .i64 i ∧ Hid (∀ x ∈ l.take i, NoE kind o k x) ∧ Hid (BX wr w.heap.size #[.int .i64 r, .int .i64 s, .slice pa na ca, .slice pe ne ce] 57) ∧ Hid (Below w.heap.size w wr)) (fun v _ => ne - (intOf v).toNat)
  case atStart => exact ⟨0, by omega, rfl, (fun x hx => by simp at hx), HBX0, HB0⟩
  case round =>
    clear HBX0 HB0
    obtain ⟨i, hi, rfl, HF, HBX, HB⟩ := hrel
    have x2 := HBX.out.cell 3 _ rfl
    by_cases hlt : i < ne
    · obtain ⟨b, off, rfl⟩ := HV.out.addr8 (by omega)
      obtain ⟨⟨f1, f2, f3, f4, f5, f6⟩, hx⟩ : ∃ x, l[i]? = some x := ⟨_, List.getElem?_eq_getElem (by rw [HLEN.out]; exact hlt)⟩
      obtain ⟨c0, c1, c2, c3, c4, c5⟩ := (HV.out.below HB.out).at i _ hx
      simp only at c0 c1 c2 c3 c4 c5
      have hi0 : (0 : Int) ≤ (i : Int) := by omega
      have hi1 : (i : Int) < (ne : Int) := by omega
      have HX := hide hx
      have hq := eqK (strOfNums f3) k
      clear hx
      by_cases h1 : f1 = kind
      · by_cases h2 : f2 = o
        · by_cases h3 : strOfNums f3 = k
          · rw [decide_eq_true h3] at hq
            have HR : Hid (doesB ((r, s), c, l) kind o k = true) := does_yes HX.out h1 h2 h3
            clear h3
            go_wp2
            go_ret
            exact ⟨by rw [HR.out]; rfl, HB.out.alloc HB.out.size _⟩
          · rw [decide_eq_false h3] at hq
            have HF2 := hide (noE_step HX.out HF.out (fun q => h3 q.2.2))
            clear h3
            go_wp2
            go_roundw
            case rel => exact ⟨i + 1, by omega, by go_num, HF2, (show Hid _ from HBX.out.alloc _), (show Hid _ from HB.out.alloc HB.out.size _)⟩
            case measure => simp [intOf]; omega
        · have HF2 := hide (noE_step HX.out HF.out (fun q => h2 q.2.1))
          have hq2 : (f2 == o) = false := by rw [beq_eq_false_iff_ne]; exact h2
          go_wp2
          go_roundw
          case rel => exact ⟨i + 1, by omega, by go_num, HF2, (show Hid _ from HBX.out.alloc _), (show Hid _ from HB.out.alloc HB.out.size _)⟩
          case measure => simp [intOf]; omega
      · have HF2 := hide (noE_step HX.out HF.out (fun q => h1 q.1))
        have hq1 : (f1 == kind) = false := by rw [beq_eq_false_iff_ne]; exact h1
        go_wp2
        go_roundw
        case rel => exact ⟨i + 1, by omega, by go_num, HF2, (show Hid _ from HBX.out.alloc _), (show Hid _ from HB.out.alloc HB.out.size _)⟩
        case measure => simp [intOf]; omega
    · obtain rfl : i = ne := by omega
      have HR : Hid (doesB ((r, s), c, l) kind o k = false) := does_no (by have := HF.out; rwa [← HLEN.out, List.take_length] at this)
      clear HF
      go_wp2
      go_ret
      exact ⟨by rw [HR.out]; rfl, HB.out⟩
/-- What is live among those that were looked at. -/
theorem live_step {l : List Evt} {j : Nat} {e f : Evt} {o : Int} {k : ByteArray} {b v : Bool} (hx : l[j]? = some f) (h : v = (b && !((l.take j).any fun f => ahE e f && touchB f o k))) (hn : ahdB e.1 f.2.1 = false ∨ touchB f o k = false) : v = (b && !((l.take (j + 1)).any fun f => ahE e f && touchB f o k)) := by
  rw [take_snocL hx, List.any_append, h]
  have : ahE e f = ahdB e.1 f.2.1 := rfl
  rcases hn with hn | hn
  · simp [this, hn]
  · simp [hn]
theorem live_stop {l : List Evt} {j : Nat} {e f : Evt} {o : Int} {k : ByteArray} {b : Bool} (hx : l[j]? = some f) (ha : ahdB e.1 f.2.1 = true) (ht : touchB f o k = true) : false = (b && !((l.take (j + 1)).any fun f => ahE e f && touchB f o k)) := by
  rw [take_snocL hx, List.any_append]
  have : ahE e f = ahdB e.1 f.2.1 := rfl
  simp [this, ha, ht]
/-- The Live of the first events. -/
def liveU (l : List Evt) (o : Int) (k : ByteArray) (i : Nat) : List Dot := ordD (((l.take i).filter (liveB l o k)).map (·.1))
theorem liveU_yes {l : List Evt} {o : Int} {k : ByteArray} {i : Nat} {e : Evt} (hx : l[i]? = some e) (h : liveB l o k e = true) : liveU l o k (i + 1) = putD (liveU l o k i) e.1 := by
  unfold liveU
  rw [take_snocL hx, List.filter_append, List.map_append]
  simp [h, ordD]
theorem liveU_no {l : List Evt} {o : Int} {k : ByteArray} {i : Nat} {e : Evt} (hx : l[i]? = some e) (h : liveB l o k e = false) : liveU l o k (i + 1) = liveU l o k i := by
  unfold liveU
  rw [take_snocL hx, List.filter_append, List.map_append]
  simp [h]
theorem liveU_len (l : List Evt) (o : Int) (k : ByteArray) (i : Nat) : (liveU l o k i).length ≤ l.length := by
  unfold liveU
  have h1 := foldl_putD_len (((l.take i).filter (liveB l o k)).map (·.1)) []
  have h2 : ((l.take i).filter (liveB l o k)).length ≤ (l.take i).length := List.length_filter_le _ _
  rw [List.length_map] at h1
  rw [List.length_take] at h2
  unfold ordD
  simp only [List.length_nil] at h1
  omega
set_option maxHeartbeats 8000000 in
theorem Live_any (a : Option Addr) (n cap : Nat) (l : List Evt) (o : Int) (k : ByteArray) (w : World) (hE : EVS w a n l) (hn : n ≤ 1000) : Calls Try.prog 27 #[.slice a n cap, .int .i64 o, .string k] w fun e w' => ∃ v, e = .returned v ∧ OwnD w.heap.size w' v (liveL l o k) ∧ Below w.heap.size w w' := by
  have HV := hide hE
  have HLEN := hide hE.len
  clear hE
  have HO0 : Hid (OwnD w.heap.size (w.alloc (.cells #[] 24)) (.slice (some ⟨w.heap.size, 0, none⟩) 0 0) (liveU l o k 0)) := OwnD.made w w.heap.size w.heap.size rfl (Nat.le_refl _)
  have HB0 := hide (bel1 w (.cells #[] 24))
  go_enter Try.func27, Try.ntmps27
  go_wp2
  go_loopw [7, 8] (fun V v wr => ∃ i : Nat, i ≤ n ∧ v = .int .i64 i ∧ Hid (OwnD w.heap.size wr V (liveU l o k i)) ∧ Hid (Below w.heap.size w wr)) (fun _ v _ => n - (intOf v).toNat)
  case atStart => exact ⟨0, by omega, rfl, HO0, HB0⟩
  case round =>
    clear HO0 HB0
    obtain ⟨i, hi, rfl, HO, HB⟩ := hrel
    by_cases hlt : i < n
    · obtain ⟨b, off, rfl⟩ := HV.out.addr (by omega)
      obtain ⟨r, s, pa, na, ca, pe, ne, ce, c, le, hx, q0, q1, q2, q3, hN, _, hE, _⟩ := HV.out.at i hlt
      have C0 := hide q0
      have C1 := hide q1
      have C2 := hide q2
      have C3 := hide q3
      have HX := hide hx
      have HE := hide hE
      have hi0 : (0 : Int) ≤ (i : Int) := by omega
      have hi1 : (i : Int) < (n : Int) := by omega
      have c0 := bcell HB.out q0
      have c1 := bcell HB.out q1
      have c2 := bcell HB.out q2
      have c3 := bcell HB.out q3
      clear hx q0 q1 q2 q3 hN hE
      obtain ⟨b0, hb0⟩ : ∃ b, doesB ((r, s), c, le) 1 o k = b := ⟨_, rfl⟩
      have HB0 := hide hb0
      have HDO : Hid (∀ W, ES W pe ne le → Calls Try.prog 25 #[.agg #[.int .i64 r, .int .i64 s, .slice pa na ca, .slice pe ne ce], .int .i64 1, .int .i64 o, .string k] W fun e w' => e = .returned (.bool b0) ∧ Below W.heap.size W w') := fun W h => by rw [← hb0]; exact Does_any r s pa na ca pe ne ce c le 1 o k W h
      clear hb0
      go_wp2_with (go_at_call 25; refine (HDO.out _ (HE.out.below HB.out)).mono ?_; rintro e w1 ⟨rfl, hb⟩; replace HO := hide (HO.out.below hb); replace HB := hide (bel_next HB.out hb); clear hb c0 c1 c2 c3 HDO)
      go_loopw [9, 10] (fun vl v wr2 => ∃ (j : Nat) (lv : Bool), j ≤ n ∧ v = .int .i64 j ∧ vl = .bool lv ∧ Hid (lv = (b0 && !((l.take j).any fun f => ahE ((r, s), c, le) f && touchB f o k))) ∧ Hid (Below w1.heap.size w1 wr2)) (fun _ v _ => n - (intOf v).toNat)
      case atStart => exact ⟨0, b0, by omega, rfl, rfl, (show b0 = _ by simp), Below.refl _ _⟩
      case round =>
        obtain ⟨j, lv, hj, rfl, rfl, HF, HB2⟩ := hrel
        have HBA := hide (bel_next HB.out HB2.out)
        have c0 := bcell HBA.out C0.out
        have c1 := bcell HBA.out C1.out
        have c2 := bcell HBA.out C2.out
        have c3 := bcell HBA.out C3.out
        by_cases hjn : j < n
        · obtain ⟨r', s', pa', na', ca', pe', ne', ce', c', l', hj', d0, d1, d2, d3, hN', _, hE', _⟩ := (HV.out.below HBA.out).at j hjn
          have HJ := hide hj'
          have HN' := hide hN'
          have HE' := hide hE'
          have hj0 : (0 : Int) ≤ (j : Int) := by omega
          have hj1 : (j : Int) < (n : Int) := by omega
          clear hj' hN' hE'
          rcases ha : ahdB (r, s) c' with _ | _
          · have HA := hide ha
            have HF2 := hide (live_step (o := o) (k := k) HJ.out HF.out (.inl ha))
            clear ha
            go_upto_region 9 with fail
            refine wp_region_held_drew (S := fun W => Below wr.heap.size wr W) (by kernel_rfl) ((Below.refl _ wr).drew) (fun hS0 => ?_)
            refine takeInH 0 31 ?v1 rfl rfl (by kernel_rfl) (by kernel_rfl) (by kernel_rfl) (fun _ _ _ h => h) (by kernel_rfl) hS0 ?hy1 ?_
            case hy1 => (intro W hW; clear hW; go_simp; try rfl)
            simp only [Act.put, List.setIfInBounds_toArray, List.set_cons_zero, List.set_cons_succ]
            refine takeInH 1 32 ?v2 rfl rfl (by kernel_rfl) (by kernel_rfl) (by kernel_rfl) (fun _ _ _ h => h) (by kernel_rfl) hS0 ?hy2 ?_
            case hy2 => (intro W hW; clear hW; go_simp; try rfl)
            simp only [Act.put, List.setIfInBounds_toArray, List.set_cons_zero, List.set_cons_succ]
            refine takeInH 2 33 ?v3 rfl rfl (by kernel_rfl) (by kernel_rfl) (by kernel_rfl) (fun _ _ _ h => h) (by kernel_rfl) hS0 ?hy3 ?_
            case hy3 => (intro W hW; clear hW; go_simp; try rfl)
            simp only [Act.put, List.setIfInBounds_toArray, List.set_cons_zero, List.set_cons_succ]
            refine takeInH 3 34 ?v4 rfl rfl (by kernel_rfl) (by kernel_rfl) (by kernel_rfl) (fun _ _ _ h => h) (by kernel_rfl) hS0 ?hy4 ?_
            case hy4 => (intro W hW; have e0 := bcell hW c0; have e1 := bcell hW c1; have e2 := bcell hW c2; have e3 := bcell hW c3; have e4 := bcell hW d0; have e5 := bcell hW d1; have e6 := bcell hW d2; have e7 := bcell hW d3; clear hW; go_simp; try rfl)
            simp only [Act.put, List.setIfInBounds_toArray, List.set_cons_zero, List.set_cons_succ]
            refine takeInH 4 35 ?v5 rfl rfl (by kernel_rfl) (by kernel_rfl) (by kernel_rfl) (fun _ _ _ h => h) (by kernel_rfl) hS0 ?hy5 ?_
            case hy5 => (intro W hW; clear hW; go_simp; try rfl)
            simp only [Act.put, List.setIfInBounds_toArray, List.set_cons_zero, List.set_cons_succ]
            refine takeInH 5 36 ?v6 rfl rfl (by kernel_rfl) (by kernel_rfl) (by kernel_rfl) (fun _ _ _ h => h) (by kernel_rfl) hS0 ?hy6 ?_
            case hy6 => (intro W hW; clear hW; go_simp; try rfl)
            simp only [Act.put, List.setIfInBounds_toArray, List.set_cons_zero, List.set_cons_succ]
            refine takeInH 6 37 ?v7 rfl rfl (by kernel_rfl) (by kernel_rfl) (by kernel_rfl) (fun _ _ _ h => h) (by kernel_rfl) hS0 ?hy7 ?_
            case hy7 => (intro W hW; clear hW; go_simp; try rfl)
            simp only [Act.put, List.setIfInBounds_toArray, List.set_cons_zero, List.set_cons_succ]
            refine takeInH 7 38 ?v8 rfl rfl (by kernel_rfl) (by kernel_rfl) (by kernel_rfl) (fun _ _ _ h => h) (by kernel_rfl) hS0 ?hy8 ?_
            case hy8 => (intro W hW; have e0 := bcell hW c0; have e1 := bcell hW c1; have e2 := bcell hW c2; have e3 := bcell hW c3; have e4 := bcell hW d0; have e5 := bcell hW d1; have e6 := bcell hW d2; have e7 := bcell hW d3; clear hW; go_simp; try rfl)
            simp only [Act.put, List.setIfInBounds_toArray, List.set_cons_zero, List.set_cons_succ]
            refine wpAnyH_ready (rs := [8]) (by kernel_rfl) (by simp) ?_
            refine AllReadyH.cons rfl (fun K hK => ?_) AllReadyH.nil
            go_simp
            refine (AheadR_any r s pa na ca pe ne ce r' s' pa' na' ca' pe' ne' ce' c' _ (HN'.out.below hS0)).mono ?_
            rintro e w' ⟨rfl, hb⟩
            rw [show ahdB (r, s) c' = false from HA.out]
            refine hK.out _ _ ?hs9 (fun hS1 => ?_)
            case hs9 => exact bel_next hS0 hb
            clear hK K hb
            try simp only [Act.put, List.setIfInBounds_toArray, List.set_cons_zero, List.set_cons_succ]
            refine takeInH 9 40 ?v10 rfl rfl (by kernel_rfl) (by kernel_rfl) (by kernel_rfl) (fun _ _ _ h => h) (by kernel_rfl) hS1 ?hy10 ?_
            case hy10 => (intro W hW; clear hW; go_simp; try rfl)
            simp only [Act.put, List.setIfInBounds_toArray, List.set_cons_zero, List.set_cons_succ]
            refine takeNoH 10 41 rfl rfl (by kernel_rfl) (by kernel_rfl) (by kernel_rfl) (fun _ _ _ h => h) (by kernel_rfl) hS1 ?_
            simp only [Act.put, List.setIfInBounds_toArray, List.set_cons_zero, List.set_cons_succ]
            refine takeNoH 11 42 rfl rfl (by kernel_rfl) (by kernel_rfl) (by kernel_rfl) (fun _ _ _ h => h) (by kernel_rfl) hS1 ?_
            simp only [Act.put, List.setIfInBounds_toArray, List.set_cons_zero, List.set_cons_succ]
            refine takeNoH 12 43 rfl rfl (by kernel_rfl) (by kernel_rfl) (by kernel_rfl) (fun _ _ _ h => h) (by kernel_rfl) hS1 ?_
            simp only [Act.put, List.setIfInBounds_toArray, List.set_cons_zero, List.set_cons_succ]
            refine takeNoH 13 44 rfl rfl (by kernel_rfl) (by kernel_rfl) (by kernel_rfl) (fun _ _ _ h => h) (by kernel_rfl) hS1 ?_
            simp only [Act.put, List.setIfInBounds_toArray, List.set_cons_zero, List.set_cons_succ]
            refine takeNoH 14 45 rfl rfl (by kernel_rfl) (by kernel_rfl) (by kernel_rfl) (fun _ _ _ h => h) (by kernel_rfl) hS1 ?_
            simp only [Act.put, List.setIfInBounds_toArray, List.set_cons_zero, List.set_cons_succ]
            refine takeNoH 15 46 rfl rfl (by kernel_rfl) (by kernel_rfl) (by kernel_rfl) (fun _ _ _ h => h) (by kernel_rfl) hS1 ?_
            simp only [Act.put, List.setIfInBounds_toArray, List.set_cons_zero, List.set_cons_succ]
            refine takeNoH 16 47 rfl rfl (by kernel_rfl) (by kernel_rfl) (by kernel_rfl) (fun _ _ _ h => h) (by kernel_rfl) hS1 ?_
            simp only [Act.put, List.setIfInBounds_toArray, List.set_cons_zero, List.set_cons_succ]
            refine takeNoH 17 48 rfl rfl (by kernel_rfl) (by kernel_rfl) (by kernel_rfl) (fun _ _ _ h => h) (by kernel_rfl) hS1 ?_
            simp only [Act.put, List.setIfInBounds_toArray, List.set_cons_zero, List.set_cons_succ]
            refine takeNoH 18 49 rfl rfl (by kernel_rfl) (by kernel_rfl) (by kernel_rfl) (fun _ _ _ h => h) (by kernel_rfl) hS1 ?_
            simp only [Act.put, List.setIfInBounds_toArray, List.set_cons_zero, List.set_cons_succ]
            refine takeNoH 19 50 rfl rfl (by kernel_rfl) (by kernel_rfl) (by kernel_rfl) (fun _ _ _ h => h) (by kernel_rfl) hS1 ?_
            simp only [Act.put, List.setIfInBounds_toArray, List.set_cons_zero, List.set_cons_succ]
            refine takeNoH 20 51 rfl rfl (by kernel_rfl) (by kernel_rfl) (by kernel_rfl) (fun _ _ _ h => h) (by kernel_rfl) hS1 ?_
            simp only [Act.put, List.setIfInBounds_toArray, List.set_cons_zero, List.set_cons_succ]
            refine takeNoH 21 52 rfl rfl (by kernel_rfl) (by kernel_rfl) (by kernel_rfl) (fun _ _ _ h => h) (by kernel_rfl) hS1 ?_
            simp only [Act.put, List.setIfInBounds_toArray, List.set_cons_zero, List.set_cons_succ]
            refine takeNoH 22 53 rfl rfl (by kernel_rfl) (by kernel_rfl) (by kernel_rfl) (fun _ _ _ h => h) (by kernel_rfl) hS1 ?_
            simp only [Act.put, List.setIfInBounds_toArray, List.set_cons_zero, List.set_cons_succ]
            refine takeNoH 23 54 rfl rfl (by kernel_rfl) (by kernel_rfl) (by kernel_rfl) (fun _ _ _ h => h) (by kernel_rfl) hS1 ?_
            simp only [Act.put, List.setIfInBounds_toArray, List.set_cons_zero, List.set_cons_succ]
            refine takeNoH 24 55 rfl rfl (by kernel_rfl) (by kernel_rfl) (by kernel_rfl) (fun _ _ _ h => h) (by kernel_rfl) hS1 ?_
            simp only [Act.put, List.setIfInBounds_toArray, List.set_cons_zero, List.set_cons_succ]
            refine takeNoH 25 56 rfl rfl (by kernel_rfl) (by kernel_rfl) (by kernel_rfl) (fun _ _ _ h => h) (by kernel_rfl) hS1 ?_
            simp only [Act.put, List.setIfInBounds_toArray, List.set_cons_zero, List.set_cons_succ]
            refine takeInH 26 57 ?v11 rfl rfl (by kernel_rfl) (by kernel_rfl) (by kernel_rfl) (fun _ _ _ h => h) (by kernel_rfl) hS1 ?hy11 ?_
            case hy11 => (intro W hW; clear hW; go_simp; try rfl)
            simp only [Act.put, List.setIfInBounds_toArray, List.set_cons_zero, List.set_cons_succ]
            refine wpAnyH_done (by kernel_rfl) ?_ _
            go_wp2
            go_roundw
            case rel => exact ⟨j + 1, lv, by omega, by go_num, rfl, HF2, (show Hid _ from bel_next HB2.out hS1)⟩
            case measure => simp [intOf]; omega
          · have HA := hide ha
            rcases h1 : doesB ((r', s'), c', l') 1 o k with _ | _
            · have H1 := hide h1
              rcases h2 : doesB ((r', s'), c', l') 2 o k with _ | _
              · have H2 := hide h2
                have HF2 := hide (live_step (o := o) (k := k) HJ.out HF.out (.inr (by unfold touchB; rw [h1, h2]; rfl)))
                clear ha h1 h2
                go_upto_region 9 with fail
                refine wp_region_held_drew (S := fun W => Below wr.heap.size wr W) (by kernel_rfl) ((Below.refl _ wr).drew) (fun hS0 => ?_)
                refine takeInH 0 31 ?v12 rfl rfl (by kernel_rfl) (by kernel_rfl) (by kernel_rfl) (fun _ _ _ h => h) (by kernel_rfl) hS0 ?hy12 ?_
                case hy12 => (intro W hW; clear hW; go_simp; try rfl)
                simp only [Act.put, List.setIfInBounds_toArray, List.set_cons_zero, List.set_cons_succ]
                refine takeInH 1 32 ?v13 rfl rfl (by kernel_rfl) (by kernel_rfl) (by kernel_rfl) (fun _ _ _ h => h) (by kernel_rfl) hS0 ?hy13 ?_
                case hy13 => (intro W hW; clear hW; go_simp; try rfl)
                simp only [Act.put, List.setIfInBounds_toArray, List.set_cons_zero, List.set_cons_succ]
                refine takeInH 2 33 ?v14 rfl rfl (by kernel_rfl) (by kernel_rfl) (by kernel_rfl) (fun _ _ _ h => h) (by kernel_rfl) hS0 ?hy14 ?_
                case hy14 => (intro W hW; clear hW; go_simp; try rfl)
                simp only [Act.put, List.setIfInBounds_toArray, List.set_cons_zero, List.set_cons_succ]
                refine takeInH 3 34 ?v15 rfl rfl (by kernel_rfl) (by kernel_rfl) (by kernel_rfl) (fun _ _ _ h => h) (by kernel_rfl) hS0 ?hy15 ?_
                case hy15 => (intro W hW; have e0 := bcell hW c0; have e1 := bcell hW c1; have e2 := bcell hW c2; have e3 := bcell hW c3; have e4 := bcell hW d0; have e5 := bcell hW d1; have e6 := bcell hW d2; have e7 := bcell hW d3; clear hW; go_simp; try rfl)
                simp only [Act.put, List.setIfInBounds_toArray, List.set_cons_zero, List.set_cons_succ]
                refine takeInH 4 35 ?v16 rfl rfl (by kernel_rfl) (by kernel_rfl) (by kernel_rfl) (fun _ _ _ h => h) (by kernel_rfl) hS0 ?hy16 ?_
                case hy16 => (intro W hW; clear hW; go_simp; try rfl)
                simp only [Act.put, List.setIfInBounds_toArray, List.set_cons_zero, List.set_cons_succ]
                refine takeInH 5 36 ?v17 rfl rfl (by kernel_rfl) (by kernel_rfl) (by kernel_rfl) (fun _ _ _ h => h) (by kernel_rfl) hS0 ?hy17 ?_
                case hy17 => (intro W hW; clear hW; go_simp; try rfl)
                simp only [Act.put, List.setIfInBounds_toArray, List.set_cons_zero, List.set_cons_succ]
                refine takeInH 6 37 ?v18 rfl rfl (by kernel_rfl) (by kernel_rfl) (by kernel_rfl) (fun _ _ _ h => h) (by kernel_rfl) hS0 ?hy18 ?_
                case hy18 => (intro W hW; clear hW; go_simp; try rfl)
                simp only [Act.put, List.setIfInBounds_toArray, List.set_cons_zero, List.set_cons_succ]
                refine takeInH 7 38 ?v19 rfl rfl (by kernel_rfl) (by kernel_rfl) (by kernel_rfl) (fun _ _ _ h => h) (by kernel_rfl) hS0 ?hy19 ?_
                case hy19 => (intro W hW; have e0 := bcell hW c0; have e1 := bcell hW c1; have e2 := bcell hW c2; have e3 := bcell hW c3; have e4 := bcell hW d0; have e5 := bcell hW d1; have e6 := bcell hW d2; have e7 := bcell hW d3; clear hW; go_simp; try rfl)
                simp only [Act.put, List.setIfInBounds_toArray, List.set_cons_zero, List.set_cons_succ]
                refine wpAnyH_ready (rs := [8]) (by kernel_rfl) (by simp) ?_
                refine AllReadyH.cons rfl (fun K hK => ?_) AllReadyH.nil
                go_simp
                refine (AheadR_any r s pa na ca pe ne ce r' s' pa' na' ca' pe' ne' ce' c' _ (HN'.out.below hS0)).mono ?_
                rintro e w' ⟨rfl, hb⟩
                rw [show ahdB (r, s) c' = true from HA.out]
                refine hK.out _ _ ?hs20 (fun hS1 => ?_)
                case hs20 => exact bel_next hS0 hb
                clear hK K hb
                try simp only [Act.put, List.setIfInBounds_toArray, List.set_cons_zero, List.set_cons_succ]
                refine takeInH 9 40 ?v21 rfl rfl (by kernel_rfl) (by kernel_rfl) (by kernel_rfl) (fun _ _ _ h => h) (by kernel_rfl) hS1 ?hy21 ?_
                case hy21 => (intro W hW; clear hW; go_simp; try rfl)
                simp only [Act.put, List.setIfInBounds_toArray, List.set_cons_zero, List.set_cons_succ]
                refine takeInH 10 41 ?v22 rfl rfl (by kernel_rfl) (by kernel_rfl) (by kernel_rfl) (fun _ _ _ h => h) (by kernel_rfl) hS1 ?hy22 ?_
                case hy22 => (intro W hW; clear hW; go_simp; try rfl)
                simp only [Act.put, List.setIfInBounds_toArray, List.set_cons_zero, List.set_cons_succ]
                refine takeInH 11 42 ?v23 rfl rfl (by kernel_rfl) (by kernel_rfl) (by kernel_rfl) (fun _ _ _ h => h) (by kernel_rfl) hS1 ?hy23 ?_
                case hy23 => (intro W hW; clear hW; go_simp; try rfl)
                simp only [Act.put, List.setIfInBounds_toArray, List.set_cons_zero, List.set_cons_succ]
                refine takeInH 12 43 ?v24 rfl rfl (by kernel_rfl) (by kernel_rfl) (by kernel_rfl) (fun _ _ _ h => h) (by kernel_rfl) hS1 ?hy24 ?_
                case hy24 => (intro W hW; clear hW; go_simp; try rfl)
                simp only [Act.put, List.setIfInBounds_toArray, List.set_cons_zero, List.set_cons_succ]
                refine takeInH 13 44 ?v25 rfl rfl (by kernel_rfl) (by kernel_rfl) (by kernel_rfl) (fun _ _ _ h => h) (by kernel_rfl) hS1 ?hy25 ?_
                case hy25 => (intro W hW; have e0 := bcell hW c0; have e1 := bcell hW c1; have e2 := bcell hW c2; have e3 := bcell hW c3; have e4 := bcell hW d0; have e5 := bcell hW d1; have e6 := bcell hW d2; have e7 := bcell hW d3; clear hW; go_simp; try rfl)
                simp only [Act.put, List.setIfInBounds_toArray, List.set_cons_zero, List.set_cons_succ]
                refine takeInH 14 45 ?v26 rfl rfl (by kernel_rfl) (by kernel_rfl) (by kernel_rfl) (fun _ _ _ h => h) (by kernel_rfl) hS1 ?hy26 ?_
                case hy26 => (intro W hW; clear hW; go_simp; try rfl)
                simp only [Act.put, List.setIfInBounds_toArray, List.set_cons_zero, List.set_cons_succ]
                refine takeInH 15 46 ?v27 rfl rfl (by kernel_rfl) (by kernel_rfl) (by kernel_rfl) (fun _ _ _ h => h) (by kernel_rfl) hS1 ?hy27 ?_
                case hy27 => (intro W hW; clear hW; go_simp; try rfl)
                simp only [Act.put, List.setIfInBounds_toArray, List.set_cons_zero, List.set_cons_succ]
                refine wpAnyH_ready (rs := [16]) (by kernel_rfl) (by simp) ?_
                refine AllReadyH.cons rfl (fun K hK => ?_) AllReadyH.nil
                go_simp
                refine (Does_any r' s' pa' na' ca' pe' ne' ce' c' l' 1 o k _ (HE'.out.below hS1)).mono ?_
                rintro e w' ⟨rfl, hb⟩
                rw [show doesB ((r', s'), c', l') 1 o k = false from H1.out]
                refine hK.out _ _ ?hs28 (fun hS2 => ?_)
                case hs28 => exact bel_next hS1 hb
                clear hK K hb
                try simp only [Act.put, List.setIfInBounds_toArray, List.set_cons_zero, List.set_cons_succ]
                refine takeInH 17 48 ?v29 rfl rfl (by kernel_rfl) (by kernel_rfl) (by kernel_rfl) (fun _ _ _ h => h) (by kernel_rfl) hS2 ?hy29 ?_
                case hy29 => (intro W hW; clear hW; go_simp; try rfl)
                simp only [Act.put, List.setIfInBounds_toArray, List.set_cons_zero, List.set_cons_succ]
                refine takeInH 18 49 ?v30 rfl rfl (by kernel_rfl) (by kernel_rfl) (by kernel_rfl) (fun _ _ _ h => h) (by kernel_rfl) hS2 ?hy30 ?_
                case hy30 => (intro W hW; clear hW; go_simp; try rfl)
                simp only [Act.put, List.setIfInBounds_toArray, List.set_cons_zero, List.set_cons_succ]
                refine takeInH 19 50 ?v31 rfl rfl (by kernel_rfl) (by kernel_rfl) (by kernel_rfl) (fun _ _ _ h => h) (by kernel_rfl) hS2 ?hy31 ?_
                case hy31 => (intro W hW; clear hW; go_simp; try rfl)
                simp only [Act.put, List.setIfInBounds_toArray, List.set_cons_zero, List.set_cons_succ]
                refine takeInH 20 51 ?v32 rfl rfl (by kernel_rfl) (by kernel_rfl) (by kernel_rfl) (fun _ _ _ h => h) (by kernel_rfl) hS2 ?hy32 ?_
                case hy32 => (intro W hW; clear hW; go_simp; try rfl)
                simp only [Act.put, List.setIfInBounds_toArray, List.set_cons_zero, List.set_cons_succ]
                refine takeInH 21 52 ?v33 rfl rfl (by kernel_rfl) (by kernel_rfl) (by kernel_rfl) (fun _ _ _ h => h) (by kernel_rfl) hS2 ?hy33 ?_
                case hy33 => (intro W hW; have e0 := bcell hW c0; have e1 := bcell hW c1; have e2 := bcell hW c2; have e3 := bcell hW c3; have e4 := bcell hW d0; have e5 := bcell hW d1; have e6 := bcell hW d2; have e7 := bcell hW d3; clear hW; go_simp; try rfl)
                simp only [Act.put, List.setIfInBounds_toArray, List.set_cons_zero, List.set_cons_succ]
                refine takeInH 22 53 ?v34 rfl rfl (by kernel_rfl) (by kernel_rfl) (by kernel_rfl) (fun _ _ _ h => h) (by kernel_rfl) hS2 ?hy34 ?_
                case hy34 => (intro W hW; clear hW; go_simp; try rfl)
                simp only [Act.put, List.setIfInBounds_toArray, List.set_cons_zero, List.set_cons_succ]
                refine takeInH 23 54 ?v35 rfl rfl (by kernel_rfl) (by kernel_rfl) (by kernel_rfl) (fun _ _ _ h => h) (by kernel_rfl) hS2 ?hy35 ?_
                case hy35 => (intro W hW; clear hW; go_simp; try rfl)
                simp only [Act.put, List.setIfInBounds_toArray, List.set_cons_zero, List.set_cons_succ]
                refine wpAnyH_ready (rs := [24]) (by kernel_rfl) (by simp) ?_
                refine AllReadyH.cons rfl (fun K hK => ?_) AllReadyH.nil
                go_simp
                refine (Does_any r' s' pa' na' ca' pe' ne' ce' c' l' 2 o k _ (HE'.out.below hS2)).mono ?_
                rintro e w' ⟨rfl, hb⟩
                rw [show doesB ((r', s'), c', l') 2 o k = false from H2.out]
                refine hK.out _ _ ?hs36 (fun hS3 => ?_)
                case hs36 => exact bel_next hS2 hb
                clear hK K hb
                try simp only [Act.put, List.setIfInBounds_toArray, List.set_cons_zero, List.set_cons_succ]
                refine takeInH 25 56 ?v37 rfl rfl (by kernel_rfl) (by kernel_rfl) (by kernel_rfl) (fun _ _ _ h => h) (by kernel_rfl) hS3 ?hy37 ?_
                case hy37 => (intro W hW; clear hW; go_simp; try rfl)
                simp only [Act.put, List.setIfInBounds_toArray, List.set_cons_zero, List.set_cons_succ]
                refine takeInH 26 57 ?v38 rfl rfl (by kernel_rfl) (by kernel_rfl) (by kernel_rfl) (fun _ _ _ h => h) (by kernel_rfl) hS3 ?hy38 ?_
                case hy38 => (intro W hW; clear hW; go_simp; try rfl)
                simp only [Act.put, List.setIfInBounds_toArray, List.set_cons_zero, List.set_cons_succ]
                refine wpAnyH_done (by kernel_rfl) ?_ _
                go_wp2
                go_roundw
                case rel => exact ⟨j + 1, lv, by omega, by go_num, rfl, HF2, (show Hid _ from bel_next HB2.out hS3)⟩
                case measure => simp [intOf]; omega
              · have H2 := hide h2
                have HF2 := hide (live_stop (b := b0) (e := ((r, s), c, le)) (o := o) (k := k) HJ.out ha (by unfold touchB; rw [h2, Bool.or_true]))
                clear ha h1 h2
                go_upto_region 9 with fail
                refine wp_region_held_drew (S := fun W => Below wr.heap.size wr W) (by kernel_rfl) ((Below.refl _ wr).drew) (fun hS0 => ?_)
                refine takeInH 0 31 ?v39 rfl rfl (by kernel_rfl) (by kernel_rfl) (by kernel_rfl) (fun _ _ _ h => h) (by kernel_rfl) hS0 ?hy39 ?_
                case hy39 => (intro W hW; clear hW; go_simp; try rfl)
                simp only [Act.put, List.setIfInBounds_toArray, List.set_cons_zero, List.set_cons_succ]
                refine takeInH 1 32 ?v40 rfl rfl (by kernel_rfl) (by kernel_rfl) (by kernel_rfl) (fun _ _ _ h => h) (by kernel_rfl) hS0 ?hy40 ?_
                case hy40 => (intro W hW; clear hW; go_simp; try rfl)
                simp only [Act.put, List.setIfInBounds_toArray, List.set_cons_zero, List.set_cons_succ]
                refine takeInH 2 33 ?v41 rfl rfl (by kernel_rfl) (by kernel_rfl) (by kernel_rfl) (fun _ _ _ h => h) (by kernel_rfl) hS0 ?hy41 ?_
                case hy41 => (intro W hW; clear hW; go_simp; try rfl)
                simp only [Act.put, List.setIfInBounds_toArray, List.set_cons_zero, List.set_cons_succ]
                refine takeInH 3 34 ?v42 rfl rfl (by kernel_rfl) (by kernel_rfl) (by kernel_rfl) (fun _ _ _ h => h) (by kernel_rfl) hS0 ?hy42 ?_
                case hy42 => (intro W hW; have e0 := bcell hW c0; have e1 := bcell hW c1; have e2 := bcell hW c2; have e3 := bcell hW c3; have e4 := bcell hW d0; have e5 := bcell hW d1; have e6 := bcell hW d2; have e7 := bcell hW d3; clear hW; go_simp; try rfl)
                simp only [Act.put, List.setIfInBounds_toArray, List.set_cons_zero, List.set_cons_succ]
                refine takeInH 4 35 ?v43 rfl rfl (by kernel_rfl) (by kernel_rfl) (by kernel_rfl) (fun _ _ _ h => h) (by kernel_rfl) hS0 ?hy43 ?_
                case hy43 => (intro W hW; clear hW; go_simp; try rfl)
                simp only [Act.put, List.setIfInBounds_toArray, List.set_cons_zero, List.set_cons_succ]
                refine takeInH 5 36 ?v44 rfl rfl (by kernel_rfl) (by kernel_rfl) (by kernel_rfl) (fun _ _ _ h => h) (by kernel_rfl) hS0 ?hy44 ?_
                case hy44 => (intro W hW; clear hW; go_simp; try rfl)
                simp only [Act.put, List.setIfInBounds_toArray, List.set_cons_zero, List.set_cons_succ]
                refine takeInH 6 37 ?v45 rfl rfl (by kernel_rfl) (by kernel_rfl) (by kernel_rfl) (fun _ _ _ h => h) (by kernel_rfl) hS0 ?hy45 ?_
                case hy45 => (intro W hW; clear hW; go_simp; try rfl)
                simp only [Act.put, List.setIfInBounds_toArray, List.set_cons_zero, List.set_cons_succ]
                refine takeInH 7 38 ?v46 rfl rfl (by kernel_rfl) (by kernel_rfl) (by kernel_rfl) (fun _ _ _ h => h) (by kernel_rfl) hS0 ?hy46 ?_
                case hy46 => (intro W hW; have e0 := bcell hW c0; have e1 := bcell hW c1; have e2 := bcell hW c2; have e3 := bcell hW c3; have e4 := bcell hW d0; have e5 := bcell hW d1; have e6 := bcell hW d2; have e7 := bcell hW d3; clear hW; go_simp; try rfl)
                simp only [Act.put, List.setIfInBounds_toArray, List.set_cons_zero, List.set_cons_succ]
                refine wpAnyH_ready (rs := [8]) (by kernel_rfl) (by simp) ?_
                refine AllReadyH.cons rfl (fun K hK => ?_) AllReadyH.nil
                go_simp
                refine (AheadR_any r s pa na ca pe ne ce r' s' pa' na' ca' pe' ne' ce' c' _ (HN'.out.below hS0)).mono ?_
                rintro e w' ⟨rfl, hb⟩
                rw [show ahdB (r, s) c' = true from HA.out]
                refine hK.out _ _ ?hs47 (fun hS1 => ?_)
                case hs47 => exact bel_next hS0 hb
                clear hK K hb
                try simp only [Act.put, List.setIfInBounds_toArray, List.set_cons_zero, List.set_cons_succ]
                refine takeInH 9 40 ?v48 rfl rfl (by kernel_rfl) (by kernel_rfl) (by kernel_rfl) (fun _ _ _ h => h) (by kernel_rfl) hS1 ?hy48 ?_
                case hy48 => (intro W hW; clear hW; go_simp; try rfl)
                simp only [Act.put, List.setIfInBounds_toArray, List.set_cons_zero, List.set_cons_succ]
                refine takeInH 10 41 ?v49 rfl rfl (by kernel_rfl) (by kernel_rfl) (by kernel_rfl) (fun _ _ _ h => h) (by kernel_rfl) hS1 ?hy49 ?_
                case hy49 => (intro W hW; clear hW; go_simp; try rfl)
                simp only [Act.put, List.setIfInBounds_toArray, List.set_cons_zero, List.set_cons_succ]
                refine takeInH 11 42 ?v50 rfl rfl (by kernel_rfl) (by kernel_rfl) (by kernel_rfl) (fun _ _ _ h => h) (by kernel_rfl) hS1 ?hy50 ?_
                case hy50 => (intro W hW; clear hW; go_simp; try rfl)
                simp only [Act.put, List.setIfInBounds_toArray, List.set_cons_zero, List.set_cons_succ]
                refine takeInH 12 43 ?v51 rfl rfl (by kernel_rfl) (by kernel_rfl) (by kernel_rfl) (fun _ _ _ h => h) (by kernel_rfl) hS1 ?hy51 ?_
                case hy51 => (intro W hW; clear hW; go_simp; try rfl)
                simp only [Act.put, List.setIfInBounds_toArray, List.set_cons_zero, List.set_cons_succ]
                refine takeInH 13 44 ?v52 rfl rfl (by kernel_rfl) (by kernel_rfl) (by kernel_rfl) (fun _ _ _ h => h) (by kernel_rfl) hS1 ?hy52 ?_
                case hy52 => (intro W hW; have e0 := bcell hW c0; have e1 := bcell hW c1; have e2 := bcell hW c2; have e3 := bcell hW c3; have e4 := bcell hW d0; have e5 := bcell hW d1; have e6 := bcell hW d2; have e7 := bcell hW d3; clear hW; go_simp; try rfl)
                simp only [Act.put, List.setIfInBounds_toArray, List.set_cons_zero, List.set_cons_succ]
                refine takeInH 14 45 ?v53 rfl rfl (by kernel_rfl) (by kernel_rfl) (by kernel_rfl) (fun _ _ _ h => h) (by kernel_rfl) hS1 ?hy53 ?_
                case hy53 => (intro W hW; clear hW; go_simp; try rfl)
                simp only [Act.put, List.setIfInBounds_toArray, List.set_cons_zero, List.set_cons_succ]
                refine takeInH 15 46 ?v54 rfl rfl (by kernel_rfl) (by kernel_rfl) (by kernel_rfl) (fun _ _ _ h => h) (by kernel_rfl) hS1 ?hy54 ?_
                case hy54 => (intro W hW; clear hW; go_simp; try rfl)
                simp only [Act.put, List.setIfInBounds_toArray, List.set_cons_zero, List.set_cons_succ]
                refine wpAnyH_ready (rs := [16]) (by kernel_rfl) (by simp) ?_
                refine AllReadyH.cons rfl (fun K hK => ?_) AllReadyH.nil
                go_simp
                refine (Does_any r' s' pa' na' ca' pe' ne' ce' c' l' 1 o k _ (HE'.out.below hS1)).mono ?_
                rintro e w' ⟨rfl, hb⟩
                rw [show doesB ((r', s'), c', l') 1 o k = false from H1.out]
                refine hK.out _ _ ?hs55 (fun hS2 => ?_)
                case hs55 => exact bel_next hS1 hb
                clear hK K hb
                try simp only [Act.put, List.setIfInBounds_toArray, List.set_cons_zero, List.set_cons_succ]
                refine takeInH 17 48 ?v56 rfl rfl (by kernel_rfl) (by kernel_rfl) (by kernel_rfl) (fun _ _ _ h => h) (by kernel_rfl) hS2 ?hy56 ?_
                case hy56 => (intro W hW; clear hW; go_simp; try rfl)
                simp only [Act.put, List.setIfInBounds_toArray, List.set_cons_zero, List.set_cons_succ]
                refine takeInH 18 49 ?v57 rfl rfl (by kernel_rfl) (by kernel_rfl) (by kernel_rfl) (fun _ _ _ h => h) (by kernel_rfl) hS2 ?hy57 ?_
                case hy57 => (intro W hW; clear hW; go_simp; try rfl)
                simp only [Act.put, List.setIfInBounds_toArray, List.set_cons_zero, List.set_cons_succ]
                refine takeInH 19 50 ?v58 rfl rfl (by kernel_rfl) (by kernel_rfl) (by kernel_rfl) (fun _ _ _ h => h) (by kernel_rfl) hS2 ?hy58 ?_
                case hy58 => (intro W hW; clear hW; go_simp; try rfl)
                simp only [Act.put, List.setIfInBounds_toArray, List.set_cons_zero, List.set_cons_succ]
                refine takeInH 20 51 ?v59 rfl rfl (by kernel_rfl) (by kernel_rfl) (by kernel_rfl) (fun _ _ _ h => h) (by kernel_rfl) hS2 ?hy59 ?_
                case hy59 => (intro W hW; clear hW; go_simp; try rfl)
                simp only [Act.put, List.setIfInBounds_toArray, List.set_cons_zero, List.set_cons_succ]
                refine takeInH 21 52 ?v60 rfl rfl (by kernel_rfl) (by kernel_rfl) (by kernel_rfl) (fun _ _ _ h => h) (by kernel_rfl) hS2 ?hy60 ?_
                case hy60 => (intro W hW; have e0 := bcell hW c0; have e1 := bcell hW c1; have e2 := bcell hW c2; have e3 := bcell hW c3; have e4 := bcell hW d0; have e5 := bcell hW d1; have e6 := bcell hW d2; have e7 := bcell hW d3; clear hW; go_simp; try rfl)
                simp only [Act.put, List.setIfInBounds_toArray, List.set_cons_zero, List.set_cons_succ]
                refine takeInH 22 53 ?v61 rfl rfl (by kernel_rfl) (by kernel_rfl) (by kernel_rfl) (fun _ _ _ h => h) (by kernel_rfl) hS2 ?hy61 ?_
                case hy61 => (intro W hW; clear hW; go_simp; try rfl)
                simp only [Act.put, List.setIfInBounds_toArray, List.set_cons_zero, List.set_cons_succ]
                refine takeInH 23 54 ?v62 rfl rfl (by kernel_rfl) (by kernel_rfl) (by kernel_rfl) (fun _ _ _ h => h) (by kernel_rfl) hS2 ?hy62 ?_
                case hy62 => (intro W hW; clear hW; go_simp; try rfl)
                simp only [Act.put, List.setIfInBounds_toArray, List.set_cons_zero, List.set_cons_succ]
                refine wpAnyH_ready (rs := [24]) (by kernel_rfl) (by simp) ?_
                refine AllReadyH.cons rfl (fun K hK => ?_) AllReadyH.nil
                go_simp
                refine (Does_any r' s' pa' na' ca' pe' ne' ce' c' l' 2 o k _ (HE'.out.below hS2)).mono ?_
                rintro e w' ⟨rfl, hb⟩
                rw [show doesB ((r', s'), c', l') 2 o k = true from H2.out]
                refine hK.out _ _ ?hs63 (fun hS3 => ?_)
                case hs63 => exact bel_next hS2 hb
                clear hK K hb
                try simp only [Act.put, List.setIfInBounds_toArray, List.set_cons_zero, List.set_cons_succ]
                refine takeInH 25 56 ?v64 rfl rfl (by kernel_rfl) (by kernel_rfl) (by kernel_rfl) (fun _ _ _ h => h) (by kernel_rfl) hS3 ?hy64 ?_
                case hy64 => (intro W hW; clear hW; go_simp; try rfl)
                simp only [Act.put, List.setIfInBounds_toArray, List.set_cons_zero, List.set_cons_succ]
                refine takeInH 26 57 ?v65 rfl rfl (by kernel_rfl) (by kernel_rfl) (by kernel_rfl) (fun _ _ _ h => h) (by kernel_rfl) hS3 ?hy65 ?_
                case hy65 => (intro W hW; clear hW; go_simp; try rfl)
                simp only [Act.put, List.setIfInBounds_toArray, List.set_cons_zero, List.set_cons_succ]
                refine wpAnyH_done (by kernel_rfl) ?_ _
                go_wp2
                go_roundw
                case rel => exact ⟨j + 1, false, by omega, by go_num, rfl, HF2, (show Hid _ from bel_next HB2.out hS3)⟩
                case measure => simp [intOf]; omega
            · have H1 := hide h1
              have HF2 := hide (live_stop (b := b0) (e := ((r, s), c, le)) (o := o) (k := k) HJ.out ha (by unfold touchB; rw [h1]; rfl))
              clear ha h1
              go_upto_region 9 with fail
              refine wp_region_held_drew (S := fun W => Below wr.heap.size wr W) (by kernel_rfl) ((Below.refl _ wr).drew) (fun hS0 => ?_)
              refine takeInH 0 31 ?v66 rfl rfl (by kernel_rfl) (by kernel_rfl) (by kernel_rfl) (fun _ _ _ h => h) (by kernel_rfl) hS0 ?hy66 ?_
              case hy66 => (intro W hW; clear hW; go_simp; try rfl)
              simp only [Act.put, List.setIfInBounds_toArray, List.set_cons_zero, List.set_cons_succ]
              refine takeInH 1 32 ?v67 rfl rfl (by kernel_rfl) (by kernel_rfl) (by kernel_rfl) (fun _ _ _ h => h) (by kernel_rfl) hS0 ?hy67 ?_
              case hy67 => (intro W hW; clear hW; go_simp; try rfl)
              simp only [Act.put, List.setIfInBounds_toArray, List.set_cons_zero, List.set_cons_succ]
              refine takeInH 2 33 ?v68 rfl rfl (by kernel_rfl) (by kernel_rfl) (by kernel_rfl) (fun _ _ _ h => h) (by kernel_rfl) hS0 ?hy68 ?_
              case hy68 => (intro W hW; clear hW; go_simp; try rfl)
              simp only [Act.put, List.setIfInBounds_toArray, List.set_cons_zero, List.set_cons_succ]
              refine takeInH 3 34 ?v69 rfl rfl (by kernel_rfl) (by kernel_rfl) (by kernel_rfl) (fun _ _ _ h => h) (by kernel_rfl) hS0 ?hy69 ?_
              case hy69 => (intro W hW; have e0 := bcell hW c0; have e1 := bcell hW c1; have e2 := bcell hW c2; have e3 := bcell hW c3; have e4 := bcell hW d0; have e5 := bcell hW d1; have e6 := bcell hW d2; have e7 := bcell hW d3; clear hW; go_simp; try rfl)
              simp only [Act.put, List.setIfInBounds_toArray, List.set_cons_zero, List.set_cons_succ]
              refine takeInH 4 35 ?v70 rfl rfl (by kernel_rfl) (by kernel_rfl) (by kernel_rfl) (fun _ _ _ h => h) (by kernel_rfl) hS0 ?hy70 ?_
              case hy70 => (intro W hW; clear hW; go_simp; try rfl)
              simp only [Act.put, List.setIfInBounds_toArray, List.set_cons_zero, List.set_cons_succ]
              refine takeInH 5 36 ?v71 rfl rfl (by kernel_rfl) (by kernel_rfl) (by kernel_rfl) (fun _ _ _ h => h) (by kernel_rfl) hS0 ?hy71 ?_
              case hy71 => (intro W hW; clear hW; go_simp; try rfl)
              simp only [Act.put, List.setIfInBounds_toArray, List.set_cons_zero, List.set_cons_succ]
              refine takeInH 6 37 ?v72 rfl rfl (by kernel_rfl) (by kernel_rfl) (by kernel_rfl) (fun _ _ _ h => h) (by kernel_rfl) hS0 ?hy72 ?_
              case hy72 => (intro W hW; clear hW; go_simp; try rfl)
              simp only [Act.put, List.setIfInBounds_toArray, List.set_cons_zero, List.set_cons_succ]
              refine takeInH 7 38 ?v73 rfl rfl (by kernel_rfl) (by kernel_rfl) (by kernel_rfl) (fun _ _ _ h => h) (by kernel_rfl) hS0 ?hy73 ?_
              case hy73 => (intro W hW; have e0 := bcell hW c0; have e1 := bcell hW c1; have e2 := bcell hW c2; have e3 := bcell hW c3; have e4 := bcell hW d0; have e5 := bcell hW d1; have e6 := bcell hW d2; have e7 := bcell hW d3; clear hW; go_simp; try rfl)
              simp only [Act.put, List.setIfInBounds_toArray, List.set_cons_zero, List.set_cons_succ]
              refine wpAnyH_ready (rs := [8]) (by kernel_rfl) (by simp) ?_
              refine AllReadyH.cons rfl (fun K hK => ?_) AllReadyH.nil
              go_simp
              refine (AheadR_any r s pa na ca pe ne ce r' s' pa' na' ca' pe' ne' ce' c' _ (HN'.out.below hS0)).mono ?_
              rintro e w' ⟨rfl, hb⟩
              rw [show ahdB (r, s) c' = true from HA.out]
              refine hK.out _ _ ?hs74 (fun hS1 => ?_)
              case hs74 => exact bel_next hS0 hb
              clear hK K hb
              try simp only [Act.put, List.setIfInBounds_toArray, List.set_cons_zero, List.set_cons_succ]
              refine takeInH 9 40 ?v75 rfl rfl (by kernel_rfl) (by kernel_rfl) (by kernel_rfl) (fun _ _ _ h => h) (by kernel_rfl) hS1 ?hy75 ?_
              case hy75 => (intro W hW; clear hW; go_simp; try rfl)
              simp only [Act.put, List.setIfInBounds_toArray, List.set_cons_zero, List.set_cons_succ]
              refine takeInH 10 41 ?v76 rfl rfl (by kernel_rfl) (by kernel_rfl) (by kernel_rfl) (fun _ _ _ h => h) (by kernel_rfl) hS1 ?hy76 ?_
              case hy76 => (intro W hW; clear hW; go_simp; try rfl)
              simp only [Act.put, List.setIfInBounds_toArray, List.set_cons_zero, List.set_cons_succ]
              refine takeInH 11 42 ?v77 rfl rfl (by kernel_rfl) (by kernel_rfl) (by kernel_rfl) (fun _ _ _ h => h) (by kernel_rfl) hS1 ?hy77 ?_
              case hy77 => (intro W hW; clear hW; go_simp; try rfl)
              simp only [Act.put, List.setIfInBounds_toArray, List.set_cons_zero, List.set_cons_succ]
              refine takeInH 12 43 ?v78 rfl rfl (by kernel_rfl) (by kernel_rfl) (by kernel_rfl) (fun _ _ _ h => h) (by kernel_rfl) hS1 ?hy78 ?_
              case hy78 => (intro W hW; clear hW; go_simp; try rfl)
              simp only [Act.put, List.setIfInBounds_toArray, List.set_cons_zero, List.set_cons_succ]
              refine takeInH 13 44 ?v79 rfl rfl (by kernel_rfl) (by kernel_rfl) (by kernel_rfl) (fun _ _ _ h => h) (by kernel_rfl) hS1 ?hy79 ?_
              case hy79 => (intro W hW; have e0 := bcell hW c0; have e1 := bcell hW c1; have e2 := bcell hW c2; have e3 := bcell hW c3; have e4 := bcell hW d0; have e5 := bcell hW d1; have e6 := bcell hW d2; have e7 := bcell hW d3; clear hW; go_simp; try rfl)
              simp only [Act.put, List.setIfInBounds_toArray, List.set_cons_zero, List.set_cons_succ]
              refine takeInH 14 45 ?v80 rfl rfl (by kernel_rfl) (by kernel_rfl) (by kernel_rfl) (fun _ _ _ h => h) (by kernel_rfl) hS1 ?hy80 ?_
              case hy80 => (intro W hW; clear hW; go_simp; try rfl)
              simp only [Act.put, List.setIfInBounds_toArray, List.set_cons_zero, List.set_cons_succ]
              refine takeInH 15 46 ?v81 rfl rfl (by kernel_rfl) (by kernel_rfl) (by kernel_rfl) (fun _ _ _ h => h) (by kernel_rfl) hS1 ?hy81 ?_
              case hy81 => (intro W hW; clear hW; go_simp; try rfl)
              simp only [Act.put, List.setIfInBounds_toArray, List.set_cons_zero, List.set_cons_succ]
              refine wpAnyH_ready (rs := [16]) (by kernel_rfl) (by simp) ?_
              refine AllReadyH.cons rfl (fun K hK => ?_) AllReadyH.nil
              go_simp
              refine (Does_any r' s' pa' na' ca' pe' ne' ce' c' l' 1 o k _ (HE'.out.below hS1)).mono ?_
              rintro e w' ⟨rfl, hb⟩
              rw [show doesB ((r', s'), c', l') 1 o k = true from H1.out]
              refine hK.out _ _ ?hs82 (fun hS2 => ?_)
              case hs82 => exact bel_next hS1 hb
              clear hK K hb
              try simp only [Act.put, List.setIfInBounds_toArray, List.set_cons_zero, List.set_cons_succ]
              refine takeInH 17 48 ?v83 rfl rfl (by kernel_rfl) (by kernel_rfl) (by kernel_rfl) (fun _ _ _ h => h) (by kernel_rfl) hS2 ?hy83 ?_
              case hy83 => (intro W hW; clear hW; go_simp; try rfl)
              simp only [Act.put, List.setIfInBounds_toArray, List.set_cons_zero, List.set_cons_succ]
              refine takeNoH 18 49 rfl rfl (by kernel_rfl) (by kernel_rfl) (by kernel_rfl) (fun _ _ _ h => h) (by kernel_rfl) hS2 ?_
              simp only [Act.put, List.setIfInBounds_toArray, List.set_cons_zero, List.set_cons_succ]
              refine takeNoH 19 50 rfl rfl (by kernel_rfl) (by kernel_rfl) (by kernel_rfl) (fun _ _ _ h => h) (by kernel_rfl) hS2 ?_
              simp only [Act.put, List.setIfInBounds_toArray, List.set_cons_zero, List.set_cons_succ]
              refine takeNoH 20 51 rfl rfl (by kernel_rfl) (by kernel_rfl) (by kernel_rfl) (fun _ _ _ h => h) (by kernel_rfl) hS2 ?_
              simp only [Act.put, List.setIfInBounds_toArray, List.set_cons_zero, List.set_cons_succ]
              refine takeNoH 21 52 rfl rfl (by kernel_rfl) (by kernel_rfl) (by kernel_rfl) (fun _ _ _ h => h) (by kernel_rfl) hS2 ?_
              simp only [Act.put, List.setIfInBounds_toArray, List.set_cons_zero, List.set_cons_succ]
              refine takeNoH 22 53 rfl rfl (by kernel_rfl) (by kernel_rfl) (by kernel_rfl) (fun _ _ _ h => h) (by kernel_rfl) hS2 ?_
              simp only [Act.put, List.setIfInBounds_toArray, List.set_cons_zero, List.set_cons_succ]
              refine takeNoH 23 54 rfl rfl (by kernel_rfl) (by kernel_rfl) (by kernel_rfl) (fun _ _ _ h => h) (by kernel_rfl) hS2 ?_
              simp only [Act.put, List.setIfInBounds_toArray, List.set_cons_zero, List.set_cons_succ]
              refine takeNoH 24 55 rfl rfl (by kernel_rfl) (by kernel_rfl) (by kernel_rfl) (fun _ _ _ h => h) (by kernel_rfl) hS2 ?_
              simp only [Act.put, List.setIfInBounds_toArray, List.set_cons_zero, List.set_cons_succ]
              refine takeInH 25 56 ?v84 rfl rfl (by kernel_rfl) (by kernel_rfl) (by kernel_rfl) (fun _ _ _ h => h) (by kernel_rfl) hS2 ?hy84 ?_
              case hy84 => (intro W hW; clear hW; go_simp; try rfl)
              simp only [Act.put, List.setIfInBounds_toArray, List.set_cons_zero, List.set_cons_succ]
              refine takeInH 26 57 ?v85 rfl rfl (by kernel_rfl) (by kernel_rfl) (by kernel_rfl) (fun _ _ _ h => h) (by kernel_rfl) hS2 ?hy85 ?_
              case hy85 => (intro W hW; clear hW; go_simp; try rfl)
              simp only [Act.put, List.setIfInBounds_toArray, List.set_cons_zero, List.set_cons_succ]
              refine wpAnyH_done (by kernel_rfl) ?_ _
              go_wp2
              go_roundw
              case rel => exact ⟨j + 1, false, by omega, by go_num, rfl, HF2, (show Hid _ from bel_next HB2.out hS2)⟩
              case measure => simp [intOf]; omega
        · obtain rfl : j = n := by omega
          have HFL : Hid (liveB l o k ((r, s), c, le) = lv) := by
            have q := HF.out
            rw [← HLEN.out, List.take_length] at q
            rw [q]
            unfold Hid liveB
            rw [HB0.out]
          clear HF
          cases lv
          · have HU := hide (liveU_no HX.out HFL.out)
            replace HO := hide (HO.out.below HB2.out)
            rw [← HU.out] at HO
            go_wp2
            go_roundw
            case rel => exact ⟨i + 1, by omega, by go_num, HO, HBA⟩
            case measure => simp [intOf]; omega
          · have HU := hide (liveU_yes HX.out HFL.out)
            have HLU := hide (liveU_len l o k i)
            replace HO := hide (HO.out.below HB2.out)
            go_wp2_with (go_at_call 38; refine (PutR_any _ _ (liveU l o k i) (r, s) _ HO.out HBA.out.size (by have := HLU.out; rw [HLEN.out] at this; omega)).mono ?_; rintro e w3 ⟨v3, rfl, ho3, hb3⟩)
            have HO3 := hide ho3
            rw [← show liveU l o k (i + 1) = putD (liveU l o k i) (r, s) from HU.out] at HO3
            go_roundw
            case rel => exact ⟨i + 1, by omega, by go_num, HO3, (show Hid _ from bel_next HBA.out hb3)⟩
            case measure => simp [intOf]; omega
    · obtain rfl : i = n := by omega
      have HU : Hid (liveU l o k i = liveL l o k) := by unfold Hid liveU liveL; rw [← HLEN.out, List.take_length]
      rw [HU.out] at HO
      go_wp2
      go_ret
      exact ⟨_, rfl, HO.out, HB.out⟩
end Go.Proofs.Ytoogahfmjgajpaa
