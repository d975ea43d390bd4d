/- What the document's 'Read' does. -/
import Derived.Test.YtbeknlpoialgiaaRRead
namespace Go.Proofs.Ytbeknlpoialgiaa
open Go.RowKit
set_option linter.unusedVariables false

theorem takeIn {P : Program} {md : Region.Mode} {ops : Array Oper} {Q : Exit → Act → World → Prop} (i d : Nat) (v : Value) {oi : Oper} {fuel : Nat} {listed : Array Bool} {a : Act} {w : World} (hi : ops[i]? = some oi) (hd : oi.dst = some d)
    (hs : Region.noSelect ops = true) (hf : Region.free md ops listed i = true) (hr : (Region.ready md ops listed).contains i = true)
    (hQ : ∀ c a w, Q (.panic c) (a.put oi.dst v) w → Q (.panic c) a w) (hw : Region.wanted oi (yielded ops a.tmps) = true) (hy : ∀ w, (execOp a.eval oi).run P w = .ok (.value v) w)
    (h : wpAny P md ops Q fuel (listed.setIfInBounds i true) (a.put (some d) v) w) : wpAny P md ops Q (fuel + 1) listed a w :=
  wpAny_take hi hs hf hr hQ (Or.inl ⟨hw, hy⟩) (by rw [hd]; exact h)
theorem takeNo {P : Program} {md : Region.Mode} {ops : Array Oper} {Q : Exit → Act → World → Prop} (i d : Nat) {oi : Oper} {fuel : Nat} {listed : Array Bool} {a : Act} {w : World} (hi : ops[i]? = some oi) (hd : oi.dst = some d)
    (hs : Region.noSelect ops = true) (hf : Region.free md ops listed i = true) (hr : (Region.ready md ops listed).contains i = true)
    (hQ : ∀ c a w, Q (.panic c) (a.put oi.dst undef) w → Q (.panic c) a w) (hw : Region.wanted oi (yielded ops a.tmps) = false)
    (h : wpAny P md ops Q fuel (listed.setIfInBounds i true) (a.put (some d) undef) w) : wpAny P md ops Q (fuel + 1) listed a w :=
  wpAny_take hi hs hf hr hQ (Or.inr ⟨hw, rfl⟩) (by rw [hd]; exact h)

theorem rgetNum_no (a : Option Addr) (n c : Nat) (l : List Int) (w : World) (hg : getNum l = none) (hA : BS w a n l) (hC : CP a n c) :
    Calls Try.prog 46 #[.slice a n c] w fun e w' => e = .returned (.tuple #[.int .u64 0, .int .i64 0]) ∧ Below w.heap.size w w' := by
  refine (refGetNum_any a n c l w hA hC).mono ?_
  rintro e w1 ⟨(⟨_, rfl⟩ | ⟨x, m, h, rfl⟩), hb⟩
  · exact ⟨rfl, hb⟩
  · rw [hg] at h; cases h
theorem rgetNum_yes (a : Option Addr) (n c : Nat) (l : List Int) (w : World) (x : Int) (m : Nat) (hg : getNum l = some (x, m)) (hA : BS w a n l) (hC : CP a n c) :
    Calls Try.prog 46 #[.slice a n c] w fun e w' => e = .returned (.tuple #[.int .u64 x, .int .i64 (m : Int)]) ∧ Below w.heap.size w w' := by
  refine (refGetNum_any a n c l w hA hC).mono ?_
  rintro e w1 ⟨(⟨h, rfl⟩ | ⟨y, k, h, rfl⟩), hb⟩
  · rw [hg] at h; cases h
  · rw [hg] at h; cases h; exact ⟨rfl, hb⟩
theorem runpack_no (a : Option Addr) (n c : Nat) (l : List Int) (w : World) (hu : unpack l 5 = none) (hA : BS w a n l) (hC : CP a n c) :
    Calls Try.prog 45 #[.slice a n c, .int .i64 5] w fun e w' => e = .returned (.tuple #[.slice none 0 0, .int .i64 0]) ∧ Below w.heap.size w w' := by
  refine (refUnpack_any a n c l 5 w hA hC (by omega) (by omega)).mono ?_
  rintro e w1 ⟨(⟨_, rfl⟩ | ⟨qs, m, v, h, _⟩), hb⟩
  · exact ⟨rfl, hb⟩
  · rw [hu] at h; cases h
theorem runpack_yes (a : Option Addr) (n c : Nat) (l : List Int) (w : World) (ts : List (List Int)) (m : Nat) (hu : unpack l 5 = some (ts, m)) (hA : BS w a n l) (hC : CP a n c) :
    Calls Try.prog 45 #[.slice a n c, .int .i64 5] w fun e w' => ∃ p cp, e = .returned (.tuple #[.slice p ts.length cp, .int .i64 (m : Int)]) ∧ PC w' p ts.length ts ∧ Below w.heap.size w w' := by
  refine (refUnpack_any a n c l 5 w hA hC (by omega) (by omega)).mono ?_
  rintro e w1 ⟨(⟨h, _⟩ | ⟨qs, k, v, h, rfl, hO⟩), hb⟩
  · rw [hu] at h; cases h
  · rw [hu] at h
    simp only [Option.some.injEq, Prod.mk.injEq] at h
    obtain ⟨rfl, rfl⟩ := h
    obtain ⟨p, cp, rfl, hpc, _⟩ := hO.open
    exact ⟨p, cp, by simp, by simpa using hpc, hb⟩

theorem rfC_none {b : List Int} (h : unpack b 5 = none) : rfC b = none := by unfold rfC; rw [h]
theorem rfC_bad {b : List Int} {ts : List (List Int)} {m : Nat} (h : unpack b 5 = some (ts, m)) (h2 : rfAll ts = none) : rfC b = none := by unfold rfC; rw [h]; simp only [h2]
theorem rfC_nought {b : List Int} {ts : List (List Int)} {m : Nat} {c : List Int} (h : unpack b 5 = some (ts, m)) (h2 : rfAll ts = some c) (h3 : ¬ putC c = b.take m) : rfC b = none := by unfold rfC; rw [h]; simp only [h2]; rw [if_neg h3]
theorem rfC_ok {b : List Int} {ts : List (List Int)} {m : Nat} {c : List Int} (h : unpack b 5 = some (ts, m)) (h2 : rfAll ts = some c) (h3 : putC c = b.take m) : rfC b = some (c, m) := by unfold rfC; rw [h]; simp only [h2]; rw [if_pos h3]
theorem putC_by (c : List Int) : By (putC c) := by
  unfold putC pack
  refine (num_by _).append (By.flat fun p hp => ?_)
  obtain ⟨x, _, rfl⟩ := List.mem_map.1 hp
  exact text_by (num_by x)

set_option maxHeartbeats 4000000 in
theorem read_ref (a : Option Addr) (n cap : Nat) (l : List Int) (w : World) (hA : BS w a n l) (hC : CP a n cap) :
    Calls Try.prog 32 #[.slice a n cap] w fun e w' => ((rfC l = none ∧ e = .returned (.tuple #[.slice none 0 0, .int .i64 0])) ∨ ∃ (c : List Int) (m : Nat) (v : Value), rfC l = some (c, m) ∧ e = .returned (.tuple #[v, .int .i64 (m : Int)]) ∧ OwnN w.heap.size w' v c) ∧ Below w.heap.size w w' := by
  rcases hu : unpack l 5 with _ | ⟨ts, m⟩
  · have HU := hide (runpack_no a n cap l w hu hA hC)
    have HE := hide (rfC_none hu)
    clear hA hC hu
    go_enter Try.func32, Try.ntmps32
    go_wp2_with (go_at_call 45; refine HU.out.mono ?_; rintro e w1 ⟨rfl, hb⟩; have HB := hide hb; clear hb; refine Stop.at ?_)
    unfold Stop
    clear HU
    go_wp2
    go_loopw [6, 7] (fun v i wr => i = .int .i64 0 ∧ Hid (Below w.heap.size w wr)) (fun _ _ _ => 0)
    case atStart => exact ⟨rfl, HB.out.alloc HB.out.size _⟩
    case round =>
      obtain ⟨rfl, hB⟩ := hrel
      clear HB
      go_wp2
      refine wp_region_any (by kernel_rfl) ?_
      change wpAny _ _ _ _ _ _ _ (World.drew _)
      refine takeIn 0 41 (.int .i64 0) rfl rfl (by kernel_rfl) (by kernel_rfl) (by kernel_rfl) (fun _ _ _ h => h) (by kernel_rfl) (by intro w; go_simp) ?_
      simp only [Act.put, List.setIfInBounds_toArray, List.set_cons_zero, List.set_cons_succ]
      refine takeIn 1 42 (.bool true) rfl rfl (by kernel_rfl) (by kernel_rfl) (by kernel_rfl) (fun _ _ _ h => h) (by kernel_rfl) (by intro w; go_simp) ?_
      simp only [Act.put, List.setIfInBounds_toArray, List.set_cons_zero, List.set_cons_succ]
      refine takeIn 2 43 (.bool true) rfl rfl (by kernel_rfl) (by kernel_rfl) (by kernel_rfl) (fun _ _ _ h => h) (by kernel_rfl) (by intro w; go_simp) ?_
      simp only [Act.put, List.setIfInBounds_toArray, List.set_cons_zero, List.set_cons_succ]
      refine takeNo 3 44 rfl rfl (by kernel_rfl) (by kernel_rfl) (by kernel_rfl) (fun _ _ _ h => h) (by kernel_rfl) ?_
      simp only [Act.put, List.setIfInBounds_toArray, List.set_cons_zero, List.set_cons_succ]
      refine takeNo 4 45 rfl rfl (by kernel_rfl) (by kernel_rfl) (by kernel_rfl) (fun _ _ _ h => h) (by kernel_rfl) ?_
      simp only [Act.put, List.setIfInBounds_toArray, List.set_cons_zero, List.set_cons_succ]
      refine takeNo 5 46 rfl rfl (by kernel_rfl) (by kernel_rfl) (by kernel_rfl) (fun _ _ _ h => h) (by kernel_rfl) ?_
      simp only [Act.put, List.setIfInBounds_toArray, List.set_cons_zero, List.set_cons_succ]
      refine takeNo 6 47 rfl rfl (by kernel_rfl) (by kernel_rfl) (by kernel_rfl) (fun _ _ _ h => h) (by kernel_rfl) ?_
      simp only [Act.put, List.setIfInBounds_toArray, List.set_cons_zero, List.set_cons_succ]
      refine takeNo 7 48 rfl rfl (by kernel_rfl) (by kernel_rfl) (by kernel_rfl) (fun _ _ _ h => h) (by kernel_rfl) ?_
      simp only [Act.put, List.setIfInBounds_toArray, List.set_cons_zero, List.set_cons_succ]
      refine takeNo 8 49 rfl rfl (by kernel_rfl) (by kernel_rfl) (by kernel_rfl) (fun _ _ _ h => h) (by kernel_rfl) ?_
      simp only [Act.put, List.setIfInBounds_toArray, List.set_cons_zero, List.set_cons_succ]
      refine takeNo 9 50 rfl rfl (by kernel_rfl) (by kernel_rfl) (by kernel_rfl) (fun _ _ _ h => h) (by kernel_rfl) ?_
      simp only [Act.put, List.setIfInBounds_toArray, List.set_cons_zero, List.set_cons_succ]
      refine takeIn 10 51 (.bool true) rfl rfl (by kernel_rfl) (by kernel_rfl) (by kernel_rfl) (fun _ _ _ h => h) (by kernel_rfl) (by intro w; go_simp) ?_
      simp only [Act.put, List.setIfInBounds_toArray, List.set_cons_zero, List.set_cons_succ]
      refine wpAny_done (by kernel_rfl) ?_ _
      go_wp2
      go_ret2
      exact ⟨.inl ⟨HE.out, rfl⟩, hB.out.drew⟩
  · have HU := hide (runpack_yes a n cap l w ts m hu hA hC)
    have h5 := unpack_le hA.2.2.1 hu
    obtain ⟨m1, m2, _, hts⟩ := unpack_some hA.2.2.1 hu
    have HUn := hide hu
    have HA := hide hA
    have hn := hA.1
    have hmc : m ≤ cap := by have := hC.1; omega
    have hmcI : (m : Int) ≤ (cap : Int) := by omega
    have hm0 : (0 : Int) ≤ (m : Int) := by omega
    have hmne : ((m : Int) == 0) = false := by simp; omega
    have hmne2 : ¬ ((m : Int) = 0) := by omega
    have hcapI : (cap : Int) ≤ 9223372036854775807 := by have := hC.2.1; unfold maxLen at this; omega
    have HHead := hide (hA.head m (by omega))
    clear hA hC hu
    obtain ⟨t, ht⟩ : ∃ t, t = ts.length := ⟨_, rfl⟩
    rw [← ht] at HU h5
    have Ht := hide ht
    clear ht
    have h5' : t ≤ 5 := by omega
    go_enter Try.func32, Try.ntmps32
    go_wp2_with (go_at_call 45; refine HU.out.mono ?_; rintro e w1 ⟨p, cp, rfl, hpc, hb⟩; have HB := hide hb; have HPC := hide hpc; clear hb hpc; refine Stop.at ?_)
    unfold Stop
    clear HU
    go_wp2
    go_loopw [6, 7] (fun v i wr => ∃ (k : Nat) (acc : List Int), k ≤ t ∧ i = .int .i64 k ∧ Hid (acc.length = k) ∧ Hid (OwnN w1.heap.size wr v acc) ∧ Hid (rfAll ts = (rfAll (ts.drop k)).map (acc ++ ·)) ∧ Hid (Below w1.heap.size w1 wr)) (fun _ i _ => t - (intOf i).toNat)
    case atStart => exact ⟨0, [], by omega, rfl, rfl, OwnN.made _ _ _ rfl (Nat.le_refl _), by unfold Hid; simp, bel1 _ _⟩
    case round =>
      obtain ⟨k, acc, hk, rfl, hal, hO, hR, hB⟩ := hrel
      obtain ⟨pv, cv, hv, hns, _⟩ := hO.out.open
      subst hv
      have HNS := hide hns
      clear hns
      by_cases hlt : k < t
      · rcases HPC.out.2.2 with h0 | ⟨b, off, rfl, hc⟩
        · omega
        · obtain ⟨x, len, cpx, hcell, hbs, hcp⟩ := hc k hlt
          have hck := ((Ext.refl w1).below hB.out) _ _ hcell
          have HBS := hide (hbs.below hB.out)
          have HCP := hide hcp
          clear hc hcell hbs hcp
          have hsz := hB.out.size
          rcases hg : getNum (ts.getD k []) with _ | ⟨y, kk⟩
          · have hq : rfNum (ts.getD k []) = none := by unfold rfNum; rw [hg]
            have HE := hide (rfC_bad HUn.out (rfAll_bad (by rw [← Ht.out]; exact hlt) hR.out hq))
            have HRN := hide (rgetNum_no x len cpx _ _ hg HBS.out HCP.out)
            clear hR hq HBS HCP hg
            go_wp2_with (go_at_call 46; refine HRN.out.mono ?_; rintro e w' ⟨rfl, hb9⟩; have HB9 := hide (bel_next hB.out hb9); clear hb9)
            go_ret2
            exact ⟨.inl ⟨HE.out, rfl⟩, bel_next HB.out HB9.out⟩
          · obtain ⟨g0, g1, g2, g3, g4, _, _⟩ := getNum_some HBS.out.2.2.1 hg
            have hkk : ((kk : Int) == 0) = false := by simp; omega
            have hkk2 : ¬ ((kk : Int) = 0) := by omega
            have HRN := hide (rgetNum_yes x len cpx _ _ y kk hg HBS.out HCP.out)
            by_cases hy : y > 1048576
            · have hq : rfNum (ts.getD k []) = none := by unfold rfNum; rw [hg]; simp only []; rw [if_neg (by omega)]
              have HE := hide (rfC_bad HUn.out (rfAll_bad (by rw [← Ht.out]; exact hlt) hR.out hq))
              clear hR hq HBS HCP hg
              go_wp2_with (go_at_call 46; refine HRN.out.mono ?_; rintro e w' ⟨rfl, hb9⟩; have HB9 := hide (bel_next hB.out hb9); clear hb9)
              go_ret2
              exact ⟨.inl ⟨HE.out, rfl⟩, bel_next HB.out HB9.out⟩
            · have hq : rfNum (ts.getD k []) = some y := by unfold rfNum; rw [hg]; simp only []; rw [if_pos (by omega)]
              have HR2 := hide (rfAll_step (by rw [← Ht.out]; exact hlt) hR.out hq)
              clear hR hq HBS HCP hg
              go_wp2_with (first
                | (go_at_call 46; refine HRN.out.mono ?_; rintro e w' ⟨rfl, hb9⟩; have HB9 := hide (bel_next hB.out hb9); have HO9 := hide (hO.out.below hb9); have hsz9 := HB9.out.size; clear hb9)
                | (at_builtin; refine Stop.at ?_))
              unfold Stop
              refine append_one rfl _ _ rfl w1.heap.size (.slice pv acc.length cv) acc y _ rfl rfl HO9.out rfl (by have := hal.out; omega) hsz9 ?_
              intro v' w' g1 g2
              have G1 := hide g1
              have G2 := hide (g2 _ HB9.out)
              clear g1 g2 hO hB HO9 HB9
              go_wp2
              go_roundw
              case rel => exact ⟨k + 1, acc ++ [y], by omega, by go_num, by unfold Hid; simp [hal.out], G1, HR2, G2⟩
              case measure => simp [intOf]; omega
      · have hkl : k = t := by omega
        subst hkl
        have hall : rfAll ts = some acc := by
          have h := hR.out
          rw [List.drop_of_length_le (by rw [Ht.out]; exact Nat.le_refl _)] at h
          simpa [rfAll] using h
        have HALL := hide hall
        have HBT := hide (bel_next HB.out hB.out)
        have hsz : w.heap.size ≤ w1.heap.size := HB.out.size
        have HNd : Hid (NS wr.drew pv acc.length acc) := HNS.out.drew
        have HHd : Hid (BS wr.drew a m (l.take m)) := (HHead.out.below HBT.out).drew
        clear hR hall
        by_cases hz : putC acc = l.take m
        · have HE := hide (rfC_ok HUn.out HALL.out hz)
          have Hd : Hid (decide (putC acc = l.take m) = true) := decide_eq_true hz
          have HOd : Hid (OwnN w1.heap.size wr.drew (.slice pv acc.length cv) acc) := hO.out.drew
          clear hz hO
          generalize acc.length = q at *
          go_wp2_with fail
          go_region_held3 (fun _ => True) (trivial) (first
            | (go_at_call 34; refine (put_ref _ _ _ acc _ HNd.out).mono ?_; rintro e w4 ⟨v4, rfl, hown, hb⟩; obtain ⟨p4, cap4, rfl, hbs, hcp⟩ := hown.open (putC_by acc); have Hbs := hide hbs; have Hb := hide hb; clear hown hbs hb)
            | (go_at_call 33; refine (bytes_as _ _ _ _ _ _ (putC acc) (l.take m) _ true Hd.out (by exact Hbs.out) (by exact HHd.out.below Hb.out)).mono ?_; rintro e w5 ⟨rfl, hb2⟩; have Hb2 := hide hb2; clear hb2))
          go_wp2
          go_ret2
          exact ⟨.inr ⟨acc, m, _, HE.out, rfl, ((HOd.out.below Hb.out).below Hb2.out).mono hsz⟩, bel_next (bel_next HBT.out.drew Hb.out) Hb2.out⟩
        · have HE := hide (rfC_nought HUn.out HALL.out hz)
          have Hd : Hid (decide (putC acc = l.take m) = false) := decide_eq_false hz
          clear hz hO
          generalize acc.length = q at *
          go_wp2_with fail
          go_region_held3 (fun _ => True) (trivial) (first
            | (go_at_call 34; refine (put_ref _ _ _ acc _ HNd.out).mono ?_; rintro e w4 ⟨v4, rfl, hown, hb⟩; obtain ⟨p4, cap4, rfl, hbs, hcp⟩ := hown.open (putC_by acc); have Hbs := hide hbs; have Hb := hide hb; clear hown hbs hb)
            | (go_at_call 33; refine (bytes_as _ _ _ _ _ _ (putC acc) (l.take m) _ false Hd.out (by exact Hbs.out) (by exact HHd.out.below Hb.out)).mono ?_; rintro e w5 ⟨rfl, hb2⟩; have Hb2 := hide hb2; clear hb2))
          go_wp2
          go_ret2
          exact ⟨.inl ⟨HE.out, rfl⟩, bel_next (bel_next HBT.out.drew Hb.out) Hb2.out⟩
end Go.Proofs.Ytbeknlpoialgiaa
