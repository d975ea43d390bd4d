/- Texts of this claim, joined: RRef, EMem, EFun1, DSeen, EFun3. -/
import Derived.Test.YtooggheoaglbeaaJ3
import Derived.Laws.BytesArg
import Derived.Lib.ConvBytes
import Derived.Test.YtooggheoaglbeaaJ2
/- What the document's 'Read' does. -/
namespace Go.Proofs.Ytooggheoaglbeaa
open Go.RowKit
set_option linter.unusedVariables false

theorem takeIn {P : Program} {md : Region.Mode} {ops : Array Oper} {Q : Exit → Act → World → Prop} (i d : Nat) (v : Value) {oi : Oper} {fuel : Nat} {listed : Array Bool} {a : Act} {w : World} (hi : ops[i]? = some oi) (hd : oi.dst = some d)
    (hs : Region.noSelect ops = true) (hf : Region.free md ops listed i = true) (hr : (Region.ready md ops listed).contains i = true)
    (hQ : ∀ c a w, Q (.panic c) (a.put oi.dst v) w → Q (.panic c) a w) (hw : Region.wanted oi (yielded ops a.tmps) = true) (hy : ∀ w, (execOp a.eval oi).run P w = .ok (.value v) w)
    (h : wpAny P md ops Q fuel (listed.setIfInBounds i true) (a.put (some d) v) w) : wpAny P md ops Q (fuel + 1) listed a w :=
  wpAny_take hi hs hf hr hQ (Or.inl ⟨hw, hy⟩) (by rw [hd]; exact h)
theorem takeNo {P : Program} {md : Region.Mode} {ops : Array Oper} {Q : Exit → Act → World → Prop} (i d : Nat) {oi : Oper} {fuel : Nat} {listed : Array Bool} {a : Act} {w : World} (hi : ops[i]? = some oi) (hd : oi.dst = some d)
    (hs : Region.noSelect ops = true) (hf : Region.free md ops listed i = true) (hr : (Region.ready md ops listed).contains i = true)
    (hQ : ∀ c a w, Q (.panic c) (a.put oi.dst undef) w → Q (.panic c) a w) (hw : Region.wanted oi (yielded ops a.tmps) = false)
    (h : wpAny P md ops Q fuel (listed.setIfInBounds i true) (a.put (some d) undef) w) : wpAny P md ops Q (fuel + 1) listed a w :=
  wpAny_take hi hs hf hr hQ (Or.inr ⟨hw, rfl⟩) (by rw [hd]; exact h)

theorem rgetNum_no (a : Option Addr) (n c : Nat) (l : List Int) (w : World) (hg : getNum l = none) (hA : BS w a n l) (hC : CP a n c) :
    Calls Try.prog 72 #[.slice a n c] w fun e w' => e = .returned (.tuple #[.int .u64 0, .int .i64 0]) ∧ Below w.heap.size w w' := by
  refine (refGetNum_any a n c l w hA hC).mono ?_
  rintro e w1 ⟨(⟨_, rfl⟩ | ⟨x, m, h, rfl⟩), hb⟩
  · exact ⟨rfl, hb⟩
  · rw [hg] at h; cases h
theorem rgetNum_yes (a : Option Addr) (n c : Nat) (l : List Int) (w : World) (x : Int) (m : Nat) (hg : getNum l = some (x, m)) (hA : BS w a n l) (hC : CP a n c) :
    Calls Try.prog 72 #[.slice a n c] w fun e w' => e = .returned (.tuple #[.int .u64 x, .int .i64 (m : Int)]) ∧ Below w.heap.size w w' := by
  refine (refGetNum_any a n c l w hA hC).mono ?_
  rintro e w1 ⟨(⟨h, rfl⟩ | ⟨y, k, h, rfl⟩), hb⟩
  · rw [hg] at h; cases h
  · rw [hg] at h; cases h; exact ⟨rfl, hb⟩
theorem runpack_no (a : Option Addr) (n c : Nat) (l : List Int) (w : World) (hu : unpack l 5 = none) (hA : BS w a n l) (hC : CP a n c) :
    Calls Try.prog 50 #[.slice a n c, .int .i64 5] w fun e w' => e = .returned (.tuple #[.slice none 0 0, .int .i64 0]) ∧ Below w.heap.size w w' := by
  refine (refUnpack_any a n c l 5 w hA hC (by omega) (by omega)).mono ?_
  rintro e w1 ⟨(⟨_, rfl⟩ | ⟨qs, m, v, h, _⟩), hb⟩
  · exact ⟨rfl, hb⟩
  · rw [hu] at h; cases h
theorem runpack_yes (a : Option Addr) (n c : Nat) (l : List Int) (w : World) (ts : List (List Int)) (m : Nat) (hu : unpack l 5 = some (ts, m)) (hA : BS w a n l) (hC : CP a n c) :
    Calls Try.prog 50 #[.slice a n c, .int .i64 5] w fun e w' => ∃ p cp, e = .returned (.tuple #[.slice p ts.length cp, .int .i64 (m : Int)]) ∧ PC w' p ts.length ts ∧ Below w.heap.size w w' := by
  refine (refUnpack_any a n c l 5 w hA hC (by omega) (by omega)).mono ?_
  rintro e w1 ⟨(⟨h, _⟩ | ⟨qs, k, v, h, rfl, hO⟩), hb⟩
  · rw [hu] at h; cases h
  · rw [hu] at h
    simp only [Option.some.injEq, Prod.mk.injEq] at h
    obtain ⟨rfl, rfl⟩ := h
    obtain ⟨p, cp, rfl, hpc, _⟩ := hO.open
    exact ⟨p, cp, by simp, by simpa using hpc, hb⟩

theorem rfC_none {b : List Int} (h : unpack b 5 = none) : rfC b = none := by unfold rfC; rw [h]
theorem rfC_bad {b : List Int} {ts : List (List Int)} {m : Nat} (h : unpack b 5 = some (ts, m)) (h2 : rfAll ts = none) : rfC b = none := by unfold rfC; rw [h]; simp only [h2]
theorem rfC_nought {b : List Int} {ts : List (List Int)} {m : Nat} {c : List Int} (h : unpack b 5 = some (ts, m)) (h2 : rfAll ts = some c) (h3 : ¬ putC c = b.take m) : rfC b = none := by unfold rfC; rw [h]; simp only [h2]; rw [if_neg h3]
theorem rfC_ok {b : List Int} {ts : List (List Int)} {m : Nat} {c : List Int} (h : unpack b 5 = some (ts, m)) (h2 : rfAll ts = some c) (h3 : putC c = b.take m) : rfC b = some (c, m) := by unfold rfC; rw [h]; simp only [h2]; rw [if_pos h3]
theorem putC_by (c : List Int) : By (putC c) := by
  unfold putC pack
  refine (num_by _).append (By.flat fun p hp => ?_)
  obtain ⟨x, _, rfl⟩ := List.mem_map.1 hp
  exact text_by (num_by x)

set_option maxHeartbeats 4000000 in
theorem read_ref (a : Option Addr) (n cap : Nat) (l : List Int) (w : World) (hA : BS w a n l) (hC : CP a n cap) :
    Calls Try.prog 52 #[.slice a n cap] w fun e w' => ((rfC l = none ∧ e = .returned (.tuple #[.slice none 0 0, .int .i64 0])) ∨ ∃ (c : List Int) (m : Nat) (v : Value), rfC l = some (c, m) ∧ e = .returned (.tuple #[v, .int .i64 (m : Int)]) ∧ OwnN w.heap.size w' v c) ∧ Below w.heap.size w w' := by
  rcases hu : unpack l 5 with _ | ⟨ts, m⟩
  · have HU := hide (runpack_no a n cap l w hu hA hC)
    have HE := hide (rfC_none hu)
    clear hA hC hu
    go_enter Try.func52, Try.ntmps52
    go_wp2_with (go_at_call 50; refine HU.out.mono ?_; rintro e w1 ⟨rfl, hb⟩; have HB := hide hb; clear hb; refine Stop.at ?_)
    unfold Stop
    clear HU
    go_wp2
    go_loopw [6, 7] (fun v i wr => i = .int .i64 0 ∧ Hid (Below w.heap.size w wr)) (fun _ _ _ => 0)
    case atStart => exact ⟨rfl, HB.out.alloc HB.out.size _⟩
    case round =>
      obtain ⟨rfl, hB⟩ := hrel
      clear HB
      go_wp2
      refine wp_region_any (by kernel_rfl) ?_
      change wpAny _ _ _ _ _ _ _ (World.drew _)
      refine takeIn 0 41 (.int .i64 0) rfl rfl (by kernel_rfl) (by kernel_rfl) (by kernel_rfl) (fun _ _ _ h => h) (by kernel_rfl) (by intro w; go_simp) ?_
      simp only [Act.put, List.setIfInBounds_toArray, List.set_cons_zero, List.set_cons_succ]
      refine takeIn 1 42 (.bool true) rfl rfl (by kernel_rfl) (by kernel_rfl) (by kernel_rfl) (fun _ _ _ h => h) (by kernel_rfl) (by intro w; go_simp) ?_
      simp only [Act.put, List.setIfInBounds_toArray, List.set_cons_zero, List.set_cons_succ]
      refine takeIn 2 43 (.bool true) rfl rfl (by kernel_rfl) (by kernel_rfl) (by kernel_rfl) (fun _ _ _ h => h) (by kernel_rfl) (by intro w; go_simp) ?_
      simp only [Act.put, List.setIfInBounds_toArray, List.set_cons_zero, List.set_cons_succ]
      refine takeNo 3 44 rfl rfl (by kernel_rfl) (by kernel_rfl) (by kernel_rfl) (fun _ _ _ h => h) (by kernel_rfl) ?_
      simp only [Act.put, List.setIfInBounds_toArray, List.set_cons_zero, List.set_cons_succ]
      refine takeNo 4 45 rfl rfl (by kernel_rfl) (by kernel_rfl) (by kernel_rfl) (fun _ _ _ h => h) (by kernel_rfl) ?_
      simp only [Act.put, List.setIfInBounds_toArray, List.set_cons_zero, List.set_cons_succ]
      refine takeNo 5 46 rfl rfl (by kernel_rfl) (by kernel_rfl) (by kernel_rfl) (fun _ _ _ h => h) (by kernel_rfl) ?_
      simp only [Act.put, List.setIfInBounds_toArray, List.set_cons_zero, List.set_cons_succ]
      refine takeNo 6 47 rfl rfl (by kernel_rfl) (by kernel_rfl) (by kernel_rfl) (fun _ _ _ h => h) (by kernel_rfl) ?_
      simp only [Act.put, List.setIfInBounds_toArray, List.set_cons_zero, List.set_cons_succ]
      refine takeNo 7 48 rfl rfl (by kernel_rfl) (by kernel_rfl) (by kernel_rfl) (fun _ _ _ h => h) (by kernel_rfl) ?_
      simp only [Act.put, List.setIfInBounds_toArray, List.set_cons_zero, List.set_cons_succ]
      refine takeNo 8 49 rfl rfl (by kernel_rfl) (by kernel_rfl) (by kernel_rfl) (fun _ _ _ h => h) (by kernel_rfl) ?_
      simp only [Act.put, List.setIfInBounds_toArray, List.set_cons_zero, List.set_cons_succ]
      refine takeNo 9 50 rfl rfl (by kernel_rfl) (by kernel_rfl) (by kernel_rfl) (fun _ _ _ h => h) (by kernel_rfl) ?_
      simp only [Act.put, List.setIfInBounds_toArray, List.set_cons_zero, List.set_cons_succ]
      refine takeIn 10 51 (.bool true) rfl rfl (by kernel_rfl) (by kernel_rfl) (by kernel_rfl) (fun _ _ _ h => h) (by kernel_rfl) (by intro w; go_simp) ?_
      simp only [Act.put, List.setIfInBounds_toArray, List.set_cons_zero, List.set_cons_succ]
      refine wpAny_done (by kernel_rfl) ?_ _
      go_wp2
      go_ret2
      exact ⟨.inl ⟨HE.out, rfl⟩, hB.out.drew⟩
  · have HU := hide (runpack_yes a n cap l w ts m hu hA hC)
    have h5 := unpack_le hA.2.2.1 hu
    obtain ⟨m1, m2, _, hts⟩ := unpack_some hA.2.2.1 hu
    have HUn := hide hu
    have HA := hide hA
    have hn := hA.1
    have hmc : m ≤ cap := by have := hC.1; omega
    have hmcI : (m : Int) ≤ (cap : Int) := by omega
    have hm0 : (0 : Int) ≤ (m : Int) := by omega
    have hmne : ((m : Int) == 0) = false := by simp; omega
    have hmne2 : ¬ ((m : Int) = 0) := by omega
    have hcapI : (cap : Int) ≤ 9223372036854775807 := by have := hC.2.1; unfold maxLen at this; omega
    have HHead := hide (hA.head m (by omega))
    clear hA hC hu
    obtain ⟨t, ht⟩ : ∃ t, t = ts.length := ⟨_, rfl⟩
    rw [← ht] at HU h5
    have Ht := hide ht
    clear ht
    have h5' : t ≤ 5 := by omega
    go_enter Try.func52, Try.ntmps52
    go_wp2_with (go_at_call 50; refine HU.out.mono ?_; rintro e w1 ⟨p, cp, rfl, hpc, hb⟩; have HB := hide hb; have HPC := hide hpc; clear hb hpc; refine Stop.at ?_)
    unfold Stop
    clear HU
    go_wp2
    go_loopw [6, 7] (fun v i wr => ∃ (k : Nat) (acc : List Int), k ≤ t ∧ i = .int .i64 k ∧ Hid (acc.length = k) ∧ Hid (OwnN w1.heap.size wr v acc) ∧ Hid (rfAll ts = (rfAll (ts.drop k)).map (acc ++ ·)) ∧ Hid (Below w1.heap.size w1 wr)) (fun _ i _ => t - (intOf i).toNat)
    case atStart => exact ⟨0, [], by omega, rfl, rfl, OwnN.made _ _ _ rfl (Nat.le_refl _), by unfold Hid; simp, bel1 _ _⟩
    case round =>
      obtain ⟨k, acc, hk, rfl, hal, hO, hR, hB⟩ := hrel
      obtain ⟨pv, cv, hv, hns, _⟩ := hO.out.open
      subst hv
      have HNS := hide hns
      clear hns
      by_cases hlt : k < t
      · rcases HPC.out.2.2 with h0 | ⟨b, off, rfl, hc⟩
        · omega
        · obtain ⟨x, len, cpx, hcell, hbs, hcp⟩ := hc k hlt
          have hck := ((Ext.refl w1).below hB.out) _ _ hcell
          have HBS := hide (hbs.below hB.out)
          have HCP := hide hcp
          clear hc hcell hbs hcp
          have hsz := hB.out.size
          rcases hg : getNum (ts.getD k []) with _ | ⟨y, kk⟩
          · have hq : rfNum (ts.getD k []) = none := by unfold rfNum; rw [hg]
            have HE := hide (rfC_bad HUn.out (rfAll_bad (by rw [← Ht.out]; exact hlt) hR.out hq))
            have HRN := hide (rgetNum_no x len cpx _ _ hg HBS.out HCP.out)
            clear hR hq HBS HCP hg
            go_wp2_with (go_at_call 72; refine HRN.out.mono ?_; rintro e w' ⟨rfl, hb9⟩; have HB9 := hide (bel_next hB.out hb9); clear hb9)
            go_ret2
            exact ⟨.inl ⟨HE.out, rfl⟩, bel_next HB.out HB9.out⟩
          · obtain ⟨g0, g1, g2, g3, g4, _, _⟩ := getNum_some HBS.out.2.2.1 hg
            have hkk : ((kk : Int) == 0) = false := by simp; omega
            have hkk2 : ¬ ((kk : Int) = 0) := by omega
            have HRN := hide (rgetNum_yes x len cpx _ _ y kk hg HBS.out HCP.out)
            by_cases hy : y > 1048576
            · have hq : rfNum (ts.getD k []) = none := by unfold rfNum; rw [hg]; simp only []; rw [if_neg (by omega)]
              have HE := hide (rfC_bad HUn.out (rfAll_bad (by rw [← Ht.out]; exact hlt) hR.out hq))
              clear hR hq HBS HCP hg
              go_wp2_with (go_at_call 72; refine HRN.out.mono ?_; rintro e w' ⟨rfl, hb9⟩; have HB9 := hide (bel_next hB.out hb9); clear hb9)
              go_ret2
              exact ⟨.inl ⟨HE.out, rfl⟩, bel_next HB.out HB9.out⟩
            · have hq : rfNum (ts.getD k []) = some y := by unfold rfNum; rw [hg]; simp only []; rw [if_pos (by omega)]
              have HR2 := hide (rfAll_step (by rw [← Ht.out]; exact hlt) hR.out hq)
              clear hR hq HBS HCP hg
              go_wp2_with (first
                | (go_at_call 72; refine HRN.out.mono ?_; rintro e w' ⟨rfl, hb9⟩; have HB9 := hide (bel_next hB.out hb9); have HO9 := hide (hO.out.below hb9); have hsz9 := HB9.out.size; clear hb9)
                | (at_builtin; refine Stop.at ?_))
              unfold Stop
              refine append_one rfl _ _ rfl w1.heap.size (.slice pv acc.length cv) acc y _ rfl rfl HO9.out rfl (by have := hal.out; omega) hsz9 ?_
              intro v' w' g1 g2
              have G1 := hide g1
              have G2 := hide (g2 _ HB9.out)
              clear g1 g2 hO hB HO9 HB9
              go_wp2
              go_roundw
              case rel => exact ⟨k + 1, acc ++ [y], by omega, by go_num, by unfold Hid; simp [hal.out], G1, HR2, G2⟩
              case measure => simp [intOf]; omega
      · have hkl : k = t := by omega
        subst hkl
        have hall : rfAll ts = some acc := by
          have h := hR.out
          rw [List.drop_of_length_le (by rw [Ht.out]; exact Nat.le_refl _)] at h
          simpa [rfAll] using h
        have HALL := hide hall
        have HBT := hide (bel_next HB.out hB.out)
        have hsz : w.heap.size ≤ w1.heap.size := HB.out.size
        have HNd : Hid (NS wr.drew pv acc.length acc) := HNS.out.drew
        have HHd : Hid (BS wr.drew a m (l.take m)) := (HHead.out.below HBT.out).drew
        clear hR hall
        by_cases hz : putC acc = l.take m
        · have HE := hide (rfC_ok HUn.out HALL.out hz)
          have Hd : Hid (decide (putC acc = l.take m) = true) := decide_eq_true hz
          have HOd : Hid (OwnN w1.heap.size wr.drew (.slice pv acc.length cv) acc) := hO.out.drew
          clear hz hO
          generalize acc.length = q at *
          go_wp2_with fail
          go_region_held3 (fun _ => True) (trivial) (first
            | (go_at_call 49; refine (put_ref _ _ _ acc _ HNd.out).mono ?_; rintro e w4 ⟨v4, rfl, hown, hb⟩; obtain ⟨p4, cap4, rfl, hbs, hcp⟩ := hown.open (putC_by acc); have Hbs := hide hbs; have Hb := hide hb; clear hown hbs hb)
            | (go_at_call 18; refine (bytes_as _ _ _ _ _ _ (putC acc) (l.take m) _ true Hd.out (by exact Hbs.out) (by exact HHd.out.below Hb.out)).mono ?_; rintro e w5 ⟨rfl, hb2⟩; have Hb2 := hide hb2; clear hb2))
          go_wp2
          go_ret2
          exact ⟨.inr ⟨acc, m, _, HE.out, rfl, ((HOd.out.below Hb.out).below Hb2.out).mono hsz⟩, bel_next (bel_next HBT.out.drew Hb.out) Hb2.out⟩
        · have HE := hide (rfC_nought HUn.out HALL.out hz)
          have Hd : Hid (decide (putC acc = l.take m) = false) := decide_eq_false hz
          clear hz hO
          generalize acc.length = q at *
          go_wp2_with fail
          go_region_held3 (fun _ => True) (trivial) (first
            | (go_at_call 49; refine (put_ref _ _ _ acc _ HNd.out).mono ?_; rintro e w4 ⟨v4, rfl, hown, hb⟩; obtain ⟨p4, cap4, rfl, hbs, hcp⟩ := hown.open (putC_by acc); have Hbs := hide hbs; have Hb := hide hb; clear hown hbs hb)
            | (go_at_call 18; refine (bytes_as _ _ _ _ _ _ (putC acc) (l.take m) _ false Hd.out (by exact Hbs.out) (by exact HHd.out.below Hb.out)).mono ?_; rintro e w5 ⟨rfl, hb2⟩; have Hb2 := hide hb2; clear hb2))
          go_wp2
          go_ret2
          exact ⟨.inl ⟨HE.out, rfl⟩, bel_next (bel_next HBT.out.drew Hb.out) Hb2.out⟩
end Go.Proofs.Ytooggheoaglbeaa

/- Rows of structs in memory, of however many cells each; strings as lists of bytes; effects and events in memory; boxes. -/
namespace Go.Proofs.Ytooggheoaglbeaa
open Go.RowKit
set_option linter.unusedVariables false

section
variable {α : Type}
theorem flatR_len (enc : α → List Value) (k : Nat) (hk : ∀ x, (enc x).length = k) : ∀ l : List α, (l.flatMap enc).length = l.length * k
  | [] => by simp
  | x :: r => by rw [List.flatMap_cons, List.length_append, hk, flatR_len enc k hk r, List.length_cons, Nat.succ_mul]; omega
theorem flatR_get (enc : α → List Value) (k : Nat) (hk : ∀ x, (enc x).length = k) : ∀ (l : List α) (i : Nat) (x : α) (j : Nat) (v : Value), l[i]? = some x → (enc x)[j]? = some v → (l.flatMap enc)[i * k + j]? = some v
  | [], i, x, j, v, h, _ => by simp at h
  | y :: r, 0, x, j, v, h, hj => by
    simp at h
    subst h
    have hl : j < (enc y).length := by
      rcases Nat.lt_or_ge j (enc y).length with h | h
      · exact h
      · rw [List.getElem?_eq_none h] at hj; cases hj
    rw [List.flatMap_cons, Nat.zero_mul, Nat.zero_add, List.getElem?_append_left hl]
    exact hj
  | y :: r, i + 1, x, j, v, h, hj => by
    have ih := flatR_get enc k hk r i x j v (by simpa using h) hj
    rw [List.flatMap_cons, List.getElem?_append_right (by rw [hk, Nat.succ_mul]; omega), hk, show (i + 1) * k + j - k = i * k + j by rw [Nat.succ_mul]; omega]
    exact ih
theorem flatR_one (enc : α → List Value) (h1 : ∀ x, ∀ v ∈ enc x, v.oneCell' = true) (l : List α) : ∀ v ∈ l.flatMap enc, v.oneCell' = true := by
  intro v hv
  obtain ⟨x, _, hx⟩ := List.mem_flatMap.1 hv
  exact h1 x v hx
theorem flatR_lt {k n i j : Nat} (hi : i < n) (hj : j < k) : i * k + j < n * k := by
  have : (i + 1) * k ≤ n * k := Nat.mul_le_mul_right k hi
  rw [Nat.succ_mul] at this
  omega

/-- A slice's structs. -/
def RS (enc : α → List Value) (k : Nat) (w : World) (a : Option Addr) (n : Nat) (l : List α) : Prop :=
  l.length = n ∧ n ≤ maxLen ∧ (n = 0 ∨ ∃ b off, a = some ⟨b, off, none⟩ ∧ ∀ i x, l[i]? = some x → ∀ j v, (enc x)[j]? = some v → w.cell? ⟨b, off + i * k + j, none⟩ = some v)
/-- Those of the call's own. -/
def OwnR (enc : α → List Value) (k : Nat) (T : TypeId) (N : Nat) (w : World) (v : Value) (l : List α) : Prop := w.ownsRow N T k v l.length (l.flatMap enc)
variable {enc : α → List Value} {k : Nat} {T : TypeId}
theorem RS.ext {w w' : World} {a : Option Addr} {n : Nat} {l : List α} (h : RS enc k w a n l) (hx : Ext w w') : RS enc k w' a n l := by
  obtain ⟨h1, h2, h4⟩ := h
  refine ⟨h1, h2, ?_⟩
  rcases h4 with h0 | ⟨b, off, ha, hc⟩
  · exact .inl h0
  · exact .inr ⟨b, off, ha, fun i x hi j v hj => hx _ _ (hc i x hi j v hj)⟩
theorem RS.below {w w' : World} {a : Option Addr} {n : Nat} {l : List α} (h : RS enc k w a n l) (hb : Below w.heap.size w w') : RS enc k w' a n l := h.ext ((Ext.refl w).below hb)
theorem RS.alloc {w : World} {a : Option Addr} {n : Nat} {l : List α} (h : RS enc k w a n l) (o : Obj) : RS enc k (w.alloc o) a n l := h.ext ((Ext.refl w).alloc o)
theorem RS.nil (w : World) (p : Option Addr) : RS enc k w p 0 [] := ⟨rfl, by decide, .inl rfl⟩
theorem RS.new (hk : ∀ x, (enc x).length = k) (w : World) (g : Nat) (hg : g = w.heap.size) (l : List α) (C : Array Value) (hC : C = (l.flatMap enc).toArray) (t : TypeId) (fr : Nat × Nat) (n : Nat) (hn : l.length = n) (hmax : n ≤ maxLen) :
    RS enc k (w.alloc (.cells C t fr)) (some ⟨g, 0, none⟩) n l := by
  subst hg hC hn
  refine ⟨rfl, hmax, .inr ⟨_, 0, rfl, fun i x hi j v hj => ?_⟩⟩
  have h := flatR_get enc k hk l i x j v hi hj
  rw [World.cell?_alloc_mark, Nat.zero_add]
  simpa using h
theorem RS.mid {w : World} {b off : Nat} {n : Nat} {l : List α} (h : RS enc k w (some ⟨b, off, none⟩) n l) (i : Nat) (hi : i ≤ n) : RS enc k w (some ⟨b, off + i * k, none⟩) (n - i) (l.drop i) := by
  obtain ⟨h1, h2, h4⟩ := h
  refine ⟨by rw [List.length_drop]; omega, by omega, ?_⟩
  rcases h4 with h0 | ⟨b', off', ha, hc⟩
  · exact .inl (by omega)
  · cases ha
    refine .inr ⟨b, off + i * k, rfl, fun i' x hi' j v hj => ?_⟩
    rw [List.getElem?_drop] at hi'
    have := hc (i + i') x hi' j v hj
    rw [Nat.add_mul] at this
    rw [show off + i * k + i' * k + j = off + (i * k + i' * k) + j by omega]
    exact this
theorem OwnR.mono {N N' : Nat} {w : World} {v : Value} {l : List α} (h : OwnR enc k T N w v l) (hN : N' ≤ N) : OwnR enc k T N' w v l := ⟨h.1, h.2.imp id fun ⟨g, cap, cur, h1, h2, h3⟩ => ⟨g, cap, cur, h1, Nat.le_trans hN h2, h3⟩⟩
theorem OwnR.alloc {N : Nat} {w : World} {v : Value} {l : List α} (h : OwnR enc k T N w v l) (o : Obj) : OwnR enc k T N (w.alloc o) v l := World.ownsRow.alloc h o
theorem OwnR.drew {N : Nat} {w : World} {v : Value} {l : List α} (h : OwnR enc k T N w v l) : OwnR enc k T N w.drew v l := World.ownsRow.drew h
theorem OwnR.below {N : Nat} {w w' : World} {v : Value} {l : List α} (h : OwnR enc k T N w v l) (hb : Below w.heap.size w w') : OwnR enc k T N w' v l := by
  refine ⟨h.1, ?_⟩
  rcases h.2 with hn | ⟨g, cap, cur, rfl, hb', hgg, rest⟩
  · exact .inl hn
  · refine .inr ⟨g, cap, cur, rfl, hb', ?_, rest⟩
    rw [hb.block g (Array.getElem?_eq_some_iff.1 hgg).1]
    exact hgg
theorem OwnR.nil (N : Nat) (w : World) : OwnR enc k T N w (.slice none 0 0) [] := ⟨by simp, .inl ⟨rfl, rfl⟩⟩
theorem OwnR.open (hk : ∀ x, (enc x).length = k) {N : Nat} {w : World} {v : Value} {l : List α} (h : OwnR enc k T N w v l) : ∃ p cap, v = .slice p l.length cap ∧ RS enc k w p l.length l ∧ CP p l.length cap := by
  have h0 := h
  obtain ⟨_, h2⟩ := h
  rcases h2 with ⟨rfl, h2⟩ | ⟨g, cap, cur, rfl, hb, hg, hc1, hc2, hs, ht⟩
  · exact ⟨none, 0, by rw [h2], ⟨rfl, by rw [h2]; decide, .inl h2⟩, by omega, by decide, fun _ => rfl⟩
  · refine ⟨some ⟨g, 0, none⟩, cap, rfl, ⟨rfl, by omega, .inr ⟨g, 0, rfl, fun i x hi j u hj => ?_⟩⟩, hc1, hc2, fun h => by cases h⟩
    have hil : i < l.length := (List.getElem?_eq_some_iff.1 hi).1
    have hjl : j < k := by rw [← hk x]; exact (List.getElem?_eq_some_iff.1 hj).1
    rw [Nat.zero_add, World.ownsRow.cellAt h0 (i * k + j) (flatR_lt hil hjl)]
    exact flatR_get enc k hk l i x j u hi hj
theorem OwnR.made (w : World) (N g : Nat) (hg : g = w.heap.size) (hN : N ≤ w.heap.size) : OwnR enc k T N (w.alloc (.cells #[] T)) (.slice (some ⟨g, 0, none⟩) 0 0) [] := by
  subst hg; exact World.ownsRow_made w #[] 0 hN (by decide) (by simp)
theorem RS.cells {w : World} {b off : Nat} {n : Nat} {l : List α} (h : RS enc k w (some ⟨b, off, none⟩) n l) (j : Nat) (u : Value) (hj : (l.flatMap enc)[j]? = some u) (hk : ∀ x, (enc x).length = k) (hk0 : 0 < k) : w.cell? ⟨b, off + j, none⟩ = some u := by
  have hjl : j < l.length * k := by rw [← flatR_len enc k hk l]; exact (List.getElem?_eq_some_iff.1 hj).1
  have hi : j / k < l.length := Nat.div_lt_of_lt_mul (by rw [Nat.mul_comm]; exact hjl)
  have hm : j % k < k := Nat.mod_lt _ hk0
  have e : j / k * k + j % k = j := by rw [Nat.mul_comm]; exact Nat.div_add_mod j k
  rcases h.2.2 with h0 | ⟨b', off', ha, hc⟩
  · rw [h.1, h0] at hi; exact absurd hi (Nat.not_lt_zero _)
  · cases ha
    have hx : l[j / k]? = some l[j / k] := List.getElem?_eq_getElem hi
    have hy : (enc l[j / k])[j % k]? = some ((enc l[j / k])[j % k]'(by rw [hk]; exact hm)) := List.getElem?_eq_getElem _
    have q := flatR_get enc k hk l _ _ _ _ hx hy
    rw [e, hj] at q
    cases q
    have := hc _ _ hx _ _ hy
    rw [Nat.add_assoc, e] at this
    exact this
/-- 'append(v, x...)', 'v' the call's own. -/
theorem append_rows {w : World} {ops : Array Oper} {rest : List Oper} {o : Oper} {a : Act} {Q : Exit → Act → World → Prop} (hgd : o.guard = none) (s x : Operand) (t : TypeId)
    (ho : o.op = .call { callee := .builtin .append, args := #[s, x], argTypes := #[t, t] })
    (ht : Try.prog.underlying t = some (.slice T)) {z : Value} {by_ : Nat} (hi : (Try.prog.info? T).map (fun i => (i.zero, i.size, i.bytes)) = some (some z, k, by_)) (hz : z.cells.size = k) (hk0 : 0 < k) (hby : by_ ≤ 1000)
    (hk : ∀ x, (enc x).length = k) (h1 : ∀ x, ∀ v ∈ enc x, v.oneCell' = true)
    (N : Nat) (v : Value) (l m : List α) (hs : a.eval s = v) (hown : OwnR enc k T N w v l) (p : Option Addr) (len cap : Nat) (hx : a.eval x = .slice p len cap) (hp : p = none → cap = 0) (hB : RS enc k w p len m)
    (hbig : l.length + m.length ≤ 1000000) (hN : N ≤ w.heap.size)
    (h : ∀ v' w', OwnR enc k T N w' v' (l ++ m) → w.grownBy w' v.ownBlock → (∀ w0, Below N w0 w → Below N w0 w') → wpList Try.prog ops Q rest (a.put o.dst v') w') : wpList Try.prog ops Q (o :: rest) a w := by
  obtain ⟨i0, hi, hz0, hz1, hz2⟩ := info_parts hi
  have g1 := hB.1
  rcases p with _ | ad
  · have hc := hp rfl
    have hl0 : len = 0 := by
      rcases hB.2.2 with h0 | ⟨b, off, hh, _⟩
      · exact h0
      · cases hh
    subst hc hl0
    obtain rfl : m = [] := List.eq_nil_of_length_eq_zero g1
    refine wpList_append_own_none hgd s x _ ho N T i0 k ht hi v _ _ hs hown hx ?_
    refine h v w (by rw [List.append_nil]; exact hown) ⟨rfl, rfl, rfl, Nat.le_refl _, fun _ _ _ => rfl⟩ (fun _ h => h)
  · have hmul : (l.length + len) * by_ ≤ 1000000 * 1000 := Nat.mul_le_mul (by omega) hby
    refine wpList_append_own w hgd s x t ho N T i0 z k by_ ht hi hz0 hz1 hz2 hz hk0 v _ _ hs hown ad len cap (m.flatMap enc) hx (by rw [flatR_len enc k hk, g1]) ?_ (flatR_one enc h1 m) (by rw [← g1]; unfold maxLen; omega) (by omega) hN ?_
    · intro j u hj
      have hjl : j < m.length * k := by rw [← flatR_len enc k hk m]; exact (List.getElem?_eq_some_iff.1 hj).1
      rcases hB.2.2 with h0 | ⟨b, off, hh, hc⟩
      · rw [g1, h0] at hjl; omega
      · cases hh
        have h3 : (⟨b, off, none⟩ : Addr).add j = ⟨b, off + j, none⟩ := by
          by_cases hj0 : j = 0
          · subst hj0; simp [Addr.add]
          · simp [Addr.add, hj0]
        rw [h3]
        exact hB.cells j u hj hk hk0
    · intro v' w' h1 h2 _
      refine h v' w' ?_ h2 (fun w0 hb => hb.grown h2 hN (fun j hj => (World.ownsRow.lt hown j hj).1))
      have e : l.length + len = (l ++ m).length := by rw [List.length_append, g1]
      rw [e, ← List.flatMap_append] at h1
      exact h1
end

/-! Strings -/
theorem str_size (l : List Int) : (strOfNums l).size = l.length := strOfNums_size l
/-- A string's bytes. -/
def bytesL (s : ByteArray) : List Int := s.data.toList.map fun b => (b.toNat : Int)
theorem bytesL_by (s : ByteArray) : By (bytesL s) := by
  intro n hn
  obtain ⟨b, _, rfl⟩ := List.mem_map.1 hn
  have := b.toNat_lt
  omega
theorem str_bytes (s : ByteArray) : strOfNums (bytesL s) = s := by
  obtain ⟨⟨d⟩⟩ := s
  simp [strOfNums, bytesL]
  apply List.ext_getElem
  · simp
  · intro i h1 h2; simp
theorem bytes_str {l : List Int} (h : By l) : bytesL (strOfNums l) = l := by
  simp only [bytesL, strOfNums_data, List.map_map]
  apply List.ext_getElem
  · simp
  · intro i h1 h2
    simp
    have := h _ (List.getElem_mem (l := l) (n := i) (by simpa using h2))
    rw [Int.emod_eq_of_lt] <;> omega
theorem str_inj {l m : List Int} (h : By l) (k : By m) (e : strOfNums l = strOfNums m) : l = m := by rw [← bytes_str h, ← bytes_str k, e]
theorem str_toList (l m : List Int) (h : By l) (k : By m) : ((strOfNums l).toList == (strOfNums m).toList) = decide (l = m) := by
  rw [Bool.eq_iff_iff, decide_eq_true_iff, beq_iff_eq]
  constructor
  · intro e
    apply str_inj h k
    have e2 : (strOfNums l).data.toList = (strOfNums m).data.toList := by rw [ByteArray.toList_eq, ByteArray.toList_eq] at e; exact e
    simpa [strOfNums] using e2
  · intro e; rw [e]

/-! Effects -/
def encF (x : Eff) : List Value := [.int .i64 x.1, .int .i64 x.2.1, .string (strOfNums x.2.2.1), .int .i64 x.2.2.2.1, .int .i64 x.2.2.2.2.1, .string (strOfNums x.2.2.2.2.2)]
theorem encF_len (x : Eff) : (encF x).length = 6 := rfl
theorem encF_one (x : Eff) : ∀ v ∈ encF x, v.oneCell' = true := by
  intro v hv
  simp only [encF, List.mem_cons, List.not_mem_nil, or_false] at hv
  rcases hv with rfl | rfl | rfl | rfl | rfl | rfl <;> rfl
/-- A slice's effects. -/
def ES (w : World) (a : Option Addr) (n : Nat) (l : List Eff) : Prop := RS encF 6 w a n l ∧ ∀ x ∈ l, ByF x
theorem ES.below {w w' : World} {a : Option Addr} {n : Nat} {l : List Eff} (h : ES w a n l) (hb : Below w.heap.size w w') : ES w' a n l := ⟨h.1.below hb, h.2⟩
theorem ES.alloc {w : World} {a : Option Addr} {n : Nat} {l : List Eff} (h : ES w a n l) (o : Obj) : ES (w.alloc o) a n l := ⟨h.1.alloc o, h.2⟩
theorem ES.nil (w : World) (p : Option Addr) : ES w p 0 [] := ⟨RS.nil w p, fun x hx => by cases hx⟩
theorem ES.at {w : World} {b off n : Nat} {l : List Eff} (h : ES w (some ⟨b, off, none⟩) n l) (i : Nat) (x : Eff) (hi : l[i]? = some x) :
    w.cell? ⟨b, off + i * 6, none⟩ = some (.int .i64 x.1) ∧ w.cell? ⟨b, off + i * 6 + 1, none⟩ = some (.int .i64 x.2.1) ∧ w.cell? ⟨b, off + i * 6 + 2, none⟩ = some (.string (strOfNums x.2.2.1)) ∧ w.cell? ⟨b, off + i * 6 + 3, none⟩ = some (.int .i64 x.2.2.2.1) ∧ w.cell? ⟨b, off + i * 6 + 4, none⟩ = some (.int .i64 x.2.2.2.2.1) ∧ w.cell? ⟨b, off + i * 6 + 5, none⟩ = some (.string (strOfNums x.2.2.2.2.2)) := by
  rcases h.1.2.2 with h0 | ⟨b', off', ha, hc⟩
  · have := (List.getElem?_eq_some_iff.1 hi).1
    have := h.1.1
    omega
  · cases ha
    exact ⟨hc i x hi 0 _ rfl, hc i x hi 1 _ rfl, hc i x hi 2 _ rfl, hc i x hi 3 _ rfl, hc i x hi 4 _ rfl, hc i x hi 5 _ rfl⟩
theorem Try.infoEff : (Try.prog.info? 35).map (fun i => (i.zero, i.size, i.bytes)) = some (some (.agg #[.int .i64 0, .int .i64 0, .string ⟨#[]⟩, .int .i64 0, .int .i64 0, .string ⟨#[]⟩]), 6, 64) := by kernel_rfl

/-! Boxes -/
/-- A block of cells that may be written. -/
def BX (u : World) (g : Nat) (C : Array Value) (t : TypeId) : Prop := u.heap[g]? = some (.cells C t (0, 0))
theorem BX.below {u W : World} {g : Nat} {C : Array Value} {t : TypeId} (h : BX u g C t) (hb : Below u.heap.size u W) : BX W g C t := by
  unfold BX; rw [hb.block _ (Array.getElem?_eq_some_iff.1 h).1]; exact h
theorem BX.alloc {u : World} {g : Nat} {C : Array Value} {t : TypeId} (h : BX u g C t) (o : Obj) : BX (u.alloc o) g C t := h.below (bel1 u o)
theorem BX.new (u : World) (g : Nat) (hg : g = u.heap.size) (C : Array Value) (t : TypeId) : BX (u.alloc (.cells C t)) g C t := by subst hg; exact heap_alloc_new u _
theorem BX.size {u : World} {g : Nat} {C : Array Value} {t : TypeId} (h : BX u g C t) : g < u.heap.size := (Array.getElem?_eq_some_iff.1 h).1
theorem BX.cell {u : World} {g : Nat} {C : Array Value} {t : TypeId} (h : BX u g C t) (i : Nat) (v : Value) (hi : C[i]? = some v) : u.cell? ⟨g, i, none⟩ = some v := by
  rw [cell_of_row u _ _ _ _ _ h]; exact hi
theorem BX.free {u : World} {g : Nat} {C : Array Value} {t : TypeId} (h : BX u g C t) (i : Nat) : u.frozen? ⟨g, i, none⟩ = false := by
  unfold BX at h; simp [World.frozen?, h]
theorem BX.set {u : World} {g : Nat} {C : Array Value} {t : TypeId} (h : BX u g C t) (i : Nat) (v : Value) : BX (u.setCell ⟨g, i, none⟩ v) g (C.setIfInBounds i v) t := (set1 h (Below.refl g u) (Nat.le_refl _) i v).1
end Go.Proofs.Ytooggheoaglbeaa

/- Which effects may be: the program's and the document's answer. -/
namespace Go.Proofs.Ytooggheoaglbeaa
open Go.RowKit
set_option linter.unusedVariables false

def mayS (k o n t : Int) (kl wl : Nat) : Bool := decide (1 ≤ kl ∧ kl ≤ 32 ∧ 0 ≤ o ∧ o ≤ 15) && fits k n t wl
theorem mayS_iff {k o n t : Int} {kl wl : Nat} : mayS k o n t kl wl = true ↔ (1 ≤ kl ∧ kl ≤ 32 ∧ 0 ≤ o ∧ o ≤ 15) ∧ fits k n t wl = true := by simp [mayS]
theorem mayF_S (x : Eff) : mayF x = mayS x.1 x.2.1 x.2.2.2.1 x.2.2.2.2.1 (strOfNums x.2.2.1).size (strOfNums x.2.2.2.2.2).size := by rw [str_size, str_size]; rfl
theorem toList_length (s : ByteArray) : s.toList.length = s.size := by
  rw [ByteArray.toList_eq]; rfl
theorem isE (s : ByteArray) : s.toList.isEmpty = decide (s.size = 0) := by
  rw [Bool.eq_iff_iff, decide_eq_true_iff, List.isEmpty_iff_length_eq_zero, toList_length]
theorem fits_no {k n t : Int} {wl : Nat} {f : Bool} (hf : fits k n t wl = f) (h : ¬ (((k = 1 ∨ k = 2) ∧ n = 0 ∧ t = 0 ∧ wl = 0) ∨ ((k = 3 ∨ k = 4) ∧ 1 ≤ n ∧ n ≤ 1000 ∧ t = 0 ∧ wl = 0) ∨ (k = 5 ∧ 1 ≤ n ∧ n ≤ 1000 ∧ 1 ≤ t ∧ t ≤ 5 ∧ wl = 0) ∨ (k = 6 ∧ n = 0 ∧ t = 0 ∧ wl ≤ 64))) : false = f := by
  rw [← hf]; symm; rw [← Bool.not_eq_true, fits_iff]; exact h
theorem fits_if {k n t : Int} {wl : Nat} {f b : Bool} {p : Prop} [Decidable p] (hf : fits k n t wl = f) (hb : b = decide p) (h : p ↔ (((k = 1 ∨ k = 2) ∧ n = 0 ∧ t = 0 ∧ wl = 0) ∨ ((k = 3 ∨ k = 4) ∧ 1 ≤ n ∧ n ≤ 1000 ∧ t = 0 ∧ wl = 0) ∨ (k = 5 ∧ 1 ≤ n ∧ n ≤ 1000 ∧ 1 ≤ t ∧ t ≤ 5 ∧ wl = 0) ∨ (k = 6 ∧ n = 0 ∧ t = 0 ∧ wl ≤ 64))) : b = f := by
  rw [← hf, hb, Bool.eq_iff_iff, decide_eq_true_iff, fits_iff]; exact h
/-- An effect's box. -/
abbrev bxF (k o n t : Int) (sk sw : ByteArray) : Obj := .cells #[.int .i64 k, .int .i64 o, .string sk, .int .i64 n, .int .i64 t, .string sw] 35

set_option maxHeartbeats 1000000 in
theorem fitsKind_any (k o n t : Int) (sk sw : ByteArray) (f : Bool) (hf : fits k n t sw.size = f) (w : World) :
    Calls Try.prog 30 #[.agg #[.int .i64 k, .int .i64 o, .string sk, .int .i64 n, .int .i64 t, .string sw]] w fun e w' => e = .returned (.bool f) ∧ Gr w w' := by
  have HF := hide hf
  clear hf
  by_cases h1 : k = 1
  · subst h1
    go_enter Try.func30, Try.ntmps30
    go_wp2 <;> go_ret <;> (refine ⟨retB ?_, (Gr.refl w).alloc _⟩) <;> first | exact fits_no HF.out (by omega) | exact fits_if HF.out (isE sw) (by omega)
  · by_cases h2 : k = 2
    · subst h2
      go_enter Try.func30, Try.ntmps30
      go_wp2 <;> go_ret <;> (refine ⟨retB ?_, (Gr.refl w).alloc _⟩) <;> first | exact fits_no HF.out (by omega) | exact fits_if HF.out (isE sw) (by omega)
    · by_cases h3 : k = 3
      · subst h3
        go_enter Try.func30, Try.ntmps30
        go_wp2 <;> go_ret <;> (refine ⟨retB ?_, (Gr.refl w).alloc _⟩) <;> first | exact fits_no HF.out (by omega) | exact fits_if HF.out (isE sw) (by omega)
      · by_cases h4 : k = 4
        · subst h4
          go_enter Try.func30, Try.ntmps30
          go_wp2 <;> go_ret <;> (refine ⟨retB ?_, (Gr.refl w).alloc _⟩) <;> first | exact fits_no HF.out (by omega) | exact fits_if HF.out (isE sw) (by omega)
        · by_cases h5 : k = 5
          · subst h5
            go_enter Try.func30, Try.ntmps30
            go_wp2 <;> go_ret <;> (refine ⟨retB ?_, (Gr.refl w).alloc _⟩) <;> first | exact fits_no HF.out (by omega) | exact fits_if HF.out (isE sw) (by omega)
          · by_cases h6 : k = 6
            · subst h6
              go_enter Try.func30, Try.ntmps30
              go_wp2 <;> go_ret <;> (refine ⟨retB ?_, (Gr.refl w).alloc _⟩) <;> first | exact fits_no HF.out (by omega) | exact fits_if (p := (sw.size : Int) ≤ 64) HF.out (by simp) (by omega)
            · go_enter Try.func30, Try.ntmps30
              go_wp2 <;> go_ret <;> (refine ⟨retB ?_, (Gr.refl w).alloc _⟩) <;> exact fits_no HF.out (by omega)

def errB (b : Bool) : Int := if b = true then 0 else 1
theorem errF {b : Bool} {k o n t : Int} {kl wl : Nat} (hf : mayS k o n t kl wl = b) (h : ¬ (1 ≤ kl ∧ kl ≤ 32 ∧ 0 ≤ o ∧ o ≤ 15)) : 1 = errB b := by
  have : b = false := by rw [← hf, ← Bool.not_eq_true, mayS_iff]; exact fun q => h q.1
  rw [this]; rfl
theorem errT {b f : Bool} {k o n t : Int} {kl wl : Nat} (hf : mayS k o n t kl wl = b) (h : 1 ≤ kl ∧ kl ≤ 32 ∧ 0 ≤ o ∧ o ≤ 15) (hk : fits k n t wl = f) : b = f := by
  rw [← hf, ← hk, Bool.eq_iff_iff, mayS_iff]; exact ⟨fun q => q.2, fun q => ⟨h, q⟩⟩
set_option maxHeartbeats 1000000 in
theorem CheckEffect_any (k o n t : Int) (sk sw : ByteArray) (b : Bool) (hf : mayS k o n t sk.size sw.size = b) (w : World) :
    Calls Try.prog 10 #[.agg #[.int .i64 k, .int .i64 o, .string sk, .int .i64 n, .int .i64 t, .string sw]] w fun e w' => e = .returned (.int .i64 (errB b)) ∧ Gr w w' := by
  have HF := hide hf
  clear hf
  by_cases h1 : (sk.size : Int) < 1
  · go_enter Try.func10, Try.ntmps10
    go_wp2
    go_ret
    exact ⟨ret_int (errF HF.out (by omega)), (Gr.refl w).alloc _⟩
  · by_cases h2 : (sk.size : Int) > 32
    · go_enter Try.func10, Try.ntmps10
      go_wp2
      go_ret
      exact ⟨ret_int (errF HF.out (by omega)), (Gr.refl w).alloc _⟩
    · by_cases h3 : o < 0
      · go_enter Try.func10, Try.ntmps10
        go_wp2
        go_ret
        exact ⟨ret_int (errF HF.out (by omega)), (Gr.refl w).alloc _⟩
      · by_cases h4 : o > 15
        · go_enter Try.func10, Try.ntmps10
          go_wp2
          go_ret
          exact ⟨ret_int (errF HF.out (by omega)), (Gr.refl w).alloc _⟩
        · obtain ⟨f, hk⟩ : ∃ f, fits k n t sw.size = f := ⟨_, rfl⟩
          have HG := hide (fun W => fitsKind_any k o n t sk sw f hk W)
          have HE := hide (errT HF.out (by omega) hk)
          have HU := hide ((Gr.refl w).alloc (bxF k o n t sk sw))
          clear hk
          cases f
          · go_enter Try.func10, Try.ntmps10
            go_wp2_with (go_at_call 30; refine (HG.out _).mono ?_; rintro e w' ⟨rfl, hg⟩)
            go_ret
            exact ⟨ret_int (by rw [HE.out]; rfl), HU.out.trans hg⟩
          · go_enter Try.func10, Try.ntmps10
            go_wp2_with (go_at_call 30; refine (HG.out _).mono ?_; rintro e w' ⟨rfl, hg⟩)
            go_ret
            exact ⟨ret_int (by rw [HE.out]; rfl), HU.out.trans hg⟩
theorem may_no {b : Bool} {k o n t : Int} {kl wl : Nat} (hf : mayS k o n t kl wl = b) (h : ¬ ((1 ≤ kl ∧ kl ≤ 32 ∧ 0 ≤ o ∧ o ≤ 15) ∧ (((k = 1 ∨ k = 2) ∧ n = 0 ∧ t = 0 ∧ wl = 0) ∨ ((k = 3 ∨ k = 4) ∧ 1 ≤ n ∧ n ≤ 1000 ∧ t = 0 ∧ wl = 0) ∨ (k = 5 ∧ 1 ≤ n ∧ n ≤ 1000 ∧ 1 ≤ t ∧ t ≤ 5 ∧ wl = 0) ∨ (k = 6 ∧ n = 0 ∧ t = 0 ∧ wl ≤ 64)))) : false = b := by
  rw [← hf]; symm; rw [← Bool.not_eq_true, mayS_iff, fits_iff]; exact h
theorem may_if {k o n t : Int} {kl wl : Nat} {f b : Bool} {p : Prop} [Decidable p] (hf : mayS k o n t kl wl = f) (hb : b = decide p) (h : p ↔ ((1 ≤ kl ∧ kl ≤ 32 ∧ 0 ≤ o ∧ o ≤ 15) ∧ (((k = 1 ∨ k = 2) ∧ n = 0 ∧ t = 0 ∧ wl = 0) ∨ ((k = 3 ∨ k = 4) ∧ 1 ≤ n ∧ n ≤ 1000 ∧ t = 0 ∧ wl = 0) ∨ (k = 5 ∧ 1 ≤ n ∧ n ≤ 1000 ∧ 1 ≤ t ∧ t ≤ 5 ∧ wl = 0) ∨ (k = 6 ∧ n = 0 ∧ t = 0 ∧ wl ≤ 64)))) : b = f := by
  rw [← hf, hb, Bool.eq_iff_iff, decide_eq_true_iff, mayS_iff, fits_iff]; exact h
end Go.Proofs.Ytooggheoaglbeaa

/- What a Seen may be, in plain mathematics. -/
namespace Go.Proofs.Ytooggheoaglbeaa

def okAt (c : List Int) (m : List Dot) (i : Nat) : Bool :=
  (mayD (m.getD i (0, 0)) && decide ((m.getD i (0, 0)).2 > getZ c (m.getD i (0, 0)).1 + 1)) && (decide (i = 0) || lessD (m.getD (i - 1) (0, 0)) (m.getD i (0, 0)))
def plainC (c : List Int) : Bool := mayC c && decide (pln (vec c) = c)
def seenB (c : List Int) (m : List Dot) : Bool := plainC c && decide (m.length ≤ 1000) && (List.range m.length).all (okAt c m)
def okFrom (c : List Int) (m : List Dot) (k : Nat) : Prop := ∀ i, k ≤ i → i < m.length → okAt c m i = true
def hasB (c : List Int) (m : List Dot) (d : Dot) : Bool := mayD d && (decide (d.2 ≤ getZ c d.1) || decide (d ∈ m))

theorem okFrom_step {c : List Int} {m : List Dot} {k : Nat} (h : k < m.length) : okFrom c m k ↔ okAt c m k = true ∧ okFrom c m (k + 1) := by
  constructor
  · exact fun q => ⟨q k (Nat.le_refl _) h, fun i hi hl => q i (by omega) hl⟩
  · rintro ⟨q, q'⟩ i hi hl
    by_cases e : i = k
    · subst e; exact q
    · exact q' i (by omega) hl
theorem okFrom_end {c : List Int} {m : List Dot} {k : Nat} (h : m.length ≤ k) : okFrom c m k := fun i hi hl => by omega
theorem seenB_iff {c : List Int} {m : List Dot} : seenB c m = true ↔ plainC c = true ∧ m.length ≤ 1000 ∧ okFrom c m 0 := by
  unfold seenB okFrom
  simp [and_assoc]
theorem pln_zeros (l : List Int) (k : Nat) : pln (l ++ List.replicate k 0) = pln l := by
  induction k with
  | zero => simp
  | succ k ih => rw [List.replicate_succ', ← List.append_assoc, pln_zero, ih]
theorem vec_pad {c : List Int} (h : mayC c = true) : vec c = c ++ List.replicate (5 - c.length) 0 := by
  have h5 := (mayC_iff.1 h).1
  unfold vec at5
  simp only [if_pos h]
  match c, h5 with
  | [], _ => rfl
  | [_], _ => rfl
  | [_, _], _ => rfl
  | [_, _, _], _ => rfl
  | [_, _, _, _], _ => rfl
  | [_, _, _, _, _], _ => rfl
  | _ :: _ :: _ :: _ :: _ :: _ :: _, h5 => simp at h5
theorem plain_len {c : List Int} (h : mayC c = true) : (pln (vec c)).length = c.length ↔ pln (vec c) = c := by
  rw [vec_pad h, pln_zeros]
  constructor
  · intro e
    unfold pln at *
    exact List.take_of_length_le (by rw [List.length_take] at e; omega)
  · exact fun e => by rw [e]
theorem plainC_as {c : List Int} (h : mayC c = true) : plainC c = decide ((pln (vec c)).length = c.length) := by
  unfold plainC
  rw [h, Bool.true_and]
  exact decide_eq_decide.2 (plain_len h).symm
theorem numX_getZ (c : List Int) {d : Dot} (h : mayD d = true) : numX (vec c) d = getZ c d.1 := by
  rw [mayD_iff] at h
  unfold numX getZ
  rw [if_pos ⟨h.1, h.2.1⟩, vec_getD c _ (by omega)]
  congr 1
  omega
theorem vec_bdX (c : List Int) : BdX (vec c) := ⟨vec_len c, vec_bd c⟩
theorem srt_of_next : ∀ {l : List Dot}, (∀ i, i + 1 < l.length → lessD (l.getD i (0, 0)) (l.getD (i + 1) (0, 0)) = true) → SrtD l
  | [], _ => List.Pairwise.nil
  | [x], _ => by simp [SrtD]
  | x :: y :: r, h => by
    have ih := srt_of_next (l := y :: r) (fun i hi => by simpa using h (i + 1) (by simp at hi ⊢; omega))
    have h0 : lessD x y = true := by simpa using h 0 (by simp)
    refine List.pairwise_cons.2 ⟨fun a ha => ?_, ih⟩
    rcases List.mem_cons.1 ha with rfl | ha
    · exact h0
    · exact lessD_trans h0 ((List.pairwise_cons.1 ih).1 a ha)
theorem getDot_mem {l : List Dot} {i : Nat} (h : i < l.length) : l.getD i (0, 0) ∈ l := by
  have : l.getD i (0, 0) = l[i] := by simp [List.getD_eq_getElem?_getD, h]
  rw [this]; exact List.getElem_mem h
theorem mem_getD {l : List Dot} {x : Dot} (h : x ∈ l) : ∃ i, i < l.length ∧ l.getD i (0, 0) = x := by
  obtain ⟨i, hi, rfl⟩ := List.getElem_of_mem h
  exact ⟨i, hi, by simp [List.getD_eq_getElem?_getD, hi]⟩
theorem srt_lt {l : List Dot} (h : SrtD l) {i j : Nat} (hij : i < j) (hj : j < l.length) : lessD (l.getD i (0, 0)) (l.getD j (0, 0)) = true := by
  have := List.pairwise_iff_getElem.1 h i j (by omega) hj hij
  simpa [List.getD_eq_getElem?_getD, hj, show i < l.length by omega] using this
theorem seen_good {c : List Int} {m : List Dot} (h : seenB c m = true) : GoodX (vec c, m) ∧ pln (vec c) = c ∧ mayC c = true ∧ m.length ≤ 1000 := by
  obtain ⟨h1, h2, h3⟩ := seenB_iff.1 h
  unfold plainC at h1
  simp only [Bool.and_eq_true, decide_eq_true_eq] at h1
  have hA : ∀ i, i < m.length → mayD (m.getD i (0, 0)) = true ∧ getZ c (m.getD i (0, 0)).1 + 1 < (m.getD i (0, 0)).2 ∧ (i = 0 ∨ lessD (m.getD (i - 1) (0, 0)) (m.getD i (0, 0)) = true) := fun i hi => by
    have := h3 i (by omega) hi
    unfold okAt at this
    simp only [Bool.and_eq_true, Bool.or_eq_true, decide_eq_true_eq] at this
    exact ⟨this.1.1, this.1.2, this.2⟩
  refine ⟨⟨vec_bdX c, srt_of_next fun i hi => ?_, fun x hx => ?_⟩, h1.2, h1.1, h2⟩
  · rcases (hA (i + 1) hi).2.2 with q | q
    · omega
    · simpa using q
  · obtain ⟨i, hi, rfl⟩ := mem_getD hx
    have := hA i hi
    exact ⟨this.1, by rw [numX_getZ c this.1]; exact this.2.1⟩
theorem good_seen {X : List Int} {m : List Dot} (h : GoodX (X, m)) (hl : m.length ≤ 1000) : seenB (pln X) m = true := by
  have e : vec (pln X) = X := vec_pln X h.1.1 h.1.2
  rw [seenB_iff]
  refine ⟨?_, hl, fun i _ hi => ?_⟩
  · unfold plainC
    rw [mayC_pln X (by have : X.length = 5 := h.1.1; omega) h.1.2, e]
    simp
  · have hx := h.2.2 _ (getDot_mem hi)
    have hz := numX_getZ (pln X) hx.1
    rw [e] at hz
    unfold okAt
    rw [hx.1]
    simp only [Bool.true_and, Bool.and_eq_true, Bool.or_eq_true, decide_eq_true_eq]
    refine ⟨by rw [← hz]; exact hx.2, ?_⟩
    rcases Nat.eq_zero_or_pos i with q | q
    · exact .inl q
    · exact .inr (srt_lt h.2.1 (by omega) hi)
theorem hasB_iff {c : List Int} {m : List Dot} {d : Dot} : hasB c m d = true ↔ mayD d = true ∧ hasX (vec c, m) d := by
  unfold hasB
  simp only [Bool.and_eq_true, Bool.or_eq_true, decide_eq_true_eq]
  constructor
  · rintro ⟨h, q⟩
    refine ⟨h, ?_⟩
    unfold hasX
    rw [numX_getZ c h]
    exact q
  · rintro ⟨h, q⟩
    refine ⟨h, ?_⟩
    unfold hasX at q
    rw [numX_getZ c h] at q
    exact q
theorem found_iff {l : List Dot} (h : SrtD l) {d : Dot} {i : Nat} (h1 : ∀ t, t < i → lessD (l.getD t (0, 0)) d = true) (h2 : ∀ t, i ≤ t → t < l.length → lessD (l.getD t (0, 0)) d = false) :
    d ∈ l ↔ (i < l.length ∧ cmpD (l.getD i (0, 0)) d = 0) := by
  rw [cmpD_eq]
  constructor
  · intro hd
    obtain ⟨t, ht, e⟩ := mem_getD hd
    have h3 : i ≤ t := Nat.not_lt.1 fun q => by have := h1 t q; rw [e, lessD_irr] at this; cases this
    have h4 : ¬ i < t := fun q => by have := srt_lt h q ht; rw [e, h2 i (Nat.le_refl _) (by omega)] at this; cases this
    have h5 : i = t := by omega
    subst h5
    exact ⟨ht, e⟩
  · rintro ⟨hi, e⟩
    rw [← e]; exact getDot_mem hi
end Go.Proofs.Ytooggheoaglbeaa

/- Which events may be: the program's answer. -/
namespace Go.Proofs.Ytooggheoaglbeaa
open Go.RowKit
set_option linter.unusedVariables false

theorem plain_is (c : List Int) : plainC c = plainB c := by
  unfold plainC plainB
  rcases hm : mayC c with _ | _
  · rfl
  · rw [pln_vec c hm]
set_option maxHeartbeats 400000 in
theorem isPlainE_any (a : Option Addr) (n cap : Nat) (c : List Int) (w : World) (hN : NS w a n c) :
    Calls Try.prog 43 #[.slice a n cap] w fun e w' => e = .returned (.bool (plainB c)) ∧ Below w.heap.size w w' := by
  rw [← plain_is]
  have hmax := hN.2.1
  unfold maxLen at hmax
  have hlen := hN.1
  have HC := hide (check_any a n cap c w hN)
  have HP := hide (Plain_any a n cap c w hN)
  clear hN
  rcases hm : mayC c with _ | _
  · have e1 : chk c = 1 := by unfold chk; rw [hm]; rfl
    rw [e1] at HC
    have HE : Hid (false = plainC c) := by unfold Hid plainC; rw [hm]; rfl
    clear hm e1 hlen
    go_enter Try.func43, Try.ntmps43
    go_wp2_with (go_at_call 63; refine HC.out.mono ?_; rintro e w' ⟨rfl, rfl⟩)
    go_ret
    exact ⟨retB HE.out, Below.refl _ _⟩
  · have e1 : chk c = 0 := by unfold chk; rw [hm]; rfl
    rw [e1] at HC
    have HE : Hid (decide ((pln (vec c)).length = n) = plainC c) := by unfold Hid; rw [plainC_as hm, hlen]
    clear hm e1 hlen
    go_enter Try.func43, Try.ntmps43
    go_wp2_with (first
      | (go_at_call 63; refine HC.out.mono ?_; rintro e w' ⟨rfl, hw⟩; replace hw := hw.symm; subst hw)
      | (go_at_call 62; refine Stop.at ?_))
    unfold Stop
    refine HP.out.mono ?_
    rintro e w' ⟨v, rfl, hO, hB⟩
    obtain ⟨p, cp, hv, hns, _⟩ := hO.open
    subst hv
    have hl2 := hns.2.1
    unfold maxLen at hl2
    generalize (pln (vec c)).length = k at hl2 HE
    clear hns hO
    have HE2 : Hid (((k : Int) == (n : Int)) = plainC c) := by
      have h := HE.out; unfold Hid; rw [← h, Bool.eq_iff_iff, beq_iff_eq, decide_eq_true_iff]; omega
    go_wp2
    go_ret
    exact ⟨retB HE2.out, hB⟩

/-- An event's box. -/
abbrev bxE (r s : Int) (pa : Option Addr) (na ca : Nat) (pe : Option Addr) (ne ce : Nat) : Obj := .cells #[.int .i64 r, .int .i64 s, .slice pa na ca, .slice pe ne ce] 28
theorem wrap_s {s : Int} (h1 : 1 ≤ s) (h2 : s ≤ 1048576) : IntKind.i64.wrap (s - 1) = s - 1 := by
  unfold IntKind.wrap
  simp [IntKind.bits, IntKind.signed]
  omega
theorem errE {b : Bool} (h : b = false) : 1 = errB b := by rw [h]; rfl
theorem errE0 {b : Bool} (h : b = true) : 0 = errB b := by rw [h]; rfl
theorem allF_drop {l : List Eff} {k : Nat} {x : Eff} (h : l[k]? = some x) : (l.drop k).all mayF = (mayF x && (l.drop (k + 1)).all mayF) := by
  obtain ⟨h1, h2⟩ := List.getElem?_eq_some_iff.1 h
  rw [List.drop_eq_getElem_cons h1, h2, List.all_cons]
theorem not_may1 {r s : Int} {c : List Int} {l : List Eff} (h : mayD (r, s) = false) : mayE ((r, s), c, l) = false := by
  rw [← Bool.not_eq_true, mayE_iff, headB_iff]; rintro ⟨⟨h1, _⟩, _⟩; rw [h] at h1; cases h1
theorem not_may2 {r s : Int} {c : List Int} {l : List Eff} (h : plainB c = false) : mayE ((r, s), c, l) = false := by
  rw [← Bool.not_eq_true, mayE_iff, headB_iff, ← plainB_iff]; rintro ⟨⟨_, h1, _⟩, _⟩; rw [h] at h1; cases h1
theorem not_may3 {r s : Int} {c : List Int} {l : List Eff} (h : ¬ getZ c r = s - 1) : mayE ((r, s), c, l) = false := by
  rw [← Bool.not_eq_true, mayE_iff, headB_iff]; rintro ⟨⟨_, _, h1⟩, _⟩; exact h h1
theorem not_may4 {r s : Int} {c : List Int} {l : List Eff} (h : ¬ (1 ≤ l.length ∧ l.length ≤ 16)) : mayE ((r, s), c, l) = false := by
  rw [← Bool.not_eq_true, mayE_iff]; rintro ⟨_, h1, _⟩; exact h h1
theorem may_all {r s : Int} {c : List Int} {l : List Eff} (h1 : mayD (r, s) = true) (h2 : plainB c = true) (h3 : getZ c r = s - 1) (h4 : 1 ≤ l.length ∧ l.length ≤ 16) : mayE ((r, s), c, l) = l.all mayF := by
  unfold mayE headB; simp [h1, h2, h3, h4]

set_option maxHeartbeats 4000000 in
theorem CheckE_any (r s : Int) (pa : Option Addr) (na ca : Nat) (pe : Option Addr) (ne ce : Nat) (c : List Int) (l : List Eff) (w : World) (hN : NS w pa na c) (hE : ES w pe ne l) :
    Calls Try.prog 16 #[.agg #[.int .i64 r, .int .i64 s, .slice pa na ca, .slice pe ne ce]] w fun e w' => e = .returned (.int .i64 (errB (mayE ((r, s), c, l)))) ∧ Below w.heap.size w w' := by
  have HM := hide (fun W => May_any r s W)
  have HP := hide (fun W (h : NS W pa na c) => isPlainE_any pa na ca c W h)
  have HG := hide (fun W (h : NS W pa na c) => Get_any pa na ca c r W h)
  have c0 : (w.alloc (bxE r s pa na ca pe ne ce)).cell? ⟨w.heap.size, 0, none⟩ = some (.int .i64 r) := cell_new w _ _ _ rfl 0 _ rfl
  have c1 : (w.alloc (bxE r s pa na ca pe ne ce)).cell? ⟨w.heap.size, 1, none⟩ = some (.int .i64 s) := cell_new w _ _ _ rfl 1 _ rfl
  have c2 : (w.alloc (bxE r s pa na ca pe ne ce)).cell? ⟨w.heap.size, 2, none⟩ = some (.slice pa na ca) := cell_new w _ _ _ rfl 2 _ rfl
  have c3 : (w.alloc (bxE r s pa na ca pe ne ce)).cell? ⟨w.heap.size, 3, none⟩ = some (.slice pe ne ce) := cell_new w _ _ _ rfl 3 _ rfl
  have HU := hide (bel1 w (bxE r s pa na ca pe ne ce))
  have NU := hide (hN.alloc (bxE r s pa na ca pe ne ce))
  have EU := hide (hE.alloc (bxE r s pa na ca pe ne ce))
  clear hN hE
  rcases hd : mayD (r, s) with _ | _
  · rw [hd] at HM
    have HX := hide (not_may1 (c := c) (l := l) hd)
    clear hd HP HG EU
    go_enter Try.func16, Try.ntmps16
    go_wp2
    generalize hu : w.alloc (bxE r s pa na ca pe ne ce) = u at *
    clear hu
    refine wp_region_held_drew (S := fun W => Below u.heap.size u W) (by kernel_rfl) ((Below.refl _ u).drew) (fun hS0 => ?_)
    refine takeInH 0 5 ?v1 rfl rfl (by kernel_rfl) (by kernel_rfl) (by kernel_rfl) (fun _ _ _ h => h) (by kernel_rfl) hS0 ?hy1 ?_
    case hy1 => (intro W hW; clear hW; go_simp; try rfl)
    simp only [Act.put, List.setIfInBounds_toArray, List.set_cons_zero, List.set_cons_succ]
    refine takeInH 1 6 ?v2 rfl rfl (by kernel_rfl) (by kernel_rfl) (by kernel_rfl) (fun _ _ _ h => h) (by kernel_rfl) hS0 ?hy2 ?_
    case hy2 => (intro W hW; have e0 := bcell hW c0; have e1 := bcell hW c1; have e2 := bcell hW c2; clear hW; go_simp; try rfl)
    simp only [Act.put, List.setIfInBounds_toArray, List.set_cons_zero, List.set_cons_succ]
    refine wpAnyH_ready (rs := [2]) (by kernel_rfl) (by simp) ?_
    refine AllReadyH.cons rfl (fun K hK => ?_) AllReadyH.nil
    go_simp
    refine (HM.out _).mono ?_
    rintro e w' ⟨rfl, hg⟩
    have hb := hg.bel
    clear hg
    try go_wp2_with fail
    refine hK.out _ _ ?hs3 (fun hS1 => ?_)
    case hs3 => exact bel_next hS0 hb
    clear hK K
    try simp only [Act.put, List.setIfInBounds_toArray, List.set_cons_zero, List.set_cons_succ]
    refine takeInH 3 8 ?v4 rfl rfl (by kernel_rfl) (by kernel_rfl) (by kernel_rfl) (fun _ _ _ h => h) (by kernel_rfl) hS1 ?hy4 ?_
    case hy4 => (intro W hW; clear hW; go_simp; try rfl)
    simp only [Act.put, List.setIfInBounds_toArray, List.set_cons_zero, List.set_cons_succ]
    refine takeInH 4 9 ?v5 rfl rfl (by kernel_rfl) (by kernel_rfl) (by kernel_rfl) (fun _ _ _ h => h) (by kernel_rfl) hS1 ?hy5 ?_
    case hy5 => (intro W hW; clear hW; go_simp; try rfl)
    simp only [Act.put, List.setIfInBounds_toArray, List.set_cons_zero, List.set_cons_succ]
    refine takeNoH 5 10 rfl rfl (by kernel_rfl) (by kernel_rfl) (by kernel_rfl) (fun _ _ _ h => h) (by kernel_rfl) hS1 ?_
    simp only [Act.put, List.setIfInBounds_toArray, List.set_cons_zero, List.set_cons_succ]
    refine takeNoH 6 11 rfl rfl (by kernel_rfl) (by kernel_rfl) (by kernel_rfl) (fun _ _ _ h => h) (by kernel_rfl) hS1 ?_
    simp only [Act.put, List.setIfInBounds_toArray, List.set_cons_zero, List.set_cons_succ]
    refine takeNoH 7 12 rfl rfl (by kernel_rfl) (by kernel_rfl) (by kernel_rfl) (fun _ _ _ h => h) (by kernel_rfl) hS1 ?_
    simp only [Act.put, List.setIfInBounds_toArray, List.set_cons_zero, List.set_cons_succ]
    refine takeNoH 8 13 rfl rfl (by kernel_rfl) (by kernel_rfl) (by kernel_rfl) (fun _ _ _ h => h) (by kernel_rfl) hS1 ?_
    simp only [Act.put, List.setIfInBounds_toArray, List.set_cons_zero, List.set_cons_succ]
    refine takeInH 9 14 ?v6 rfl rfl (by kernel_rfl) (by kernel_rfl) (by kernel_rfl) (fun _ _ _ h => h) (by kernel_rfl) hS1 ?hy6 ?_
    case hy6 => (intro W hW; clear hW; go_simp; try rfl)
    simp only [Act.put, List.setIfInBounds_toArray, List.set_cons_zero, List.set_cons_succ]
    refine takeInH 10 15 ?v7 rfl rfl (by kernel_rfl) (by kernel_rfl) (by kernel_rfl) (fun _ _ _ h => h) (by kernel_rfl) hS1 ?hy7 ?_
    case hy7 => (intro W hW; clear hW; go_simp; try rfl)
    simp only [Act.put, List.setIfInBounds_toArray, List.set_cons_zero, List.set_cons_succ]
    refine takeNoH 11 16 rfl rfl (by kernel_rfl) (by kernel_rfl) (by kernel_rfl) (fun _ _ _ h => h) (by kernel_rfl) hS1 ?_
    simp only [Act.put, List.setIfInBounds_toArray, List.set_cons_zero, List.set_cons_succ]
    refine takeNoH 12 17 rfl rfl (by kernel_rfl) (by kernel_rfl) (by kernel_rfl) (fun _ _ _ h => h) (by kernel_rfl) hS1 ?_
    simp only [Act.put, List.setIfInBounds_toArray, List.set_cons_zero, List.set_cons_succ]
    refine takeNoH 13 18 rfl rfl (by kernel_rfl) (by kernel_rfl) (by kernel_rfl) (fun _ _ _ h => h) (by kernel_rfl) hS1 ?_
    simp only [Act.put, List.setIfInBounds_toArray, List.set_cons_zero, List.set_cons_succ]
    refine takeNoH 14 19 rfl rfl (by kernel_rfl) (by kernel_rfl) (by kernel_rfl) (fun _ _ _ h => h) (by kernel_rfl) hS1 ?_
    simp only [Act.put, List.setIfInBounds_toArray, List.set_cons_zero, List.set_cons_succ]
    refine takeNoH 15 20 rfl rfl (by kernel_rfl) (by kernel_rfl) (by kernel_rfl) (fun _ _ _ h => h) (by kernel_rfl) hS1 ?_
    simp only [Act.put, List.setIfInBounds_toArray, List.set_cons_zero, List.set_cons_succ]
    refine takeNoH 16 21 rfl rfl (by kernel_rfl) (by kernel_rfl) (by kernel_rfl) (fun _ _ _ h => h) (by kernel_rfl) hS1 ?_
    simp only [Act.put, List.setIfInBounds_toArray, List.set_cons_zero, List.set_cons_succ]
    refine takeNoH 17 22 rfl rfl (by kernel_rfl) (by kernel_rfl) (by kernel_rfl) (fun _ _ _ h => h) (by kernel_rfl) hS1 ?_
    simp only [Act.put, List.setIfInBounds_toArray, List.set_cons_zero, List.set_cons_succ]
    refine takeNoH 18 23 rfl rfl (by kernel_rfl) (by kernel_rfl) (by kernel_rfl) (fun _ _ _ h => h) (by kernel_rfl) hS1 ?_
    simp only [Act.put, List.setIfInBounds_toArray, List.set_cons_zero, List.set_cons_succ]
    refine takeNoH 19 24 rfl rfl (by kernel_rfl) (by kernel_rfl) (by kernel_rfl) (fun _ _ _ h => h) (by kernel_rfl) hS1 ?_
    simp only [Act.put, List.setIfInBounds_toArray, List.set_cons_zero, List.set_cons_succ]
    refine takeNoH 20 25 rfl rfl (by kernel_rfl) (by kernel_rfl) (by kernel_rfl) (fun _ _ _ h => h) (by kernel_rfl) hS1 ?_
    simp only [Act.put, List.setIfInBounds_toArray, List.set_cons_zero, List.set_cons_succ]
    refine takeNoH 21 26 rfl rfl (by kernel_rfl) (by kernel_rfl) (by kernel_rfl) (fun _ _ _ h => h) (by kernel_rfl) hS1 ?_
    simp only [Act.put, List.setIfInBounds_toArray, List.set_cons_zero, List.set_cons_succ]
    refine takeInH 22 27 ?v8 rfl rfl (by kernel_rfl) (by kernel_rfl) (by kernel_rfl) (fun _ _ _ h => h) (by kernel_rfl) hS1 ?hy8 ?_
    case hy8 => (intro W hW; clear hW; go_simp; try rfl)
    simp only [Act.put, List.setIfInBounds_toArray, List.set_cons_zero, List.set_cons_succ]
    refine wpAnyH_done (by kernel_rfl) ?_ _
    go_wp2
    go_ret
    exact ⟨ret_int (errE HX.out), bel_next HU.out hS1⟩
  · rcases hp : plainB c with _ | _
    · rw [hd] at HM
      rw [hp] at HP
      have HX := hide (not_may2 (r := r) (s := s) (l := l) hp)
      clear hd hp HG EU
      go_enter Try.func16, Try.ntmps16
      go_wp2
      generalize hu : w.alloc (bxE r s pa na ca pe ne ce) = u at *
      clear hu
      refine wp_region_held_drew (S := fun W => Below u.heap.size u W) (by kernel_rfl) ((Below.refl _ u).drew) (fun hS0 => ?_)
      refine takeInH 0 5 ?v9 rfl rfl (by kernel_rfl) (by kernel_rfl) (by kernel_rfl) (fun _ _ _ h => h) (by kernel_rfl) hS0 ?hy9 ?_
      case hy9 => (intro W hW; clear hW; go_simp; try rfl)
      simp only [Act.put, List.setIfInBounds_toArray, List.set_cons_zero, List.set_cons_succ]
      refine takeInH 1 6 ?v10 rfl rfl (by kernel_rfl) (by kernel_rfl) (by kernel_rfl) (fun _ _ _ h => h) (by kernel_rfl) hS0 ?hy10 ?_
      case hy10 => (intro W hW; have e0 := bcell hW c0; have e1 := bcell hW c1; have e2 := bcell hW c2; clear hW; go_simp; try rfl)
      simp only [Act.put, List.setIfInBounds_toArray, List.set_cons_zero, List.set_cons_succ]
      refine wpAnyH_ready (rs := [2]) (by kernel_rfl) (by simp) ?_
      refine AllReadyH.cons rfl (fun K hK => ?_) AllReadyH.nil
      go_simp
      refine (HM.out _).mono ?_
      rintro e w' ⟨rfl, hg⟩
      have hb := hg.bel
      clear hg
      try go_wp2_with fail
      refine hK.out _ _ ?hs11 (fun hS1 => ?_)
      case hs11 => exact bel_next hS0 hb
      clear hK K
      try simp only [Act.put, List.setIfInBounds_toArray, List.set_cons_zero, List.set_cons_succ]
      refine takeInH 3 8 ?v12 rfl rfl (by kernel_rfl) (by kernel_rfl) (by kernel_rfl) (fun _ _ _ h => h) (by kernel_rfl) hS1 ?hy12 ?_
      case hy12 => (intro W hW; clear hW; go_simp; try rfl)
      simp only [Act.put, List.setIfInBounds_toArray, List.set_cons_zero, List.set_cons_succ]
      refine takeInH 4 9 ?v13 rfl rfl (by kernel_rfl) (by kernel_rfl) (by kernel_rfl) (fun _ _ _ h => h) (by kernel_rfl) hS1 ?hy13 ?_
      case hy13 => (intro W hW; clear hW; go_simp; try rfl)
      simp only [Act.put, List.setIfInBounds_toArray, List.set_cons_zero, List.set_cons_succ]
      refine takeInH 5 10 ?v14 rfl rfl (by kernel_rfl) (by kernel_rfl) (by kernel_rfl) (fun _ _ _ h => h) (by kernel_rfl) hS1 ?hy14 ?_
      case hy14 => (intro W hW; clear hW; go_simp; try rfl)
      simp only [Act.put, List.setIfInBounds_toArray, List.set_cons_zero, List.set_cons_succ]
      refine takeInH 6 11 ?v15 rfl rfl (by kernel_rfl) (by kernel_rfl) (by kernel_rfl) (fun _ _ _ h => h) (by kernel_rfl) hS1 ?hy15 ?_
      case hy15 => (intro W hW; have e0 := bcell hW c0; have e1 := bcell hW c1; have e2 := bcell hW c2; clear hW; go_simp; try rfl)
      simp only [Act.put, List.setIfInBounds_toArray, List.set_cons_zero, List.set_cons_succ]
      refine wpAnyH_ready (rs := [7]) (by kernel_rfl) (by simp) ?_
      refine AllReadyH.cons rfl (fun K hK => ?_) AllReadyH.nil
      go_simp
      refine (HP.out _ (NU.out.below hS1)).mono ?_
      rintro e w' ⟨rfl, hb⟩
      try go_wp2_with fail
      refine hK.out _ _ ?hs16 (fun hS2 => ?_)
      case hs16 => exact bel_next hS1 hb
      clear hK K
      try simp only [Act.put, List.setIfInBounds_toArray, List.set_cons_zero, List.set_cons_succ]
      refine takeInH 8 13 ?v17 rfl rfl (by kernel_rfl) (by kernel_rfl) (by kernel_rfl) (fun _ _ _ h => h) (by kernel_rfl) hS2 ?hy17 ?_
      case hy17 => (intro W hW; clear hW; go_simp; try rfl)
      simp only [Act.put, List.setIfInBounds_toArray, List.set_cons_zero, List.set_cons_succ]
      refine takeInH 9 14 ?v18 rfl rfl (by kernel_rfl) (by kernel_rfl) (by kernel_rfl) (fun _ _ _ h => h) (by kernel_rfl) hS2 ?hy18 ?_
      case hy18 => (intro W hW; clear hW; go_simp; try rfl)
      simp only [Act.put, List.setIfInBounds_toArray, List.set_cons_zero, List.set_cons_succ]
      refine takeInH 10 15 ?v19 rfl rfl (by kernel_rfl) (by kernel_rfl) (by kernel_rfl) (fun _ _ _ h => h) (by kernel_rfl) hS2 ?hy19 ?_
      case hy19 => (intro W hW; clear hW; go_simp; try rfl)
      simp only [Act.put, List.setIfInBounds_toArray, List.set_cons_zero, List.set_cons_succ]
      refine takeNoH 11 16 rfl rfl (by kernel_rfl) (by kernel_rfl) (by kernel_rfl) (fun _ _ _ h => h) (by kernel_rfl) hS2 ?_
      simp only [Act.put, List.setIfInBounds_toArray, List.set_cons_zero, List.set_cons_succ]
      refine takeNoH 12 17 rfl rfl (by kernel_rfl) (by kernel_rfl) (by kernel_rfl) (fun _ _ _ h => h) (by kernel_rfl) hS2 ?_
      simp only [Act.put, List.setIfInBounds_toArray, List.set_cons_zero, List.set_cons_succ]
      refine takeNoH 13 18 rfl rfl (by kernel_rfl) (by kernel_rfl) (by kernel_rfl) (fun _ _ _ h => h) (by kernel_rfl) hS2 ?_
      simp only [Act.put, List.setIfInBounds_toArray, List.set_cons_zero, List.set_cons_succ]
      refine takeNoH 14 19 rfl rfl (by kernel_rfl) (by kernel_rfl) (by kernel_rfl) (fun _ _ _ h => h) (by kernel_rfl) hS2 ?_
      simp only [Act.put, List.setIfInBounds_toArray, List.set_cons_zero, List.set_cons_succ]
      refine takeNoH 15 20 rfl rfl (by kernel_rfl) (by kernel_rfl) (by kernel_rfl) (fun _ _ _ h => h) (by kernel_rfl) hS2 ?_
      simp only [Act.put, List.setIfInBounds_toArray, List.set_cons_zero, List.set_cons_succ]
      refine takeNoH 16 21 rfl rfl (by kernel_rfl) (by kernel_rfl) (by kernel_rfl) (fun _ _ _ h => h) (by kernel_rfl) hS2 ?_
      simp only [Act.put, List.setIfInBounds_toArray, List.set_cons_zero, List.set_cons_succ]
      refine takeNoH 17 22 rfl rfl (by kernel_rfl) (by kernel_rfl) (by kernel_rfl) (fun _ _ _ h => h) (by kernel_rfl) hS2 ?_
      simp only [Act.put, List.setIfInBounds_toArray, List.set_cons_zero, List.set_cons_succ]
      refine takeNoH 18 23 rfl rfl (by kernel_rfl) (by kernel_rfl) (by kernel_rfl) (fun _ _ _ h => h) (by kernel_rfl) hS2 ?_
      simp only [Act.put, List.setIfInBounds_toArray, List.set_cons_zero, List.set_cons_succ]
      refine takeNoH 19 24 rfl rfl (by kernel_rfl) (by kernel_rfl) (by kernel_rfl) (fun _ _ _ h => h) (by kernel_rfl) hS2 ?_
      simp only [Act.put, List.setIfInBounds_toArray, List.set_cons_zero, List.set_cons_succ]
      refine takeNoH 20 25 rfl rfl (by kernel_rfl) (by kernel_rfl) (by kernel_rfl) (fun _ _ _ h => h) (by kernel_rfl) hS2 ?_
      simp only [Act.put, List.setIfInBounds_toArray, List.set_cons_zero, List.set_cons_succ]
      refine takeNoH 21 26 rfl rfl (by kernel_rfl) (by kernel_rfl) (by kernel_rfl) (fun _ _ _ h => h) (by kernel_rfl) hS2 ?_
      simp only [Act.put, List.setIfInBounds_toArray, List.set_cons_zero, List.set_cons_succ]
      refine takeInH 22 27 ?v20 rfl rfl (by kernel_rfl) (by kernel_rfl) (by kernel_rfl) (fun _ _ _ h => h) (by kernel_rfl) hS2 ?hy20 ?_
      case hy20 => (intro W hW; clear hW; go_simp; try rfl)
      simp only [Act.put, List.setIfInBounds_toArray, List.set_cons_zero, List.set_cons_succ]
      refine wpAnyH_done (by kernel_rfl) ?_ _
      go_wp2
      go_ret
      exact ⟨ret_int (errE HX.out), bel_next HU.out hS2⟩
    · have hdd := mayD_iff.1 hd
      obtain ⟨d1, d2, d3, d4⟩ := hdd
      obtain ⟨z, hz⟩ : ∃ z, getZ c r = z := ⟨_, rfl⟩
      by_cases hq : z = s - 1
      · have HA := hide (may_all (l := l) hd hp (by rw [hz]; exact hq))
        rw [hd] at HM
        rw [hp] at HP
        rw [hz] at HG
        have hq1 : (z == s - 1) = true := by simpa using hq
        have hq2 : (z != s - 1) = false := by simp [hq]
        have hwr : IntKind.i64.wrap (s - 1) = s - 1 := wrap_s d3 d4
        clear hd hp hz hq
        have hmx := EU.out.1.2.1
        unfold maxLen at hmx
        have hln := hide EU.out.1.1
        by_cases k1 : (ne : Int) < 1
        · have HX := hide (not_may4 (r := r) (s := s) (c := c) (l := l) (by have := hln.out; omega))
          clear HA EU
          go_enter Try.func16, Try.ntmps16
          go_wp2
          generalize hu : w.alloc (bxE r s pa na ca pe ne ce) = u at *
          clear hu
          refine wp_region_held_drew (S := fun W => Below u.heap.size u W) (by kernel_rfl) ((Below.refl _ u).drew) (fun hS0 => ?_)
          refine takeInH 0 5 ?v21 rfl rfl (by kernel_rfl) (by kernel_rfl) (by kernel_rfl) (fun _ _ _ h => h) (by kernel_rfl) hS0 ?hy21 ?_
          case hy21 => (intro W hW; clear hW; go_simp; try rfl)
          simp only [Act.put, List.setIfInBounds_toArray, List.set_cons_zero, List.set_cons_succ]
          refine takeInH 1 6 ?v22 rfl rfl (by kernel_rfl) (by kernel_rfl) (by kernel_rfl) (fun _ _ _ h => h) (by kernel_rfl) hS0 ?hy22 ?_
          case hy22 => (intro W hW; have e0 := bcell hW c0; have e1 := bcell hW c1; have e2 := bcell hW c2; clear hW; go_simp; try rfl)
          simp only [Act.put, List.setIfInBounds_toArray, List.set_cons_zero, List.set_cons_succ]
          refine wpAnyH_ready (rs := [2]) (by kernel_rfl) (by simp) ?_
          refine AllReadyH.cons rfl (fun K hK => ?_) AllReadyH.nil
          go_simp
          refine (HM.out _).mono ?_
          rintro e w' ⟨rfl, hg⟩
          have hb := hg.bel
          clear hg
          try go_wp2_with fail
          refine hK.out _ _ ?hs23 (fun hS1 => ?_)
          case hs23 => exact bel_next hS0 hb
          clear hK K
          try simp only [Act.put, List.setIfInBounds_toArray, List.set_cons_zero, List.set_cons_succ]
          refine takeInH 3 8 ?v24 rfl rfl (by kernel_rfl) (by kernel_rfl) (by kernel_rfl) (fun _ _ _ h => h) (by kernel_rfl) hS1 ?hy24 ?_
          case hy24 => (intro W hW; clear hW; go_simp; try rfl)
          simp only [Act.put, List.setIfInBounds_toArray, List.set_cons_zero, List.set_cons_succ]
          refine takeInH 4 9 ?v25 rfl rfl (by kernel_rfl) (by kernel_rfl) (by kernel_rfl) (fun _ _ _ h => h) (by kernel_rfl) hS1 ?hy25 ?_
          case hy25 => (intro W hW; clear hW; go_simp; try rfl)
          simp only [Act.put, List.setIfInBounds_toArray, List.set_cons_zero, List.set_cons_succ]
          refine takeInH 5 10 ?v26 rfl rfl (by kernel_rfl) (by kernel_rfl) (by kernel_rfl) (fun _ _ _ h => h) (by kernel_rfl) hS1 ?hy26 ?_
          case hy26 => (intro W hW; clear hW; go_simp; try rfl)
          simp only [Act.put, List.setIfInBounds_toArray, List.set_cons_zero, List.set_cons_succ]
          refine takeInH 6 11 ?v27 rfl rfl (by kernel_rfl) (by kernel_rfl) (by kernel_rfl) (fun _ _ _ h => h) (by kernel_rfl) hS1 ?hy27 ?_
          case hy27 => (intro W hW; have e0 := bcell hW c0; have e1 := bcell hW c1; have e2 := bcell hW c2; clear hW; go_simp; try rfl)
          simp only [Act.put, List.setIfInBounds_toArray, List.set_cons_zero, List.set_cons_succ]
          refine wpAnyH_ready (rs := [7]) (by kernel_rfl) (by simp) ?_
          refine AllReadyH.cons rfl (fun K hK => ?_) AllReadyH.nil
          go_simp
          refine (HP.out _ (NU.out.below hS1)).mono ?_
          rintro e w' ⟨rfl, hb⟩
          try go_wp2_with fail
          refine hK.out _ _ ?hs28 (fun hS2 => ?_)
          case hs28 => exact bel_next hS1 hb
          clear hK K
          try simp only [Act.put, List.setIfInBounds_toArray, List.set_cons_zero, List.set_cons_succ]
          refine takeInH 8 13 ?v29 rfl rfl (by kernel_rfl) (by kernel_rfl) (by kernel_rfl) (fun _ _ _ h => h) (by kernel_rfl) hS2 ?hy29 ?_
          case hy29 => (intro W hW; clear hW; go_simp; try rfl)
          simp only [Act.put, List.setIfInBounds_toArray, List.set_cons_zero, List.set_cons_succ]
          refine takeInH 9 14 ?v30 rfl rfl (by kernel_rfl) (by kernel_rfl) (by kernel_rfl) (fun _ _ _ h => h) (by kernel_rfl) hS2 ?hy30 ?_
          case hy30 => (intro W hW; clear hW; go_simp; try rfl)
          simp only [Act.put, List.setIfInBounds_toArray, List.set_cons_zero, List.set_cons_succ]
          refine takeInH 10 15 ?v31 rfl rfl (by kernel_rfl) (by kernel_rfl) (by kernel_rfl) (fun _ _ _ h => h) (by kernel_rfl) hS2 ?hy31 ?_
          case hy31 => (intro W hW; clear hW; go_simp; try rfl)
          simp only [Act.put, List.setIfInBounds_toArray, List.set_cons_zero, List.set_cons_succ]
          refine takeInH 11 16 ?v32 rfl rfl (by kernel_rfl) (by kernel_rfl) (by kernel_rfl) (fun _ _ _ h => h) (by kernel_rfl) hS2 ?hy32 ?_
          case hy32 => (intro W hW; clear hW; go_simp; try rfl)
          simp only [Act.put, List.setIfInBounds_toArray, List.set_cons_zero, List.set_cons_succ]
          refine takeInH 12 17 ?v33 rfl rfl (by kernel_rfl) (by kernel_rfl) (by kernel_rfl) (fun _ _ _ h => h) (by kernel_rfl) hS2 ?hy33 ?_
          case hy33 => (intro W hW; have e0 := bcell hW c0; have e1 := bcell hW c1; have e2 := bcell hW c2; clear hW; go_simp; try rfl)
          simp only [Act.put, List.setIfInBounds_toArray, List.set_cons_zero, List.set_cons_succ]
          refine takeInH 13 18 ?v34 rfl rfl (by kernel_rfl) (by kernel_rfl) (by kernel_rfl) (fun _ _ _ h => h) (by kernel_rfl) hS2 ?hy34 ?_
          case hy34 => (intro W hW; clear hW; go_simp; try rfl)
          simp only [Act.put, List.setIfInBounds_toArray, List.set_cons_zero, List.set_cons_succ]
          refine takeInH 14 19 ?v35 rfl rfl (by kernel_rfl) (by kernel_rfl) (by kernel_rfl) (fun _ _ _ h => h) (by kernel_rfl) hS2 ?hy35 ?_
          case hy35 => (intro W hW; clear hW; go_simp; try rfl)
          simp only [Act.put, List.setIfInBounds_toArray, List.set_cons_zero, List.set_cons_succ]
          refine takeInH 15 20 ?v36 rfl rfl (by kernel_rfl) (by kernel_rfl) (by kernel_rfl) (fun _ _ _ h => h) (by kernel_rfl) hS2 ?hy36 ?_
          case hy36 => (intro W hW; have e0 := bcell hW c0; have e1 := bcell hW c1; have e2 := bcell hW c2; clear hW; go_simp; try rfl)
          simp only [Act.put, List.setIfInBounds_toArray, List.set_cons_zero, List.set_cons_succ]
          refine takeInH 17 22 ?v37 rfl rfl (by kernel_rfl) (by kernel_rfl) (by kernel_rfl) (fun _ _ _ h => h) (by kernel_rfl) hS2 ?hy37 ?_
          case hy37 => (intro W hW; clear hW; go_simp; try rfl)
          simp only [Act.put, List.setIfInBounds_toArray, List.set_cons_zero, List.set_cons_succ]
          refine takeInH 18 23 ?v38 rfl rfl (by kernel_rfl) (by kernel_rfl) (by kernel_rfl) (fun _ _ _ h => h) (by kernel_rfl) hS2 ?hy38 ?_
          case hy38 => (intro W hW; clear hW; go_simp; try rfl)
          simp only [Act.put, List.setIfInBounds_toArray, List.set_cons_zero, List.set_cons_succ]
          refine takeInH 19 24 ?v39 rfl rfl (by kernel_rfl) (by kernel_rfl) (by kernel_rfl) (fun _ _ _ h => h) (by kernel_rfl) hS2 ?hy39 ?_
          case hy39 => (intro W hW; have e0 := bcell hW c0; have e1 := bcell hW c1; have e2 := bcell hW c2; clear hW; go_simp; try rfl)
          simp only [Act.put, List.setIfInBounds_toArray, List.set_cons_zero, List.set_cons_succ]
          refine takeInH 20 25 ?v40 rfl rfl (by kernel_rfl) (by kernel_rfl) (by kernel_rfl) (fun _ _ _ h => h) (by kernel_rfl) hS2 ?hy40 ?_
          case hy40 => (intro W hW; clear hW; go_simp; try rfl)
          simp only [Act.put, List.setIfInBounds_toArray, List.set_cons_zero, List.set_cons_succ]
          refine wpAnyH_ready (rs := [16]) (by kernel_rfl) (by simp) ?_
          refine AllReadyH.cons rfl (fun K hK => ?_) AllReadyH.nil
          go_simp
          refine (HG.out _ (NU.out.below hS2)).mono ?_
          rintro e w' ⟨rfl, hb⟩
          try go_wp2_with fail
          refine hK.out _ _ ?hs41 (fun hS3 => ?_)
          case hs41 => exact bel_next hS2 hb
          clear hK K
          try simp only [Act.put, List.setIfInBounds_toArray, List.set_cons_zero, List.set_cons_succ]
          refine takeInH 21 26 ?v42 rfl rfl (by kernel_rfl) (by kernel_rfl) (by kernel_rfl) (fun _ _ _ h => h) (by kernel_rfl) hS3 ?hy42 ?_
          case hy42 => (intro W hW; clear hW; go_simp; try rfl)
          simp only [Act.put, List.setIfInBounds_toArray, List.set_cons_zero, List.set_cons_succ]
          refine takeInH 22 27 ?v43 rfl rfl (by kernel_rfl) (by kernel_rfl) (by kernel_rfl) (fun _ _ _ h => h) (by kernel_rfl) hS3 ?hy43 ?_
          case hy43 => (intro W hW; clear hW; go_simp; try rfl)
          simp only [Act.put, List.setIfInBounds_toArray, List.set_cons_zero, List.set_cons_succ]
          refine wpAnyH_done (by kernel_rfl) ?_ _
          have c3 := bcell hS3 c3
          go_wp2
          go_ret
          exact ⟨ret_int (errE HX.out), bel_next HU.out hS3⟩
        · by_cases k2 : (ne : Int) > 16
          · have HX := hide (not_may4 (r := r) (s := s) (c := c) (l := l) (by have := hln.out; omega))
            clear HA EU
            go_enter Try.func16, Try.ntmps16
            go_wp2
            generalize hu : w.alloc (bxE r s pa na ca pe ne ce) = u at *
            clear hu
            refine wp_region_held_drew (S := fun W => Below u.heap.size u W) (by kernel_rfl) ((Below.refl _ u).drew) (fun hS0 => ?_)
            refine takeInH 0 5 ?v44 rfl rfl (by kernel_rfl) (by kernel_rfl) (by kernel_rfl) (fun _ _ _ h => h) (by kernel_rfl) hS0 ?hy44 ?_
            case hy44 => (intro W hW; clear hW; go_simp; try rfl)
            simp only [Act.put, List.setIfInBounds_toArray, List.set_cons_zero, List.set_cons_succ]
            refine takeInH 1 6 ?v45 rfl rfl (by kernel_rfl) (by kernel_rfl) (by kernel_rfl) (fun _ _ _ h => h) (by kernel_rfl) hS0 ?hy45 ?_
            case hy45 => (intro W hW; have e0 := bcell hW c0; have e1 := bcell hW c1; have e2 := bcell hW c2; clear hW; go_simp; try rfl)
            simp only [Act.put, List.setIfInBounds_toArray, List.set_cons_zero, List.set_cons_succ]
            refine wpAnyH_ready (rs := [2]) (by kernel_rfl) (by simp) ?_
            refine AllReadyH.cons rfl (fun K hK => ?_) AllReadyH.nil
            go_simp
            refine (HM.out _).mono ?_
            rintro e w' ⟨rfl, hg⟩
            have hb := hg.bel
            clear hg
            try go_wp2_with fail
            refine hK.out _ _ ?hs46 (fun hS1 => ?_)
            case hs46 => exact bel_next hS0 hb
            clear hK K
            try simp only [Act.put, List.setIfInBounds_toArray, List.set_cons_zero, List.set_cons_succ]
            refine takeInH 3 8 ?v47 rfl rfl (by kernel_rfl) (by kernel_rfl) (by kernel_rfl) (fun _ _ _ h => h) (by kernel_rfl) hS1 ?hy47 ?_
            case hy47 => (intro W hW; clear hW; go_simp; try rfl)
            simp only [Act.put, List.setIfInBounds_toArray, List.set_cons_zero, List.set_cons_succ]
            refine takeInH 4 9 ?v48 rfl rfl (by kernel_rfl) (by kernel_rfl) (by kernel_rfl) (fun _ _ _ h => h) (by kernel_rfl) hS1 ?hy48 ?_
            case hy48 => (intro W hW; clear hW; go_simp; try rfl)
            simp only [Act.put, List.setIfInBounds_toArray, List.set_cons_zero, List.set_cons_succ]
            refine takeInH 5 10 ?v49 rfl rfl (by kernel_rfl) (by kernel_rfl) (by kernel_rfl) (fun _ _ _ h => h) (by kernel_rfl) hS1 ?hy49 ?_
            case hy49 => (intro W hW; clear hW; go_simp; try rfl)
            simp only [Act.put, List.setIfInBounds_toArray, List.set_cons_zero, List.set_cons_succ]
            refine takeInH 6 11 ?v50 rfl rfl (by kernel_rfl) (by kernel_rfl) (by kernel_rfl) (fun _ _ _ h => h) (by kernel_rfl) hS1 ?hy50 ?_
            case hy50 => (intro W hW; have e0 := bcell hW c0; have e1 := bcell hW c1; have e2 := bcell hW c2; clear hW; go_simp; try rfl)
            simp only [Act.put, List.setIfInBounds_toArray, List.set_cons_zero, List.set_cons_succ]
            refine wpAnyH_ready (rs := [7]) (by kernel_rfl) (by simp) ?_
            refine AllReadyH.cons rfl (fun K hK => ?_) AllReadyH.nil
            go_simp
            refine (HP.out _ (NU.out.below hS1)).mono ?_
            rintro e w' ⟨rfl, hb⟩
            try go_wp2_with fail
            refine hK.out _ _ ?hs51 (fun hS2 => ?_)
            case hs51 => exact bel_next hS1 hb
            clear hK K
            try simp only [Act.put, List.setIfInBounds_toArray, List.set_cons_zero, List.set_cons_succ]
            refine takeInH 8 13 ?v52 rfl rfl (by kernel_rfl) (by kernel_rfl) (by kernel_rfl) (fun _ _ _ h => h) (by kernel_rfl) hS2 ?hy52 ?_
            case hy52 => (intro W hW; clear hW; go_simp; try rfl)
            simp only [Act.put, List.setIfInBounds_toArray, List.set_cons_zero, List.set_cons_succ]
            refine takeInH 9 14 ?v53 rfl rfl (by kernel_rfl) (by kernel_rfl) (by kernel_rfl) (fun _ _ _ h => h) (by kernel_rfl) hS2 ?hy53 ?_
            case hy53 => (intro W hW; clear hW; go_simp; try rfl)
            simp only [Act.put, List.setIfInBounds_toArray, List.set_cons_zero, List.set_cons_succ]
            refine takeInH 10 15 ?v54 rfl rfl (by kernel_rfl) (by kernel_rfl) (by kernel_rfl) (fun _ _ _ h => h) (by kernel_rfl) hS2 ?hy54 ?_
            case hy54 => (intro W hW; clear hW; go_simp; try rfl)
            simp only [Act.put, List.setIfInBounds_toArray, List.set_cons_zero, List.set_cons_succ]
            refine takeInH 11 16 ?v55 rfl rfl (by kernel_rfl) (by kernel_rfl) (by kernel_rfl) (fun _ _ _ h => h) (by kernel_rfl) hS2 ?hy55 ?_
            case hy55 => (intro W hW; clear hW; go_simp; try rfl)
            simp only [Act.put, List.setIfInBounds_toArray, List.set_cons_zero, List.set_cons_succ]
            refine takeInH 12 17 ?v56 rfl rfl (by kernel_rfl) (by kernel_rfl) (by kernel_rfl) (fun _ _ _ h => h) (by kernel_rfl) hS2 ?hy56 ?_
            case hy56 => (intro W hW; have e0 := bcell hW c0; have e1 := bcell hW c1; have e2 := bcell hW c2; clear hW; go_simp; try rfl)
            simp only [Act.put, List.setIfInBounds_toArray, List.set_cons_zero, List.set_cons_succ]
            refine takeInH 13 18 ?v57 rfl rfl (by kernel_rfl) (by kernel_rfl) (by kernel_rfl) (fun _ _ _ h => h) (by kernel_rfl) hS2 ?hy57 ?_
            case hy57 => (intro W hW; clear hW; go_simp; try rfl)
            simp only [Act.put, List.setIfInBounds_toArray, List.set_cons_zero, List.set_cons_succ]
            refine takeInH 14 19 ?v58 rfl rfl (by kernel_rfl) (by kernel_rfl) (by kernel_rfl) (fun _ _ _ h => h) (by kernel_rfl) hS2 ?hy58 ?_
            case hy58 => (intro W hW; clear hW; go_simp; try rfl)
            simp only [Act.put, List.setIfInBounds_toArray, List.set_cons_zero, List.set_cons_succ]
            refine takeInH 15 20 ?v59 rfl rfl (by kernel_rfl) (by kernel_rfl) (by kernel_rfl) (fun _ _ _ h => h) (by kernel_rfl) hS2 ?hy59 ?_
            case hy59 => (intro W hW; have e0 := bcell hW c0; have e1 := bcell hW c1; have e2 := bcell hW c2; clear hW; go_simp; try rfl)
            simp only [Act.put, List.setIfInBounds_toArray, List.set_cons_zero, List.set_cons_succ]
            refine takeInH 17 22 ?v60 rfl rfl (by kernel_rfl) (by kernel_rfl) (by kernel_rfl) (fun _ _ _ h => h) (by kernel_rfl) hS2 ?hy60 ?_
            case hy60 => (intro W hW; clear hW; go_simp; try rfl)
            simp only [Act.put, List.setIfInBounds_toArray, List.set_cons_zero, List.set_cons_succ]
            refine takeInH 18 23 ?v61 rfl rfl (by kernel_rfl) (by kernel_rfl) (by kernel_rfl) (fun _ _ _ h => h) (by kernel_rfl) hS2 ?hy61 ?_
            case hy61 => (intro W hW; clear hW; go_simp; try rfl)
            simp only [Act.put, List.setIfInBounds_toArray, List.set_cons_zero, List.set_cons_succ]
            refine takeInH 19 24 ?v62 rfl rfl (by kernel_rfl) (by kernel_rfl) (by kernel_rfl) (fun _ _ _ h => h) (by kernel_rfl) hS2 ?hy62 ?_
            case hy62 => (intro W hW; have e0 := bcell hW c0; have e1 := bcell hW c1; have e2 := bcell hW c2; clear hW; go_simp; try rfl)
            simp only [Act.put, List.setIfInBounds_toArray, List.set_cons_zero, List.set_cons_succ]
            refine takeInH 20 25 ?v63 rfl rfl (by kernel_rfl) (by kernel_rfl) (by kernel_rfl) (fun _ _ _ h => h) (by kernel_rfl) hS2 ?hy63 ?_
            case hy63 => (intro W hW; clear hW; go_simp; try rfl)
            simp only [Act.put, List.setIfInBounds_toArray, List.set_cons_zero, List.set_cons_succ]
            refine wpAnyH_ready (rs := [16]) (by kernel_rfl) (by simp) ?_
            refine AllReadyH.cons rfl (fun K hK => ?_) AllReadyH.nil
            go_simp
            refine (HG.out _ (NU.out.below hS2)).mono ?_
            rintro e w' ⟨rfl, hb⟩
            try go_wp2_with fail
            refine hK.out _ _ ?hs64 (fun hS3 => ?_)
            case hs64 => exact bel_next hS2 hb
            clear hK K
            try simp only [Act.put, List.setIfInBounds_toArray, List.set_cons_zero, List.set_cons_succ]
            refine takeInH 21 26 ?v65 rfl rfl (by kernel_rfl) (by kernel_rfl) (by kernel_rfl) (fun _ _ _ h => h) (by kernel_rfl) hS3 ?hy65 ?_
            case hy65 => (intro W hW; clear hW; go_simp; try rfl)
            simp only [Act.put, List.setIfInBounds_toArray, List.set_cons_zero, List.set_cons_succ]
            refine takeInH 22 27 ?v66 rfl rfl (by kernel_rfl) (by kernel_rfl) (by kernel_rfl) (fun _ _ _ h => h) (by kernel_rfl) hS3 ?hy66 ?_
            case hy66 => (intro W hW; clear hW; go_simp; try rfl)
            simp only [Act.put, List.setIfInBounds_toArray, List.set_cons_zero, List.set_cons_succ]
            refine wpAnyH_done (by kernel_rfl) ?_ _
            have c3 := bcell hS3 c3
            go_wp2
            go_ret
            exact ⟨ret_int (errE HX.out), bel_next HU.out hS3⟩
          · replace HA := hide (HA.out (by have := hln.out; omega))
            have HA2 : Hid ((l.drop 0).all mayF = mayE ((r, s), c, l)) := by unfold Hid; rw [HA.out]; rfl
            clear HA
            generalize mayE ((r, s), c, l) = b at HA2 ⊢
            go_enter Try.func16, Try.ntmps16
            go_wp2
            generalize hu : w.alloc (bxE r s pa na ca pe ne ce) = u at *
            clear hu
            refine wp_region_held_drew (S := fun W => Below u.heap.size u W) (by kernel_rfl) ((Below.refl _ u).drew) (fun hS0 => ?_)
            refine takeInH 0 5 ?v67 rfl rfl (by kernel_rfl) (by kernel_rfl) (by kernel_rfl) (fun _ _ _ h => h) (by kernel_rfl) hS0 ?hy67 ?_
            case hy67 => (intro W hW; clear hW; go_simp; try rfl)
            simp only [Act.put, List.setIfInBounds_toArray, List.set_cons_zero, List.set_cons_succ]
            refine takeInH 1 6 ?v68 rfl rfl (by kernel_rfl) (by kernel_rfl) (by kernel_rfl) (fun _ _ _ h => h) (by kernel_rfl) hS0 ?hy68 ?_
            case hy68 => (intro W hW; have e0 := bcell hW c0; have e1 := bcell hW c1; have e2 := bcell hW c2; clear hW; go_simp; try rfl)
            simp only [Act.put, List.setIfInBounds_toArray, List.set_cons_zero, List.set_cons_succ]
            refine wpAnyH_ready (rs := [2]) (by kernel_rfl) (by simp) ?_
            refine AllReadyH.cons rfl (fun K hK => ?_) AllReadyH.nil
            go_simp
            refine (HM.out _).mono ?_
            rintro e w' ⟨rfl, hg⟩
            have hb := hg.bel
            clear hg
            try go_wp2_with fail
            refine hK.out _ _ ?hs69 (fun hS1 => ?_)
            case hs69 => exact bel_next hS0 hb
            clear hK K
            try simp only [Act.put, List.setIfInBounds_toArray, List.set_cons_zero, List.set_cons_succ]
            refine takeInH 3 8 ?v70 rfl rfl (by kernel_rfl) (by kernel_rfl) (by kernel_rfl) (fun _ _ _ h => h) (by kernel_rfl) hS1 ?hy70 ?_
            case hy70 => (intro W hW; clear hW; go_simp; try rfl)
            simp only [Act.put, List.setIfInBounds_toArray, List.set_cons_zero, List.set_cons_succ]
            refine takeInH 4 9 ?v71 rfl rfl (by kernel_rfl) (by kernel_rfl) (by kernel_rfl) (fun _ _ _ h => h) (by kernel_rfl) hS1 ?hy71 ?_
            case hy71 => (intro W hW; clear hW; go_simp; try rfl)
            simp only [Act.put, List.setIfInBounds_toArray, List.set_cons_zero, List.set_cons_succ]
            refine takeInH 5 10 ?v72 rfl rfl (by kernel_rfl) (by kernel_rfl) (by kernel_rfl) (fun _ _ _ h => h) (by kernel_rfl) hS1 ?hy72 ?_
            case hy72 => (intro W hW; clear hW; go_simp; try rfl)
            simp only [Act.put, List.setIfInBounds_toArray, List.set_cons_zero, List.set_cons_succ]
            refine takeInH 6 11 ?v73 rfl rfl (by kernel_rfl) (by kernel_rfl) (by kernel_rfl) (fun _ _ _ h => h) (by kernel_rfl) hS1 ?hy73 ?_
            case hy73 => (intro W hW; have e0 := bcell hW c0; have e1 := bcell hW c1; have e2 := bcell hW c2; clear hW; go_simp; try rfl)
            simp only [Act.put, List.setIfInBounds_toArray, List.set_cons_zero, List.set_cons_succ]
            refine wpAnyH_ready (rs := [7]) (by kernel_rfl) (by simp) ?_
            refine AllReadyH.cons rfl (fun K hK => ?_) AllReadyH.nil
            go_simp
            refine (HP.out _ (NU.out.below hS1)).mono ?_
            rintro e w' ⟨rfl, hb⟩
            try go_wp2_with fail
            refine hK.out _ _ ?hs74 (fun hS2 => ?_)
            case hs74 => exact bel_next hS1 hb
            clear hK K
            try simp only [Act.put, List.setIfInBounds_toArray, List.set_cons_zero, List.set_cons_succ]
            refine takeInH 8 13 ?v75 rfl rfl (by kernel_rfl) (by kernel_rfl) (by kernel_rfl) (fun _ _ _ h => h) (by kernel_rfl) hS2 ?hy75 ?_
            case hy75 => (intro W hW; clear hW; go_simp; try rfl)
            simp only [Act.put, List.setIfInBounds_toArray, List.set_cons_zero, List.set_cons_succ]
            refine takeInH 9 14 ?v76 rfl rfl (by kernel_rfl) (by kernel_rfl) (by kernel_rfl) (fun _ _ _ h => h) (by kernel_rfl) hS2 ?hy76 ?_
            case hy76 => (intro W hW; clear hW; go_simp; try rfl)
            simp only [Act.put, List.setIfInBounds_toArray, List.set_cons_zero, List.set_cons_succ]
            refine takeInH 10 15 ?v77 rfl rfl (by kernel_rfl) (by kernel_rfl) (by kernel_rfl) (fun _ _ _ h => h) (by kernel_rfl) hS2 ?hy77 ?_
            case hy77 => (intro W hW; clear hW; go_simp; try rfl)
            simp only [Act.put, List.setIfInBounds_toArray, List.set_cons_zero, List.set_cons_succ]
            refine takeInH 11 16 ?v78 rfl rfl (by kernel_rfl) (by kernel_rfl) (by kernel_rfl) (fun _ _ _ h => h) (by kernel_rfl) hS2 ?hy78 ?_
            case hy78 => (intro W hW; clear hW; go_simp; try rfl)
            simp only [Act.put, List.setIfInBounds_toArray, List.set_cons_zero, List.set_cons_succ]
            refine takeInH 12 17 ?v79 rfl rfl (by kernel_rfl) (by kernel_rfl) (by kernel_rfl) (fun _ _ _ h => h) (by kernel_rfl) hS2 ?hy79 ?_
            case hy79 => (intro W hW; have e0 := bcell hW c0; have e1 := bcell hW c1; have e2 := bcell hW c2; clear hW; go_simp; try rfl)
            simp only [Act.put, List.setIfInBounds_toArray, List.set_cons_zero, List.set_cons_succ]
            refine takeInH 13 18 ?v80 rfl rfl (by kernel_rfl) (by kernel_rfl) (by kernel_rfl) (fun _ _ _ h => h) (by kernel_rfl) hS2 ?hy80 ?_
            case hy80 => (intro W hW; clear hW; go_simp; try rfl)
            simp only [Act.put, List.setIfInBounds_toArray, List.set_cons_zero, List.set_cons_succ]
            refine takeInH 14 19 ?v81 rfl rfl (by kernel_rfl) (by kernel_rfl) (by kernel_rfl) (fun _ _ _ h => h) (by kernel_rfl) hS2 ?hy81 ?_
            case hy81 => (intro W hW; clear hW; go_simp; try rfl)
            simp only [Act.put, List.setIfInBounds_toArray, List.set_cons_zero, List.set_cons_succ]
            refine takeInH 15 20 ?v82 rfl rfl (by kernel_rfl) (by kernel_rfl) (by kernel_rfl) (fun _ _ _ h => h) (by kernel_rfl) hS2 ?hy82 ?_
            case hy82 => (intro W hW; have e0 := bcell hW c0; have e1 := bcell hW c1; have e2 := bcell hW c2; clear hW; go_simp; try rfl)
            simp only [Act.put, List.setIfInBounds_toArray, List.set_cons_zero, List.set_cons_succ]
            refine takeInH 17 22 ?v83 rfl rfl (by kernel_rfl) (by kernel_rfl) (by kernel_rfl) (fun _ _ _ h => h) (by kernel_rfl) hS2 ?hy83 ?_
            case hy83 => (intro W hW; clear hW; go_simp; try rfl)
            simp only [Act.put, List.setIfInBounds_toArray, List.set_cons_zero, List.set_cons_succ]
            refine takeInH 18 23 ?v84 rfl rfl (by kernel_rfl) (by kernel_rfl) (by kernel_rfl) (fun _ _ _ h => h) (by kernel_rfl) hS2 ?hy84 ?_
            case hy84 => (intro W hW; clear hW; go_simp; try rfl)
            simp only [Act.put, List.setIfInBounds_toArray, List.set_cons_zero, List.set_cons_succ]
            refine takeInH 19 24 ?v85 rfl rfl (by kernel_rfl) (by kernel_rfl) (by kernel_rfl) (fun _ _ _ h => h) (by kernel_rfl) hS2 ?hy85 ?_
            case hy85 => (intro W hW; have e0 := bcell hW c0; have e1 := bcell hW c1; have e2 := bcell hW c2; clear hW; go_simp; try rfl)
            simp only [Act.put, List.setIfInBounds_toArray, List.set_cons_zero, List.set_cons_succ]
            refine takeInH 20 25 ?v86 rfl rfl (by kernel_rfl) (by kernel_rfl) (by kernel_rfl) (fun _ _ _ h => h) (by kernel_rfl) hS2 ?hy86 ?_
            case hy86 => (intro W hW; clear hW; go_simp; try rfl)
            simp only [Act.put, List.setIfInBounds_toArray, List.set_cons_zero, List.set_cons_succ]
            refine wpAnyH_ready (rs := [16]) (by kernel_rfl) (by simp) ?_
            refine AllReadyH.cons rfl (fun K hK => ?_) AllReadyH.nil
            go_simp
            refine (HG.out _ (NU.out.below hS2)).mono ?_
            rintro e w' ⟨rfl, hb⟩
            try go_wp2_with fail
            refine hK.out _ _ ?hs87 (fun hS3 => ?_)
            case hs87 => exact bel_next hS2 hb
            clear hK K
            try simp only [Act.put, List.setIfInBounds_toArray, List.set_cons_zero, List.set_cons_succ]
            refine takeInH 21 26 ?v88 rfl rfl (by kernel_rfl) (by kernel_rfl) (by kernel_rfl) (fun _ _ _ h => h) (by kernel_rfl) hS3 ?hy88 ?_
            case hy88 => (intro W hW; clear hW; go_simp; try rfl)
            simp only [Act.put, List.setIfInBounds_toArray, List.set_cons_zero, List.set_cons_succ]
            refine takeInH 22 27 ?v89 rfl rfl (by kernel_rfl) (by kernel_rfl) (by kernel_rfl) (fun _ _ _ h => h) (by kernel_rfl) hS3 ?hy89 ?_
            case hy89 => (intro W hW; clear hW; go_simp; try rfl)
            simp only [Act.put, List.setIfInBounds_toArray, List.set_cons_zero, List.set_cons_succ]
            refine wpAnyH_done (by kernel_rfl) ?_ _
            have c3 := bcell hS3 c3
            have HV := hide (bel_next HU.out hS3)
            have EV := hide (EU.out.below hS3)
            clear HU EU NU HM HP HG c0 c1 c2 hS3
            go_wp2
            go_loopw [41] (fun i wr => ∃ k : Nat, k ≤ ne ∧ i = .int .i64 k ∧ Hid (Below w'.heap.size w' wr) ∧ Hid ((l.drop k).all mayF = b)) (fun i _ => ne - (intOf i).toNat)
            case atStart => exact ⟨0, by omega, rfl, Below.refl _ _, HA2⟩
            case round =>
              obtain ⟨k, hk, rfl, hB, hA⟩ := hrel
              by_cases hlt : k < ne
              · have hxx : ∃ x, l[k]? = some x := ⟨_, List.getElem?_eq_getElem (by rw [hln.out]; exact hlt)⟩
                obtain ⟨x, hx⟩ := hxx
                rcases EV.out.1.2.2 with h0 | ⟨bb, off, rfl, _⟩
                · omega
                · obtain ⟨x0, x1, x2, x3, x4, x5⟩ := EV.out.at k x hx
                  replace x0 := bcell hB.out x0
                  replace x1 := bcell hB.out x1
                  replace x2 := bcell hB.out x2
                  replace x3 := bcell hB.out x3
                  replace x4 := bcell hB.out x4
                  replace x5 := bcell hB.out x5
                  have HD : Hid ((mayF x && (l.drop (k + 1)).all mayF) = b) := by unfold Hid; rw [← allF_drop hx]; exact hA.out
                  have HS := hide (mayF_S x)
                  clear hx hA
                  obtain ⟨xk, xo, xky, xn, xt, xw⟩ := x
                  have HCE := hide (fun W => CheckEffect_any xk xo xn xt (strOfNums xky) (strOfNums xw) (mayF (xk, xo, xky, xn, xt, xw)) HS.out.symm W)
                  clear HS
                  generalize strOfNums xky = sk at *
                  generalize strOfNums xw = sw at *
                  have HBX := hide (bel_next hB.out (bel1 wr (bxF xk xo xn xt sk sw)))
                  rcases hm : mayF (xk, xo, xky, xn, xt, xw) with _ | _
                  · rw [hm] at HCE HD
                    have HX : Hid (b = false) := by unfold Hid; rw [← HD.out]; rfl
                    clear hm HD
                    go_wp2_with (go_at_call 10; refine (HCE.out _).mono ?_; rintro e w' ⟨rfl, hg⟩; change Gr _ _ at hg)
                    go_ret
                    exact ⟨ret_int (errE HX.out), bel_next HV.out (bel_next HBX.out hg.bel)⟩
                  · rw [hm] at HCE HD
                    clear hm
                    go_wp2_with (go_at_call 10; refine (HCE.out _).mono ?_; rintro e w' ⟨rfl, hg⟩)
                    go_roundw
                    case rel => exact ⟨k + 1, by omega, by go_num, bel_next HBX.out hg.bel, HD⟩
                    case measure => simp [intOf]; omega
              · have hkl : k = ne := by omega
                subst hkl
                have HX : Hid (b = true) := by
                  have h2 := hA.out
                  rw [List.drop_of_length_le (by rw [hln.out]; exact Nat.le_refl _)] at h2
                  unfold Hid; rw [← h2]; rfl
                clear hA
                go_wp2
                go_ret
                exact ⟨ret_int (errE0 HX.out), bel_next HV.out hB.out⟩
      · have HX := hide (not_may3 (l := l) (by rw [hz]; exact hq))
        rw [hd] at HM
        rw [hp] at HP
        rw [hz] at HG
        have hq1 : (z == s - 1) = false := by simpa using hq
        have hq2 : (z != s - 1) = true := by simp [hq]
        have hwr : IntKind.i64.wrap (s - 1) = s - 1 := wrap_s d3 d4
        clear hd hp hz hq EU
        go_enter Try.func16, Try.ntmps16
        go_wp2
        generalize hu : w.alloc (bxE r s pa na ca pe ne ce) = u at *
        clear hu
        refine wp_region_held_drew (S := fun W => Below u.heap.size u W) (by kernel_rfl) ((Below.refl _ u).drew) (fun hS0 => ?_)
        refine takeInH 0 5 ?v90 rfl rfl (by kernel_rfl) (by kernel_rfl) (by kernel_rfl) (fun _ _ _ h => h) (by kernel_rfl) hS0 ?hy90 ?_
        case hy90 => (intro W hW; clear hW; go_simp; try rfl)
        simp only [Act.put, List.setIfInBounds_toArray, List.set_cons_zero, List.set_cons_succ]
        refine takeInH 1 6 ?v91 rfl rfl (by kernel_rfl) (by kernel_rfl) (by kernel_rfl) (fun _ _ _ h => h) (by kernel_rfl) hS0 ?hy91 ?_
        case hy91 => (intro W hW; have e0 := bcell hW c0; have e1 := bcell hW c1; have e2 := bcell hW c2; clear hW; go_simp; try rfl)
        simp only [Act.put, List.setIfInBounds_toArray, List.set_cons_zero, List.set_cons_succ]
        refine wpAnyH_ready (rs := [2]) (by kernel_rfl) (by simp) ?_
        refine AllReadyH.cons rfl (fun K hK => ?_) AllReadyH.nil
        go_simp
        refine (HM.out _).mono ?_
        rintro e w' ⟨rfl, hg⟩
        have hb := hg.bel
        clear hg
        try go_wp2_with fail
        refine hK.out _ _ ?hs92 (fun hS1 => ?_)
        case hs92 => exact bel_next hS0 hb
        clear hK K
        try simp only [Act.put, List.setIfInBounds_toArray, List.set_cons_zero, List.set_cons_succ]
        refine takeInH 3 8 ?v93 rfl rfl (by kernel_rfl) (by kernel_rfl) (by kernel_rfl) (fun _ _ _ h => h) (by kernel_rfl) hS1 ?hy93 ?_
        case hy93 => (intro W hW; clear hW; go_simp; try rfl)
        simp only [Act.put, List.setIfInBounds_toArray, List.set_cons_zero, List.set_cons_succ]
        refine takeInH 4 9 ?v94 rfl rfl (by kernel_rfl) (by kernel_rfl) (by kernel_rfl) (fun _ _ _ h => h) (by kernel_rfl) hS1 ?hy94 ?_
        case hy94 => (intro W hW; clear hW; go_simp; try rfl)
        simp only [Act.put, List.setIfInBounds_toArray, List.set_cons_zero, List.set_cons_succ]
        refine takeInH 5 10 ?v95 rfl rfl (by kernel_rfl) (by kernel_rfl) (by kernel_rfl) (fun _ _ _ h => h) (by kernel_rfl) hS1 ?hy95 ?_
        case hy95 => (intro W hW; clear hW; go_simp; try rfl)
        simp only [Act.put, List.setIfInBounds_toArray, List.set_cons_zero, List.set_cons_succ]
        refine takeInH 6 11 ?v96 rfl rfl (by kernel_rfl) (by kernel_rfl) (by kernel_rfl) (fun _ _ _ h => h) (by kernel_rfl) hS1 ?hy96 ?_
        case hy96 => (intro W hW; have e0 := bcell hW c0; have e1 := bcell hW c1; have e2 := bcell hW c2; clear hW; go_simp; try rfl)
        simp only [Act.put, List.setIfInBounds_toArray, List.set_cons_zero, List.set_cons_succ]
        refine wpAnyH_ready (rs := [7]) (by kernel_rfl) (by simp) ?_
        refine AllReadyH.cons rfl (fun K hK => ?_) AllReadyH.nil
        go_simp
        refine (HP.out _ (NU.out.below hS1)).mono ?_
        rintro e w' ⟨rfl, hb⟩
        try go_wp2_with fail
        refine hK.out _ _ ?hs97 (fun hS2 => ?_)
        case hs97 => exact bel_next hS1 hb
        clear hK K
        try simp only [Act.put, List.setIfInBounds_toArray, List.set_cons_zero, List.set_cons_succ]
        refine takeInH 8 13 ?v98 rfl rfl (by kernel_rfl) (by kernel_rfl) (by kernel_rfl) (fun _ _ _ h => h) (by kernel_rfl) hS2 ?hy98 ?_
        case hy98 => (intro W hW; clear hW; go_simp; try rfl)
        simp only [Act.put, List.setIfInBounds_toArray, List.set_cons_zero, List.set_cons_succ]
        refine takeInH 9 14 ?v99 rfl rfl (by kernel_rfl) (by kernel_rfl) (by kernel_rfl) (fun _ _ _ h => h) (by kernel_rfl) hS2 ?hy99 ?_
        case hy99 => (intro W hW; clear hW; go_simp; try rfl)
        simp only [Act.put, List.setIfInBounds_toArray, List.set_cons_zero, List.set_cons_succ]
        refine takeInH 10 15 ?v100 rfl rfl (by kernel_rfl) (by kernel_rfl) (by kernel_rfl) (fun _ _ _ h => h) (by kernel_rfl) hS2 ?hy100 ?_
        case hy100 => (intro W hW; clear hW; go_simp; try rfl)
        simp only [Act.put, List.setIfInBounds_toArray, List.set_cons_zero, List.set_cons_succ]
        refine takeInH 11 16 ?v101 rfl rfl (by kernel_rfl) (by kernel_rfl) (by kernel_rfl) (fun _ _ _ h => h) (by kernel_rfl) hS2 ?hy101 ?_
        case hy101 => (intro W hW; clear hW; go_simp; try rfl)
        simp only [Act.put, List.setIfInBounds_toArray, List.set_cons_zero, List.set_cons_succ]
        refine takeInH 12 17 ?v102 rfl rfl (by kernel_rfl) (by kernel_rfl) (by kernel_rfl) (fun _ _ _ h => h) (by kernel_rfl) hS2 ?hy102 ?_
        case hy102 => (intro W hW; have e0 := bcell hW c0; have e1 := bcell hW c1; have e2 := bcell hW c2; clear hW; go_simp; try rfl)
        simp only [Act.put, List.setIfInBounds_toArray, List.set_cons_zero, List.set_cons_succ]
        refine takeInH 13 18 ?v103 rfl rfl (by kernel_rfl) (by kernel_rfl) (by kernel_rfl) (fun _ _ _ h => h) (by kernel_rfl) hS2 ?hy103 ?_
        case hy103 => (intro W hW; clear hW; go_simp; try rfl)
        simp only [Act.put, List.setIfInBounds_toArray, List.set_cons_zero, List.set_cons_succ]
        refine takeInH 14 19 ?v104 rfl rfl (by kernel_rfl) (by kernel_rfl) (by kernel_rfl) (fun _ _ _ h => h) (by kernel_rfl) hS2 ?hy104 ?_
        case hy104 => (intro W hW; clear hW; go_simp; try rfl)
        simp only [Act.put, List.setIfInBounds_toArray, List.set_cons_zero, List.set_cons_succ]
        refine takeInH 15 20 ?v105 rfl rfl (by kernel_rfl) (by kernel_rfl) (by kernel_rfl) (fun _ _ _ h => h) (by kernel_rfl) hS2 ?hy105 ?_
        case hy105 => (intro W hW; have e0 := bcell hW c0; have e1 := bcell hW c1; have e2 := bcell hW c2; clear hW; go_simp; try rfl)
        simp only [Act.put, List.setIfInBounds_toArray, List.set_cons_zero, List.set_cons_succ]
        refine takeInH 17 22 ?v106 rfl rfl (by kernel_rfl) (by kernel_rfl) (by kernel_rfl) (fun _ _ _ h => h) (by kernel_rfl) hS2 ?hy106 ?_
        case hy106 => (intro W hW; clear hW; go_simp; try rfl)
        simp only [Act.put, List.setIfInBounds_toArray, List.set_cons_zero, List.set_cons_succ]
        refine takeInH 18 23 ?v107 rfl rfl (by kernel_rfl) (by kernel_rfl) (by kernel_rfl) (fun _ _ _ h => h) (by kernel_rfl) hS2 ?hy107 ?_
        case hy107 => (intro W hW; clear hW; go_simp; try rfl)
        simp only [Act.put, List.setIfInBounds_toArray, List.set_cons_zero, List.set_cons_succ]
        refine takeInH 19 24 ?v108 rfl rfl (by kernel_rfl) (by kernel_rfl) (by kernel_rfl) (fun _ _ _ h => h) (by kernel_rfl) hS2 ?hy108 ?_
        case hy108 => (intro W hW; have e0 := bcell hW c0; have e1 := bcell hW c1; have e2 := bcell hW c2; clear hW; go_simp; try rfl)
        simp only [Act.put, List.setIfInBounds_toArray, List.set_cons_zero, List.set_cons_succ]
        refine takeInH 20 25 ?v109 rfl rfl (by kernel_rfl) (by kernel_rfl) (by kernel_rfl) (fun _ _ _ h => h) (by kernel_rfl) hS2 ?hy109 ?_
        case hy109 => (intro W hW; clear hW; go_simp; try rfl)
        simp only [Act.put, List.setIfInBounds_toArray, List.set_cons_zero, List.set_cons_succ]
        refine wpAnyH_ready (rs := [16]) (by kernel_rfl) (by simp) ?_
        refine AllReadyH.cons rfl (fun K hK => ?_) AllReadyH.nil
        go_simp
        refine (HG.out _ (NU.out.below hS2)).mono ?_
        rintro e w' ⟨rfl, hb⟩
        try go_wp2_with fail
        refine hK.out _ _ ?hs110 (fun hS3 => ?_)
        case hs110 => exact bel_next hS2 hb
        clear hK K
        try simp only [Act.put, List.setIfInBounds_toArray, List.set_cons_zero, List.set_cons_succ]
        refine takeInH 21 26 ?v111 rfl rfl (by kernel_rfl) (by kernel_rfl) (by kernel_rfl) (fun _ _ _ h => h) (by kernel_rfl) hS3 ?hy111 ?_
        case hy111 => (intro W hW; clear hW; go_simp; try rfl)
        simp only [Act.put, List.setIfInBounds_toArray, List.set_cons_zero, List.set_cons_succ]
        refine takeInH 22 27 ?v112 rfl rfl (by kernel_rfl) (by kernel_rfl) (by kernel_rfl) (fun _ _ _ h => h) (by kernel_rfl) hS3 ?hy112 ?_
        case hy112 => (intro W hW; clear hW; go_simp; try rfl)
        simp only [Act.put, List.setIfInBounds_toArray, List.set_cons_zero, List.set_cons_succ]
        refine wpAnyH_done (by kernel_rfl) ?_ _
        go_wp2
        go_ret
        exact ⟨ret_int (errE HX.out), bel_next HU.out hS3⟩
end Go.Proofs.Ytooggheoaglbeaa

