/- What 'Read' does. -/
import Derived.Test.YtbeknlpoialgiaaRPut
namespace Go.Proofs.Ytbeknlpoialgiaa
open Go.RowKit
set_option linter.unusedVariables false

theorem getNum_no (a : Option Addr) (n c : Nat) (l : List Int) (w : World) (hg : getNum l = none) (hA : BS w a n l) (hC : CP a n c) :
    Calls Try.prog 51 #[.slice a n c] w fun e w' => e = .returned (.tuple #[.int .u64 0, .int .i64 0, .int .i64 2]) ∧ w' = w := by
  refine (getNum_any a n c l w hA hC).mono ?_
  rintro e w1 ⟨(⟨_, rfl⟩ | ⟨x, m, h, rfl⟩), hb⟩
  · exact ⟨rfl, hb⟩
  · rw [hg] at h; cases h
theorem getNum_yes (a : Option Addr) (n c : Nat) (l : List Int) (w : World) (x : Int) (m : Nat) (hg : getNum l = some (x, m)) (hA : BS w a n l) (hC : CP a n c) :
    Calls Try.prog 51 #[.slice a n c] w fun e w' => e = .returned (.tuple #[.int .u64 x, .int .i64 (m : Int), .int .i64 0]) ∧ w' = w := by
  refine (getNum_any a n c l w hA hC).mono ?_
  rintro e w1 ⟨(⟨h, rfl⟩ | ⟨y, k, h, rfl⟩), hb⟩
  · rw [hg] at h; cases h
  · rw [hg] at h; cases h; exact ⟨rfl, hb⟩

set_option maxHeartbeats 1000000 in
theorem readNum_bad (a : Option Addr) (n c : Nat) (l : List Int) (w : World) (hr : rdNum l = none) (hA : BS w a n l) (hC : CP a n c) :
    Calls Try.prog 44 #[.slice a n c] w fun e w' => e = .returned (.tuple #[.int .i64 0, .int .i64 2]) ∧ w' = w := by
  have hn := hA.1
  have hmx := hA.2.1
  unfold maxLen at hmx
  have hby := hA.2.2.1
  rcases hg : getNum l with _ | ⟨x, m⟩
  · have HG := hide (getNum_no a n c l w hg hA hC)
    clear hA hC hr hn hmx hby hg
    go_enter Try.func44, Try.ntmps44
    go_wp2_with (go_at_call 51; refine HG.out.mono ?_; rintro e w' ⟨rfl, rfl⟩)
    go_ret2
    exact ⟨rfl, rfl⟩
  · have HG := hide (getNum_yes a n c l w x m hg hA hC)
    obtain ⟨g0, g1, g2, g3, g4, _, _⟩ := getNum_some hby hg
    by_cases hm : m = n
    · have hx : x > 1048576 := by
        unfold rdNum at hr
        rw [hg] at hr
        simp only [] at hr
        split at hr
        · cases hr
        · rename_i hh
          have : ¬ (x ≤ 1048576) := fun t => hh ⟨by omega, t⟩
          omega
      have hm1 : ((m : Int) == (n : Int)) = true := by simp; omega
      have hm2 : (m : Int) = (n : Int) := by omega
      clear hA hC hr hn hby hg hm
      go_enter Try.func44, Try.ntmps44
      go_wp2_with (go_at_call 51; refine HG.out.mono ?_; rintro e w' ⟨rfl, rfl⟩)
      go_ret2
      exact ⟨rfl, rfl⟩
    · have hm1 : ((m : Int) == (n : Int)) = false := by simp; omega
      have hm2 : ¬ (m : Int) = (n : Int) := by omega
      clear hA hC hr hn hby hg hm
      go_enter Try.func44, Try.ntmps44
      go_wp2_with (go_at_call 51; refine HG.out.mono ?_; rintro e w' ⟨rfl, rfl⟩)
      go_ret2
      exact ⟨rfl, rfl⟩
set_option maxHeartbeats 1000000 in
theorem readNum_ok (a : Option Addr) (n c : Nat) (l : List Int) (w : World) (x : Int) (hr : rdNum l = some x) (hA : BS w a n l) (hC : CP a n c) :
    Calls Try.prog 44 #[.slice a n c] w fun e w' => e = .returned (.tuple #[.int .i64 x, .int .i64 0]) ∧ w' = w := by
  have hn := hA.1
  have hmx := hA.2.1
  unfold maxLen at hmx
  have hby := hA.2.2.1
  rcases hg : getNum l with _ | ⟨y, m⟩
  · unfold rdNum at hr; rw [hg] at hr; cases hr
  · obtain ⟨g0, g1, g2, g3, g4, _, _⟩ := getNum_some hby hg
    have hh : m = l.length ∧ y ≤ 1048576 ∧ y = x := by
      unfold rdNum at hr
      rw [hg] at hr
      simp only [] at hr
      split at hr
      · rename_i h; cases hr; exact ⟨h.1, h.2, rfl⟩
      · cases hr
    obtain ⟨h1, h2, rfl⟩ := hh
    have hmn : m = n := by omega
    subst hmn
    have HG := hide (getNum_yes a m c l w y m hg hA hC)
    clear hA hC hr hn hby hg h1
    go_enter Try.func44, Try.ntmps44
    go_wp2_with (go_at_call 51; refine HG.out.mono ?_; rintro e w' ⟨rfl, rfl⟩)
    go_ret2
    exact ⟨rfl, rfl⟩

theorem rdC_none {b : List Int} (h : unpack b 5 = none) : rdC b = none := by unfold rdC; rw [h]
theorem rdC_bad {b : List Int} {ts : List (List Int)} {m : Nat} (h : unpack b 5 = some (ts, m)) (h2 : rdAll ts = none) : rdC b = none := by unfold rdC; rw [h]; simp only [h2]
theorem rdC_nought {b : List Int} {ts : List (List Int)} {m : Nat} {c : List Int} (h : unpack b 5 = some (ts, m)) (h2 : rdAll ts = some c) (h3 : ¬ pln c = c) : rdC b = none := by unfold rdC; rw [h]; simp only [h2]; rw [if_neg h3]
theorem rdC_ok {b : List Int} {ts : List (List Int)} {m : Nat} {c : List Int} (h : unpack b 5 = some (ts, m)) (h2 : rdAll ts = some c) (h3 : pln c = c) : rdC b = some (c, m) := by unfold rdC; rw [h]; simp only [h2]; rw [if_pos h3]

theorem unpackC_no (a : Option Addr) (n c : Nat) (l : List Int) (w : World) (hu : unpack l 5 = none) (hA : BS w a n l) (hC : CP a n c) :
    Calls Try.prog 43 #[.slice a n c, .int .i64 5] w fun e w' => e = .returned (.tuple #[.slice none 0 0, .int .i64 0, .int .i64 2]) ∧ Below w.heap.size w w' := by
  refine (unpack_any a n c l 5 w hA hC (by omega) (by omega)).mono ?_
  rintro e w1 ⟨(⟨_, rfl⟩ | ⟨qs, m, v, h, _⟩), hb⟩
  · exact ⟨rfl, hb⟩
  · rw [hu] at h; cases h
theorem unpackC_yes (a : Option Addr) (n c : Nat) (l : List Int) (w : World) (ts : List (List Int)) (m : Nat) (hu : unpack l 5 = some (ts, m)) (hA : BS w a n l) (hC : CP a n c) :
    Calls Try.prog 43 #[.slice a n c, .int .i64 5] w fun e w' => ∃ p cp, e = .returned (.tuple #[.slice p ts.length cp, .int .i64 (m : Int), .int .i64 0]) ∧ PC w' p ts.length ts ∧ Below w.heap.size w w' := by
  refine (unpack_any a n c l 5 w hA hC (by omega) (by omega)).mono ?_
  rintro e w1 ⟨(⟨h, _⟩ | ⟨qs, k, v, h, rfl, hO⟩), hb⟩
  · rw [hu] at h; cases h
  · rw [hu] at h
    simp only [Option.some.injEq, Prod.mk.injEq] at h
    obtain ⟨rfl, rfl⟩ := h
    obtain ⟨p, cp, rfl, hpc, _⟩ := hO.open
    exact ⟨p, cp, by simp, by simpa using hpc, hb⟩

set_option maxHeartbeats 4000000 in
theorem Read_any (a : Option Addr) (n cap : Nat) (l : List Int) (w : World) (hA : BS w a n l) (hC : CP a n cap) :
    Calls Try.prog 31 #[.slice a n cap] w fun e w' => ((rdC l = none ∧ e = .returned (.tuple #[.slice none 0 0, .int .i64 0, .int .i64 2])) ∨ ∃ (c : List Int) (m : Nat) (v : Value), rdC l = some (c, m) ∧ e = .returned (.tuple #[v, .int .i64 (m : Int), .int .i64 0]) ∧ OwnN w.heap.size w' v c) ∧ Below w.heap.size w w' := by
  rcases hu : unpack l 5 with _ | ⟨ts, m⟩
  · have HU := hide (unpackC_no a n cap l w hu hA hC)
    have HE := hide (rdC_none hu)
    clear hA hC hu
    go_enter Try.func31, Try.ntmps31
    go_wp2_with (go_at_call 43; refine HU.out.mono ?_; rintro e w1 ⟨rfl, hb⟩; have HB := hide hb; clear hb)
    go_ret3
    exact ⟨.inl ⟨HE.out, rfl⟩, HB.out⟩
  · have HU := hide (unpackC_yes a n cap l w ts m hu hA hC)
    have h5 := unpack_le hA.2.2.1 hu
    have HUn := hide hu
    clear hA hC hu
    obtain ⟨t, ht⟩ : ∃ t, t = ts.length := ⟨_, rfl⟩
    rw [← ht] at HU h5
    have Ht := hide ht
    clear ht
    have h5' : t ≤ 5 := by omega
    go_enter Try.func31, Try.ntmps31
    go_wp2_with (go_at_call 43; refine HU.out.mono ?_; rintro e w1 ⟨p, cp, rfl, hpc, hb⟩; have HB := hide hb; have HPC := hide hpc; clear hb hpc; refine Stop.at ?_)
    unfold Stop
    clear HU
    go_wp2
    go_loopw [8, 23] (fun v i wr => ∃ (k : Nat) (acc : List Int), k ≤ t ∧ i = .int .i64 k ∧ Hid (acc.length = k) ∧ Hid (OwnN w1.heap.size wr v acc) ∧ Hid (rdAll ts = (rdAll (ts.drop k)).map (acc ++ ·)) ∧ Hid (Below w1.heap.size w1 wr)) (fun _ i _ => t - (intOf i).toNat)
    case atStart => exact ⟨0, [], by omega, rfl, rfl, OwnN.nil _ _, by unfold Hid; simp, Below.refl _ _⟩
    case round =>
      obtain ⟨k, acc, hk, rfl, hal, hO, hR, hB⟩ := hrel
      obtain ⟨pv, cv, hv, hns, _⟩ := hO.out.open
      subst hv
      have HNS := hide hns
      clear hns
      by_cases hlt : k < t
      · rcases HPC.out.2.2 with h0 | ⟨b, off, rfl, hc⟩
        · omega
        · obtain ⟨x, len, cpx, hcell, hbs, hcp⟩ := hc k hlt
          have hck := ((Ext.refl w1).below hB.out) _ _ hcell
          have HBS := hide (hbs.below hB.out)
          have HCP := hide hcp
          clear hc hcell hbs hcp
          have hsz := hB.out.size
          rcases hq : rdNum (ts.getD k []) with _ | y
          · have HE := hide (rdC_bad HUn.out (rdAll_bad (by rw [← Ht.out]; exact hlt) hR.out hq))
            have HRN := hide (readNum_bad x len cpx _ _ hq HBS.out HCP.out)
            clear hR hq HBS HCP
            go_wp2_with (go_at_call 44; refine HRN.out.mono ?_; rintro e w' ⟨rfl, rfl⟩)
            go_ret3
            exact ⟨.inl ⟨HE.out, rfl⟩, bel_next HB.out hB.out⟩
          · have HR2 := hide (rdAll_step (by rw [← Ht.out]; exact hlt) hR.out hq)
            have HRN := hide (readNum_ok x len cpx _ _ y hq HBS.out HCP.out)
            clear hR hq HBS HCP
            go_wp2_with (first
              | (go_at_call 44; refine HRN.out.mono ?_; rintro e w' ⟨rfl, rfl⟩)
              | (at_builtin; refine Stop.at ?_))
            unfold Stop
            refine append_one rfl _ _ rfl w1.heap.size (.slice pv acc.length cv) acc y _ rfl rfl hO.out rfl (by have := hal.out; omega) hsz ?_
            intro v' w' g1 g2
            have G1 := hide g1
            have G2 := hide (g2 _ hB.out)
            clear g1 g2 hO hB
            go_wp2
            go_roundw
            case rel => exact ⟨k + 1, acc ++ [y], by omega, by go_num, by unfold Hid; simp [hal.out], G1, HR2, G2⟩
            case measure => simp [intOf]; omega
      · have hkl : k = t := by omega
        subst hkl
        have hall : rdAll ts = some acc := by
          have h := hR.out
          rw [List.drop_of_length_le (by rw [Ht.out]; exact Nat.le_refl _)] at h
          simpa [rdAll] using h
        have HALL := hide hall
        have HBT := hide (bel_next HB.out hB.out)
        have hsz : w.heap.size ≤ w1.heap.size := HB.out.size
        clear hR hall
        by_cases hz : 0 < acc.length ∧ acc.getD (acc.length - 1) 0 = 0
        · have HE := hide (rdC_nought HUn.out HALL.out (fun h => (pln_iff acc).1 h hz))
          obtain ⟨z1, z2⟩ := hz
          rcases HNS.out.2.2 with h0 | ⟨b, off, rfl, hc⟩
          · omega
          · have hck := hc (acc.length - 1) (by omega)
            rw [z2] at hck
            have hI : (acc.length : Int) > 0 := by omega
            have hI2 : (acc.length : Int) ≤ 5 := by have := hal.out; omega
            obtain ⟨q, hq⟩ : ∃ q, acc.length = q + 1 := ⟨acc.length - 1, by omega⟩
            rw [hq] at hck hI hI2 ⊢
            have hq1 : (((q + 1 : Nat) : Int) - 1) = q := by omega
            simp only [Nat.add_sub_cancel] at hck
            have hal2 := hal.out
            clear hc z2 z1 hO
            go_wp2
            go_ret3
            exact ⟨.inl ⟨HE.out, rfl⟩, HBT.out⟩
        · have HE := hide (rdC_ok HUn.out HALL.out ((pln_iff acc).2 hz))
          by_cases z1 : 0 < acc.length
          · have z2 : ¬ acc.getD (acc.length - 1) 0 = 0 := fun h => hz ⟨z1, h⟩
            rcases HNS.out.2.2 with h0 | ⟨b, off, rfl, hc⟩
            · omega
            · have hck := hc (acc.length - 1) (by omega)
              generalize hgd : acc.getD (acc.length - 1) 0 = z at *
              have hI : (acc.length : Int) > 0 := by omega
              have hI2 : (acc.length : Int) ≤ 5 := by have := hal.out; omega
              have HO := hide (hO.out.mono hsz)
              obtain ⟨q, hq⟩ : ∃ q, acc.length = q + 1 := ⟨acc.length - 1, by omega⟩
              rw [hq] at hck hI hI2 HO ⊢
              have hq1 : (((q + 1 : Nat) : Int) - 1) = q := by omega
              simp only [Nat.add_sub_cancel] at hck
              have z3 : (z == 0) = false := by simpa using z2
              clear hc z1 hO hgd hz
              go_wp2
              go_ret3
              exact ⟨.inr ⟨acc, m, _, HE.out, rfl, HO.out⟩, HBT.out⟩
          · have z0 : acc.length = 0 := by omega
            have HO := hide (hO.out.mono hsz)
            rw [z0] at HO ⊢
            clear hz hO z1
            go_wp2
            go_ret3
            exact ⟨.inr ⟨acc, m, _, HE.out, rfl, HO.out⟩, HBT.out⟩
end Go.Proofs.Ytbeknlpoialgiaa
