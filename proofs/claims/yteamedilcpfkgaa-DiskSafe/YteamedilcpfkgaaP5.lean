/- The program's disk: its power goes, and comes. -/
import Derived.Test.YteamedilcpfkgaaP4
import Derived.Test.YteamedilcpfkgaaK3
import Derived.Deep.CutBlock
import Derived.Deep.CutRange
import Derived.Deep.RegionWith
namespace Go.Proofs.Yteamedilcpfkgaa
open Go.RowKit
set_option linter.unusedVariables false
set_option maxHeartbeats 4000000 in
theorem pcrash2 (g n cap s : Nat) (p : Option Addr) (z : Int) (k : Nat) (w : World) (h2 : w.cell? ⟨g, 2, none⟩ = some (.slice p n cap)) (h3 : w.cell? ⟨g, 3, none⟩ = some (.int .i64 s)) (f2 : w.frozen? ⟨g, 2, none⟩ = false) (f3 : w.frozen? ⟨g, 3, none⟩ = false) (hs : s ≤ n) (hn : n ≤ 1048576) (hC : CP p n cap) (hk : (k : Int) = if z > 0 then (if z < (n : Int) - s then s + z else n) else s) :
   Calls Try.prog 22 #[.pointer (some ⟨g, 2, none⟩), .int .i64 z] w fun e w' => e = .returned (.tuple #[]) ∧ w' = ((w.setCell ⟨g, 3, none⟩ (.int .i64 k)).drew.setCell ⟨g, 2, none⟩ (.slice p k cap)).drew := by
  have hkn : k ≤ n := by
    have := hk
    split at this
    · split at this <;> omega
    · omega
  have hcap := hC.1
  have hcm := hC.2.1
  unfold maxLen at hcm
  have HC := hide hC
  clear hC
  have hK1 : (0 : Int) ≤ (k : Int) := by omega
  have hK2 : (k : Int) ≤ (cap : Int) := by omega
  by_cases hz : z > 0
  · rw [if_pos hz] at hk
    by_cases hzl : z < (n : Int) - s
    · rw [if_pos hzl] at hk
      have hk' : (s : Int) + z = k := hk.symm
      clear hk
      go_enter Try.func22, Try.ntmps22
      go_wp2
      go_region
      go_wp2
      go_region
      go_wp2
      refine bodyPost_end (v := .tuple #[]) (by simp [results, Try.results22, go_sem]) rfl ?_
      exact ⟨rfl, rfl⟩
    · rw [if_neg hzl] at hk
      have hk' : (k : Int) = n := hk
      have hk2 : k = n := by omega
      subst hk2
      have hif : (if (k : Int) - (s : Int) < z then (k : Int) - (s : Int) else z) = (k : Int) - (s : Int) := by split <;> omega
      have hk3 : (s : Int) + ((k : Int) - (s : Int)) = (k : Int) := by omega
      clear hk
      go_enter Try.func22, Try.ntmps22
      go_wp2
      go_region
      go_wp2
      go_region
      go_wp2
      refine bodyPost_end (v := .tuple #[]) (by simp [results, Try.results22, go_sem]) rfl ?_
      exact ⟨rfl, rfl⟩
  · rw [if_neg hz] at hk
    have hk2 : k = s := by omega
    subst hk2
    have hif : (if z < 0 then 0 else z) = 0 := by split <;> omega
    clear hk
    go_enter Try.func22, Try.ntmps22
    go_wp2
    go_region
    go_wp2
    go_region
    go_wp2
    refine bodyPost_end (v := .tuple #[]) (by simp [results, Try.results22, go_sem]) rfl ?_
    exact ⟨rfl, rfl⟩
set_option maxHeartbeats 4000000 in
theorem pcrash4 (g n cap s : Nat) (p : Option Addr) (z : Int) (k : Nat) (w : World) (h2 : w.cell? ⟨g, 4, none⟩ = some (.slice p n cap)) (h3 : w.cell? ⟨g, 5, none⟩ = some (.int .i64 s)) (f2 : w.frozen? ⟨g, 4, none⟩ = false) (f3 : w.frozen? ⟨g, 5, none⟩ = false) (hs : s ≤ n) (hn : n ≤ 1048576) (hC : CP p n cap) (hk : (k : Int) = if z > 0 then (if z < (n : Int) - s then s + z else n) else s) :
   Calls Try.prog 22 #[.pointer (some ⟨g, 4, none⟩), .int .i64 z] w fun e w' => e = .returned (.tuple #[]) ∧ w' = ((w.setCell ⟨g, 5, none⟩ (.int .i64 k)).drew.setCell ⟨g, 4, none⟩ (.slice p k cap)).drew := by
  have hkn : k ≤ n := by
    have := hk
    split at this
    · split at this <;> omega
    · omega
  have hcap := hC.1
  have hcm := hC.2.1
  unfold maxLen at hcm
  have HC := hide hC
  clear hC
  have hK1 : (0 : Int) ≤ (k : Int) := by omega
  have hK2 : (k : Int) ≤ (cap : Int) := by omega
  by_cases hz : z > 0
  · rw [if_pos hz] at hk
    by_cases hzl : z < (n : Int) - s
    · rw [if_pos hzl] at hk
      have hk' : (s : Int) + z = k := hk.symm
      clear hk
      go_enter Try.func22, Try.ntmps22
      go_wp2
      go_region
      go_wp2
      go_region
      go_wp2
      refine bodyPost_end (v := .tuple #[]) (by simp [results, Try.results22, go_sem]) rfl ?_
      exact ⟨rfl, rfl⟩
    · rw [if_neg hzl] at hk
      have hk' : (k : Int) = n := hk
      have hk2 : k = n := by omega
      subst hk2
      have hif : (if (k : Int) - (s : Int) < z then (k : Int) - (s : Int) else z) = (k : Int) - (s : Int) := by split <;> omega
      have hk3 : (s : Int) + ((k : Int) - (s : Int)) = (k : Int) := by omega
      clear hk
      go_enter Try.func22, Try.ntmps22
      go_wp2
      go_region
      go_wp2
      go_region
      go_wp2
      refine bodyPost_end (v := .tuple #[]) (by simp [results, Try.results22, go_sem]) rfl ?_
      exact ⟨rfl, rfl⟩
  · rw [if_neg hz] at hk
    have hk2 : k = s := by omega
    subst hk2
    have hif : (if z < 0 then 0 else z) = 0 := by split <;> omega
    clear hk
    go_enter Try.func22, Try.ntmps22
    go_wp2
    go_region
    go_wp2
    go_region
    go_wp2
    refine bodyPost_end (v := .tuple #[]) (by simp [results, Try.results22, go_sem]) rfl ?_
    exact ⟨rfl, rfl⟩
theorem stay_some (x : Sl) (h : x.ok) (z : Int) : ((x.stay (some z) : Nat) : Int) = if z > 0 then (if z < (x.l.length : Int) - x.s then x.s + z else x.l.length) else x.s := by
  unfold Sl.stay
  simp only []
  split
  · split
    · omega
    · rfl
  · rfl
theorem stay_none (x : Sl) : ((x.stay none : Nat) : Int) = if (0 : Int) > 0 then (if (0 : Int) < (x.l.length : Int) - x.s then x.s + 0 else x.l.length) else x.s := by simp [Sl.stay]
theorem PD.cut0 {N g : Nat} {w : World} {va vb : Value} {d : Dk} (h : PD N g w va vb d) {q : Option Addr} {cq : Nat} (hv : va = .slice q d.a.l.length cq) (K : Nat) (hK : K ≤ d.a.l.length) (hok : ({ d with a := ⟨d.a.l.take K, K⟩ } : Dk).ok) :
    PD N g ((w.setCell ⟨g, 3, none⟩ (.int .i64 (K : Int))).drew.setCell ⟨g, 2, none⟩ (.slice q K cq)).drew (.slice q K cq) vb { d with a := ⟨d.a.l.take K, K⟩ } ∧ Stp g va vb (.slice q K cq) vb w ((w.setCell ⟨g, 3, none⟩ (.int .i64 (K : Int))).drew.setCell ⟨g, 2, none⟩ (.slice q K cq)).drew ∧ Below N w ((w.setCell ⟨g, 3, none⟩ (.int .i64 (K : Int))).drew.setCell ⟨g, 2, none⟩ (.slice q K cq)).drew := by
  subst hv
  have oc := h.2.1.cut K hK
  have hne : (Value.slice q K cq).ownBlock ≠ some g := oc.ne h.1
  refine ⟨⟨((h.1.set 3 _).drew.set 2 _).drew, ((oc.setc hne _ _).drew.setc hne _ _).drew, ((h.2.2.1.setc (h.2.2.1.ne h.1) _ _).drew.setc (h.2.2.1.ne h.1) _ _).drew, ?_, h.2.2.2.2.1, hok⟩, ?_, ?_⟩
  · intro b hb
    exact h.2.2.2.1 b (by cases q <;> exact hb)
  · have s1 : Stp g (.slice q d.a.l.length cq) vb (.slice q d.a.l.length cq) vb w (w.setCell ⟨g, 3, none⟩ (.int .i64 (K : Int))).drew := Stp.set g _ _ _ _ w 3 (.int .i64 (K : Int)) (fun _ h => .inl h)
    have s2 : Stp g (.slice q d.a.l.length cq) vb (.slice q K cq) vb (w.setCell ⟨g, 3, none⟩ (.int .i64 (K : Int))).drew ((w.setCell ⟨g, 3, none⟩ (.int .i64 (K : Int))).drew.setCell ⟨g, 2, none⟩ (.slice q K cq)).drew := by
      refine Stp.set g _ _ _ _ (w.setCell ⟨g, 3, none⟩ (.int .i64 (K : Int))).drew 2 _ ?_
      rintro b (e | e | e)
      · exact .inl (.inl e)
      · exact .inl (.inr (.inl (by cases q <;> exact e)))
      · exact .inl (.inr (.inr (by cases q <;> exact e)))
    exact s1.trans s2
  · exact (((Below.refl N w).setCell h.2.2.2.2.1 _).drew.setCell h.2.2.2.2.1 _).drew
theorem PD.cut1 {N g : Nat} {w : World} {va vb : Value} {d : Dk} (h : PD N g w va vb d) {q : Option Addr} {cq : Nat} (hv : vb = .slice q d.b.l.length cq) (K : Nat) (hK : K ≤ d.b.l.length) (hok : ({ d with b := ⟨d.b.l.take K, K⟩ } : Dk).ok) :
    PD N g ((w.setCell ⟨g, 5, none⟩ (.int .i64 (K : Int))).drew.setCell ⟨g, 4, none⟩ (.slice q K cq)).drew va (.slice q K cq) { d with b := ⟨d.b.l.take K, K⟩ } ∧ Stp g va vb va (.slice q K cq) w ((w.setCell ⟨g, 5, none⟩ (.int .i64 (K : Int))).drew.setCell ⟨g, 4, none⟩ (.slice q K cq)).drew ∧ Below N w ((w.setCell ⟨g, 5, none⟩ (.int .i64 (K : Int))).drew.setCell ⟨g, 4, none⟩ (.slice q K cq)).drew := by
  subst hv
  have oc := h.2.2.1.cut K hK
  have hne : (Value.slice q K cq).ownBlock ≠ some g := oc.ne h.1
  refine ⟨⟨((h.1.set 5 _).drew.set 4 _).drew, ((h.2.1.setc (h.2.1.ne h.1) _ _).drew.setc (h.2.1.ne h.1) _ _).drew, ((oc.setc hne _ _).drew.setc hne _ _).drew, ?_, h.2.2.2.2.1, hok⟩, ?_, ?_⟩
  · intro b hb hc
    exact h.2.2.2.1 b hb (by cases q <;> exact hc)
  · have s1 : Stp g va (.slice q d.b.l.length cq) va (.slice q d.b.l.length cq) w (w.setCell ⟨g, 5, none⟩ (.int .i64 (K : Int))).drew := Stp.set g _ _ _ _ w 5 (.int .i64 (K : Int)) (fun _ h => .inl h)
    have s2 : Stp g va (.slice q d.b.l.length cq) va (.slice q K cq) (w.setCell ⟨g, 5, none⟩ (.int .i64 (K : Int))).drew ((w.setCell ⟨g, 5, none⟩ (.int .i64 (K : Int))).drew.setCell ⟨g, 4, none⟩ (.slice q K cq)).drew := by
      refine Stp.set g _ _ _ _ (w.setCell ⟨g, 5, none⟩ (.int .i64 (K : Int))).drew 4 _ ?_
      rintro b (e | e | e)
      · exact .inl (.inl e)
      · exact .inl (.inr (.inl (by cases q <;> exact e)))
      · exact .inl (.inr (.inr (by cases q <;> exact e)))
    exact s1.trans s2
  · exact (((Below.refl N w).setCell h.2.2.2.2.1 _).drew.setCell h.2.2.2.2.1 _).drew
/-- Numbers that came in. -/
def NSN (N : Nat) (w : World) (p : Option Addr) (n : Nat) (l : List Int) : Prop := l.length = n ∧ n ≤ maxLen ∧ (n = 0 ∨ ∃ b off, p = some ⟨b, off, none⟩ ∧ b < N ∧ ∀ i z, l[i]? = some z → w.cell? ⟨b, off + i, none⟩ = some (.int .i64 z))
theorem NSN.keep {N : Nat} {w w' : World} {p : Option Addr} {n : Nat} {l : List Int} (h : NSN N w p n l) (hb : Below N w w') : NSN N w' p n l := by
  obtain ⟨h1, h2, h3 | ⟨b, off, rfl, h3, h4⟩⟩ := h
  · exact ⟨h1, h2, .inl h3⟩
  · refine ⟨h1, h2, .inr ⟨b, off, rfl, h3, fun i z hz => ?_⟩⟩
    have := h4 i z hz
    rw [← this]
    exact World.cell?_of_block (hb.block b h3)
theorem NSN.at {N : Nat} {w : World} {p : Option Addr} {n : Nat} {l : List Int} (h : NSN N w p n l) (k : Nat) (hk : k < n) : ∃ b off z, p = some ⟨b, off, none⟩ ∧ l[k]? = some z ∧ w.cell? ⟨b, off + k, none⟩ = some (.int .i64 z) := by
  obtain ⟨h1, h2, h3 | ⟨b, off, rfl, h3, h4⟩⟩ := h
  · omega
  · exact ⟨b, off, l[k]'(by omega), rfl, List.getElem?_eq_getElem _, h4 k _ (List.getElem?_eq_getElem _)⟩
def CrP (N g : Nat) (va vb : Value) (w : World) (d : Dk) (ks : List Int) (k : Nat) (wr : World) : Prop := ∃ va' vb', PD N g wr va' vb' (crK d ks k) ∧ Stp g va vb va' vb' w wr ∧ Below N w wr
set_option maxHeartbeats 4000000 in
theorem Crash_any {N g : Nat} {va vb : Value} {d : Dk} (pk : Option Addr) (nk ck : Nat) (ks : List Int) (w : World) (h : PD N g w va vb d) (hN : NSN N w pk nk ks) :
    Calls Try.prog 10 #[.pointer (some ⟨g, 0, none⟩), .slice pk nk ck] w fun e w' => ∃ va' vb', e = .returned (.tuple #[]) ∧ PD N g w' va' vb' (d.crash ks) ∧ Stp g va vb va' vb' w w' ∧ Below N w w' := by
  have HN := hide hN
  have hmx := hN.2.1
  unfold maxLen at hmx
  have HO := hide (crK_ok h.ok ks)
  have HM := hide (isMade_any g _ w h.1 rfl)
  have HTW := hide (crK_two d ks)
  have HC0 : Hid (CrP N g va vb w d ks 0 w) := ⟨va, vb, h, Stp.refl _ _ _ _, Below.refl _ _⟩
  clear h hN
  go_enter Try.func10, Try.ntmps10
  go_wp2_with fail
  refine HM.out.mono ?_
  rintro e w' ⟨rfl, rfl⟩
  go_wp2
  go_loopw [9] (fun i wr => ∃ k : Nat, k ≤ 2 ∧ i = .int .i64 k ∧ Hid (CrP N g va vb w' d ks k wr)) (fun i _ => 2 - (intOf i).toNat)
  case atStart => exact ⟨0, by omega, rfl, HC0.out⟩
  case round =>
    clear HM HC0
    obtain ⟨k, hk, rfl, HC⟩ := hrel
    rcases (by omega : k = 0 ∨ k = 1 ∨ k = 2) with rfl | rfl | rfl
    · obtain ⟨va', vb', hp, hs, hb⟩ := HC.out
      have hok := HO.out 1
      have hxo : (crK d ks 0).ok := hp.ok
      have hxa := hxo.1
      have hlen := hxo.lens
      have hsl := hxa.2
      have HM := hide (isMade_any g _ wr hp.1 rfl)
      obtain ⟨pa, ca, pb, cb, rfl, rfl, e1, e2, e3, e4⟩ := hp.vals
      have hst := Sl.stay_le hxa ks[0]?
      have hcr : crK d ks 1 = { (crK d ks 0) with a := ⟨(crK d ks 0).a.l.take ((crK d ks 0).a.stay ks[0]?), (crK d ks 0).a.stay ks[0]?⟩ } := by
        simp [crK, Dk.set, Dk.get, Sl.crash]
      have hk : ∀ z : Int, (ks[0]? = some z ∨ (ks[0]? = none ∧ z = 0)) → (((crK d ks 0).a.stay ks[0]? : Nat) : Int) = if z > 0 then (if z < ((crK d ks 0).a.l.length : Int) - (crK d ks 0).a.s then (crK d ks 0).a.s + z else (crK d ks 0).a.l.length) else (crK d ks 0).a.s := by
        rintro z (hz | ⟨hz, rfl⟩)
        · rw [hz]; exact stay_some _ hxa z
        · rw [hz]; exact stay_none _
      generalize (crK d ks 0).a.stay ks[0]? = K at *
      rw [hcr] at hok
      obtain ⟨q1, q2, q3⟩ := hp.cut0 rfl K hst.2 hok
      have HQ : Hid (CrP N g va vb w' d ks 1 ((wr.setCell ⟨g, 3, none⟩ (.int .i64 (K : Int))).drew.setCell ⟨g, 2, none⟩ (.slice pa K ca)).drew) := by
        refine ⟨_, _, ?_, hs.trans q2, hb.trans q3⟩
        rw [hcr]
        exact q1
      clear q1 q2 q3 hcr hok HO
      have c0 := hp.1.cell 2 _ rfl
      have c1 := hp.1.cell 3 _ rfl
      have f0 := hp.1.free 2
      have f1 := hp.1.free 3
      have HK := hide hk
      have HNr := hide (HN.out.keep hb)
      clear hk hp hs hb e1 e3
      by_cases hkn : 0 < nk
      · obtain ⟨bk, ok, z, rfl, HZ, hz⟩ := HNr.out.at 0 hkn
        rw [Nat.add_zero] at hz
        have hk1 : ((0 : Nat) : Int) < (nk : Int) := by omega
        have hk1' : (0 : Int) < (nk : Int) := by omega
        go_wp2_with fail
        refine (pcrash2 g _ ca _ pa z K _ c0 c1 f0 f1 hsl (by omega) e2 (HK.out z (.inl HZ))).mono ?_
        rintro e w2 ⟨rfl, rfl⟩
        go_wp2
        go_roundw
        case rel => exact ⟨1, by omega, by go_num, HQ.out⟩
        case measure => simp [intOf]
      · have hk1 : ¬ ((0 : Nat) : Int) < (nk : Int) := by omega
        have hk1' : ¬ (0 : Int) < (nk : Int) := by omega
        have HZ : Hid (ks[0]? = none) := by unfold Hid; rw [List.getElem?_eq_none]; rw [HNr.out.1]; omega
        go_wp2_with fail
        refine (pcrash2 g _ ca _ pa 0 K _ c0 c1 f0 f1 hsl (by omega) e2 (HK.out 0 (.inr ⟨HZ.out, rfl⟩))).mono ?_
        rintro e w2 ⟨rfl, rfl⟩
        go_wp2
        go_roundw
        case rel => exact ⟨1, by omega, by go_num, HQ.out⟩
        case measure => simp [intOf]
    · obtain ⟨va', vb', hp, hs, hb⟩ := HC.out
      have hok := HO.out 2
      have hxo : (crK d ks 1).ok := hp.ok
      have hxa := hxo.2.1
      have hlen := hxo.lens
      have hsl := hxa.2
      have HM := hide (isMade_any g _ wr hp.1 rfl)
      obtain ⟨pa, ca, pb, cb, rfl, rfl, e1, e2, e3, e4⟩ := hp.vals
      have hst := Sl.stay_le hxa ks[1]?
      have hcr : crK d ks 2 = { (crK d ks 1) with b := ⟨(crK d ks 1).b.l.take ((crK d ks 1).b.stay ks[1]?), (crK d ks 1).b.stay ks[1]?⟩ } := by
        simp [crK, Dk.set, Dk.get, Sl.crash]
      have hk : ∀ z : Int, (ks[1]? = some z ∨ (ks[1]? = none ∧ z = 0)) → (((crK d ks 1).b.stay ks[1]? : Nat) : Int) = if z > 0 then (if z < ((crK d ks 1).b.l.length : Int) - (crK d ks 1).b.s then (crK d ks 1).b.s + z else (crK d ks 1).b.l.length) else (crK d ks 1).b.s := by
        rintro z (hz | ⟨hz, rfl⟩)
        · rw [hz]; exact stay_some _ hxa z
        · rw [hz]; exact stay_none _
      generalize (crK d ks 1).b.stay ks[1]? = K at *
      rw [hcr] at hok
      obtain ⟨q1, q2, q3⟩ := hp.cut1 rfl K hst.2 hok
      have HQ : Hid (CrP N g va vb w' d ks 2 ((wr.setCell ⟨g, 5, none⟩ (.int .i64 (K : Int))).drew.setCell ⟨g, 4, none⟩ (.slice pb K cb)).drew) := by
        refine ⟨_, _, ?_, hs.trans q2, hb.trans q3⟩
        rw [hcr]
        exact q1
      clear q1 q2 q3 hcr hok HO
      have c0 := hp.1.cell 4 _ rfl
      have c1 := hp.1.cell 5 _ rfl
      have f0 := hp.1.free 4
      have f1 := hp.1.free 5
      have HK := hide hk
      have HNr := hide (HN.out.keep hb)
      clear hk hp hs hb e1 e3
      by_cases hkn : 1 < nk
      · obtain ⟨bk, ok, z, rfl, HZ, hz⟩ := HNr.out.at 1 hkn
        have hk1 : ((1 : Nat) : Int) < (nk : Int) := by omega
        have hk1' : (1 : Int) < (nk : Int) := by omega
        go_wp2_with fail
        refine (pcrash4 g _ cb _ pb z K _ c0 c1 f0 f1 hsl (by omega) e4 (HK.out z (.inl HZ))).mono ?_
        rintro e w2 ⟨rfl, rfl⟩
        go_wp2
        go_roundw
        case rel => exact ⟨2, by omega, by go_num, HQ.out⟩
        case measure => simp [intOf]
      · have hk1 : ¬ ((1 : Nat) : Int) < (nk : Int) := by omega
        have hk1' : ¬ (1 : Int) < (nk : Int) := by omega
        have HZ : Hid (ks[1]? = none) := by unfold Hid; rw [List.getElem?_eq_none]; rw [HNr.out.1]; omega
        go_wp2_with fail
        refine (pcrash4 g _ cb _ pb 0 K _ c0 c1 f0 f1 hsl (by omega) e4 (HK.out 0 (.inr ⟨HZ.out, rfl⟩))).mono ?_
        rintro e w2 ⟨rfl, rfl⟩
        go_wp2
        go_roundw
        case rel => exact ⟨2, by omega, by go_num, HQ.out⟩
        case measure => simp [intOf]
    · obtain ⟨va', vb', hp, hs, hb⟩ := HC.out
      have c6 := hp.1.cell 6 _ rfl
      have f6 := hp.1.free 6
      have hk := hp.ok
      have HP : Hid (PD N g (wr.setCell ⟨g, 6, none⟩ (.int .i64 (-1))) va' vb' (d.crash ks)) := by
        rw [← HTW.out]
        exact ⟨hp.1.set 6 _, hp.2.1.setc (hp.2.1.ne hp.1) _ _, hp.2.2.1.setc (hp.2.2.1.ne hp.1) _ _, hp.2.2.2.1, hp.2.2.2.2.1, hk.1, hk.2.1, hk.2.2.1, hk.2.2.2.1, by simp, by simp⟩
      have HT := hide (hs.trans (Stp.set g va' vb' va' vb' wr 6 (.int .i64 (-1)) (fun _ h => .inl h)))
      have HB := hide (hb.setCell (p := ⟨g, 6, none⟩) hp.2.2.2.2.1 (.int .i64 (-1)))
      clear hp hs hb hk HTW HO HC
      go_wp2
      refine bodyPost_end (v := .tuple #[]) (by simp [results, Try.results10, go_sem]) rfl ?_
      exact ⟨_, _, rfl, HP.out, HT.out, HB.out⟩
end Go.Proofs.Yteamedilcpfkgaa
