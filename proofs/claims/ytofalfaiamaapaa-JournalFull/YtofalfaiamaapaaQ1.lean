/- The program's reading of a slot: records, head and whole (layer 7). -/
import Derived.Test.YtofalfaiamaapaaQ0
import Derived.Test.YtofalfaiamaapaaJ4a
import Derived.Test.YtofalfaiamaapaaJ7
namespace Go.Proofs.Ytofalfaiamaapaa
open Go.RowKit
set_option linter.unusedVariables false
/-- Records that the call made, and their bodies. -/
def RO (N : Nat) (w : World) (V : Value) (xs : List Rw) : Prop := OwnW N w V xs ∧ ∀ x ∈ xs, Own N w x.v x.b ∧ By x.b
theorem RO.nil (N : Nat) (w : World) : RO N w (.slice none 0 0) [] := ⟨OwnR.nil _ _, fun x hx => by simp at hx⟩
theorem RO.mono {N N' : Nat} {w : World} {V : Value} {xs : List Rw} (h : RO N w V xs) (hN : N' ≤ N) : RO N' w V xs := ⟨h.1.mono hN, fun x hx => ⟨(h.2 x hx).1.mono hN, (h.2 x hx).2⟩⟩
theorem RO.below {N : Nat} {w w' : World} {V : Value} {xs : List Rw} (h : RO N w V xs) (hb : Below w.heap.size w w') : RO N w' V xs := ⟨h.1.below hb, fun x hx => ⟨(h.2 x hx).1.below hb, (h.2 x hx).2⟩⟩
theorem RO.app {N : Nat} {w w' : World} {V V' : Value} {xs ys : List Rw} (h : RO N w V xs) (hy : ∀ x ∈ ys, Own N w x.v x.b ∧ By x.b) (ho : OwnW N w' V' (xs ++ ys)) (hg : w.grownBy w' V.ownBlock) : RO N w' V' (xs ++ ys) := by
  refine ⟨ho, fun y hyy => ?_⟩
  have hyo : Own N w y.v y.b ∧ By y.b := (List.mem_append.1 hyy).elim (h.2 y) (hy y)
  refine ⟨Own.rows.2 ((Own.rows.1 hyo.1).grown hg ?_), hyo.2⟩
  intro b hb e
  exact own_apart h.1 (Own.rows.1 hyo.1) (by decide) b hb e
theorem RO.rc {N : Nat} {w : World} {V : Value} {xs : List Rw} (h : RO N w V xs) : ∃ p c, V = .slice p xs.length c ∧ RC w p xs.length (xs.map Rw.rc) ∧ CP p xs.length c :=
  OwnW.rc h.1 fun x hx => (h.2 x hx).1.sl (h.2 x hx).2
theorem tk_here {l : List Int} (hb : By l) (h : (getRecord l).2.2.2 = 0 ∧ 10 ≤ (getRecord l).1) : tk l = (⟨(getRecord l).1, (getRecord l).2.1⟩ :: (tk (l.drop (getRecord l).2.2.1)).1, (getRecord l).2.2.1 + (tk (l.drop (getRecord l).2.2.1)).2) := by
  have := drop_lt hb h.1
  unfold tk
  rw [takeR_go h, takeR_fuel l.length _ _ (hb.drop _) (by omega) (Nat.lt_succ_self _)]
set_option maxHeartbeats 4000000 in
theorem records_any (a : Option Addr) (n c : Nat) (l : List Int) (w : World) (hA : BS w a n l) (hC : CP a n c) (hn : n ≤ 900000) : Calls Try.prog 50 #[.slice a n c] w fun e w' => ∃ V xs, e = .returned (.tuple #[V, .int .i64 ((tk l).2 : Int)]) ∧ RO w.heap.size w' V xs ∧ xs.map Rw.rc = (tk l).1 ∧ Below w.heap.size w w' := by
  have HA := hide hA
  have HC := hide hC
  have hl := hide hA.1
  have hcap := hC.1
  have hcm := hC.2.1
  unfold maxLen at hcm
  have hsl : ∀ i : Nat, (if c = i then a else Option.map (fun x => x.add i) a) = slA a c i := fun _ => rfl
  clear hA hC
  go_enter Try.func50, Try.ntmps50
  go_wp2
  go_loopw [2, 3] (fun V at_ wr => ∃ (p : Nat) (xs : List Rw), at_ = .int .i64 p ∧ p ≤ n ∧ xs.length ≤ p ∧ Hid (tk l = (xs.map Rw.rc ++ (tk (l.drop p)).1, p + (tk (l.drop p)).2)) ∧ Hid (RO w.heap.size wr V xs) ∧ Hid (Below w.heap.size w wr)) (fun _ at_ _ => n - (intOf at_).toNat)
  case atStart => exact ⟨0, [], rfl, by omega, by simp, (show _ = _ by simp), RO.nil _ _, Below.refl _ _⟩
  case round =>
    obtain ⟨p, xs, rfl, hp, hxl, HTK, HR, HB⟩ := hrel
    have hpI : (p : Int) ≤ (n : Int) := by omega
    have hpc : (p : Int) ≤ (c : Int) := by omega
    have hbs := hide ((HA.out.below HB.out).rest (c := c) p hp (by omega))
    have hcp := hide (HC.out.cut p n (Nat.le_refl _) hp)
    obtain ⟨pV, cV, hV, _, _⟩ := HR.out.1.open encW_len
    subst hV
    generalize hnx : xs.length = nx at *
    have HNX := hide hnx
    clear hnx
    go_wp2_with fail
    refine (getRec_any _ _ _ (l.drop p) _ hbs.out hcp.out).mono ?_
    rintro e w1 ⟨v, rfl, ho, hb⟩
    have hby : By (l.drop p) := (show By l from HA.out.2.2.1).drop p
    have hok := fun h => getRecord_ok hby h
    have hst0 := fun h => tk_here hby h
    have hst1 : ¬ ((getRecord (l.drop p)).2.2.2 = 0 ∧ 10 ≤ (getRecord (l.drop p)).1) → tk (l.drop p) = ([], 0) := fun h => takeR_no h
    have hdl : (l.drop p).length = n - p := by rw [List.length_drop, hl.out]
    simp only [List.drop_drop] at hst0
    rw [hdl] at hok
    generalize getRecord (l.drop p) = gr at *
    obtain ⟨rk, rb, rm, re⟩ := gr
    simp only [] at ho hok hst0 hst1 ⊢
    have RB := hide (HR.out.below hb)
    have BB := hide (bel_next HB.out hb)
    have OB := hide (ho.mono HB.out.size)
    clear hbs hcp hby hdl hb ho HR HB
    by_cases hg : re = 0 ∧ 10 ≤ rk
    · obtain ⟨hre, hk⟩ := hg
      subst hre
      obtain ⟨o1, o2, o3, o4, o5, o6⟩ := hok rfl
      have HST := hide (hst0 ⟨rfl, hk⟩)
      obtain ⟨pv, cv, rfl, _, _⟩ := OB.out.open o6
      have HBY := hide o6
      have hk' : ¬ rk < 10 := by omega
      clear hok hst0 hst1 o3 o4 o5 o6
      go_wp2_with (at_builtin; refine Stop.at ?_)
      unfold Stop
      have RB2 := hide (RB.out.below (bel1 w1 (.cells #[.int .i64 rk, .slice pv rb.length cv] 71)))
      have BB2 := hide (bel_next BB.out (bel1 w1 (.cells #[.int .i64 rk, .slice pv rb.length cv] 71)))
      refine append_rows rfl _ _ 30 rfl Try.underlying30 Try.infoRec rfl (by decide) (by decide) encW_len oneW' w.heap.size _ xs [(⟨rk, pv, cv, rb⟩ : Rw)] rfl RB2.out.1 (some ⟨w1.heap.size, 0, none⟩) 1 1 rfl (fun h => by cases h) (RSW.one w1 ⟨rk, pv, cv, rb⟩) (by have := HNX.out; simp; omega) BB2.out.size ?_
      intro V2 w2 ho2 hg2 hbel2
      have RC2 := hide (RB2.out.app (ys := [⟨rk, pv, cv, rb⟩]) (fun x hx => by rw [List.mem_singleton.1 hx]; exact ⟨OB.out.below (bel1 _ _), HBY.out⟩) ho2 hg2)
      have BC := hide (hbel2 _ BB2.out)
      clear ho2 hg2 hbel2 RB RB2 OB BB BB2
      go_wp2
      go_roundw
      case rel => exact ⟨p + rm, xs ++ [(⟨rk, pv, cv, rb⟩ : Rw)], by go_num, by omega, by have := HNX.out; simp; omega, (show _ = _ by rw [HTK.out, HST.out]; simp [Rw.rc, Nat.add_assoc]), RC2.out, BC.out⟩
      case measure => simp [intOf]; omega
    · have HRES : Hid (tk l = (xs.map Rw.rc, p)) := by
        unfold Hid
        rw [HTK.out, hst1 hg]
        simp
      clear hok hst0 hst1 HTK OB
      by_cases hre : re = 0
      · have hk : rk < 10 := by omega
        subst hre
        clear hg
        go_wp2
        refine bodyPost_ret (results_tmp2 rfl _ _ _) rfl ?_
        exact ⟨.slice pV nx cV, xs, by rw [HRES.out]; rfl, RB.out, by rw [HRES.out], BB.out⟩
      · have hre' : (re != 0) = true := by simpa using hre
        clear hg hre
        go_wp2
        refine bodyPost_ret (results_tmp2 rfl _ _ _) rfl ?_
        exact ⟨.slice pV nx cV, xs, by rw [HRES.out]; rfl, RB.out, by rw [HRES.out], BB.out⟩
end Go.Proofs.Ytofalfaiamaapaa
