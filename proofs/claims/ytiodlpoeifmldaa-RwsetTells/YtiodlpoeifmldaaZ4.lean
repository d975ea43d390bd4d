/- The document's Get of an entry with Live and Dead. -/
import Derived.Test.YtiodlpoeifmldaaZ3
namespace Go.Proofs.Ytiodlpoeifmldaa
open Go.RowKit Go.Lib
set_option linter.unusedVariables false
/-- What a key's entry is told as. -/
def OutP (w : World) (v : Value) (t : ByteArray) (q : Pr) : Prop := ∃ (p : Option Addr) (n c : Nat) (pd : Option Addr) (nd cd : Nat), v = .agg #[.string t, .slice p n c, .slice pd nd cd] ∧ DS w p n q.1 ∧ CP p n c ∧ DS w pd nd q.2 ∧ CP pd nd cd
theorem getP_yes {s : List En} {k : Nat} {x : En} {t : ByteArray} (hb : ∀ y ∈ s.take k, y.1 ≠ t) (hx : s[k]? = some x) (he : x.1 = t) : getP s t = x.2 := by
  have e : s = s.take k ++ x :: s.drop (k + 1) := by
    have hk := (List.getElem?_eq_some_iff.1 hx).1
    conv => lhs; rw [← List.take_append_drop k s]
    rw [List.drop_eq_getElem_cons hk, (List.getElem?_eq_some_iff.1 hx).2]
  have q : ∀ (u v : List En), (∀ y ∈ u, y.1 ≠ t) → getP (u ++ v) t = getP v t := by
    intro u v
    induction u with
    | nil => intro _; rfl
    | cons a r ih =>
      intro h
      rw [List.cons_append, getP, if_neg (h a List.mem_cons_self)]
      exact ih (fun y hy => h y (List.mem_cons_of_mem _ hy))
  rw [e, q _ _ hb, getP, if_pos he]
set_option maxHeartbeats 2000000 in
theorem GetP_ref (a : Option Addr) (n cap : Nat) (s : List En) (t : ByteArray) (w : World) (hA : NSS w a n s) : Calls Try.prog 24 #[.slice a n cap, .string t] w fun e w' => ∃ v, e = .returned v ∧ OutP w' v t (getP s t) ∧ Below w.heap.size w w' := by
  have HV := hide hA
  have HLEN := hide hA.len
  have hmx := hA.max
  unfold maxLen at hmx
  clear hA
  have HX0 := hide (BX.new w _ rfl #[.string ⟨#[]⟩, .slice none 0 0, .slice none 0 0] 48)
  have HB0 := hide (bel1 w (.cells #[.string ⟨#[]⟩, .slice none 0 0, .slice none 0 0] 48))
  go_enter Try.func24, Try.ntmps24
  go_wp2
  go_loopw [5] (fun i wr => ∃ k : Nat, k ≤ n ∧ i = .int .i64 k ∧ Hid (∀ y ∈ s.take k, y.1 ≠ t) ∧ Hid (BX wr w.heap.size #[.string ⟨#[]⟩, .slice none 0 0, .slice none 0 0] 48) ∧ Hid (Below w.heap.size w wr)) (fun i _ => n - (intOf i).toNat)
  case atStart => exact ⟨0, by omega, rfl, (fun y hy => by simp at hy), HX0, HB0⟩
  case round =>
    clear HX0 HB0
    obtain ⟨k0, hk, rfl, HF, HX, HB⟩ := hrel
    by_cases hlt : k0 < n
    · obtain ⟨b, off, rfl⟩ := HV.out.addr (by omega)
      obtain ⟨k, pl, nl, cl, pd, nd, cd, ll, mm, hx, c0, c1, c2, h1, h2, h3, h4⟩ := (HV.out.below HB.out).at k0 hlt
      have hk0 : (0 : Int) ≤ (k0 : Int) := by omega
      have hk1 : (k0 : Int) < (n : Int) := by omega
      have hq := eqK k t
      by_cases he : k = t
      · rw [decide_eq_true he] at hq
        have HG := hide (getP_yes HF.out hx he)
        have HE := hide he
        have q0 := HX.out.cell 0 _ rfl
        have q1 := HX.out.cell 1 _ rfl
        have q2 := HX.out.cell 2 _ rfl
        have f0 := HX.out.free 0
        have f1 := HX.out.free 1
        have f2 := HX.out.free 2
        have HL := hide h1
        have HC := hide h2
        have HCD := hide h4
        obtain ⟨hp1, _, hp2, _⟩ := HX.out.put3 (.string k) (.slice pl nl cl) (.slice pd nd cd)
        have HP1 := hide hp1
        have HP2 := hide (hp2 _ _ HB.out (Nat.le_refl _))
        have HFAR := hide (HV.out.below HB.out)
        have HL2 : Hid (DS (((wr.setCell ⟨w.heap.size, 0, none⟩ (.string k)).setCell ⟨w.heap.size, 1, none⟩ (.slice pl nl cl)).setCell ⟨w.heap.size, 2, none⟩ (.slice pd nd cd)) pl nl ll ∧ DS (((wr.setCell ⟨w.heap.size, 0, none⟩ (.string k)).setCell ⟨w.heap.size, 1, none⟩ (.slice pl nl cl)).setCell ⟨w.heap.size, 2, none⟩ (.slice pd nd cd)) pd nd mm) := by
          obtain ⟨k', pl', nl', cl', pd', nd', cd', ll', mm', hx', e0, e1, e2, g1, _, g3, _⟩ := HV.out.at k0 hlt
          have e1' := bcell HB.out e1
          have e2' := bcell HB.out e2
          rw [c1] at e1'
          rw [c2] at e2'
          cases e1'
          cases e2'
          rw [hx] at hx'
          cases hx'
          exact ⟨g1.below HP2.out, g3.below HP2.out⟩
        clear hx he h1 h2 h3 h4 hp1 hp2 HFAR
        go_wp2
        refine bodyPost_ret (results_cell_row rfl _ _ _ _ _ _ _ rfl HP1.out Try.underlying48 rfl (by kernel_rfl)) rfl ?_
        exact ⟨_, rfl, ⟨pl, nl, cl, _, _, _, by rw [HE.out], by rw [HG.out]; exact HL2.out.1, HC.out, by rw [HG.out]; exact HL2.out.2, HCD.out⟩, HP2.out⟩
      · rw [decide_eq_false he] at hq
        have HF2 : Hid (∀ y ∈ s.take (k0 + 1), y.1 ≠ t) := by
          intro y hy
          rw [take_snocL hx] at hy
          rcases List.mem_append.1 hy with q | q
          · exact HF.out y q
          · simp at q; subst q; exact he
        clear hx he h1 h2 h3 h4
        go_wp2
        go_roundw
        case rel => exact ⟨k0 + 1, by omega, by go_num, HF2, HX, HB⟩
        case measure => simp [intOf]; omega
    · obtain rfl : k0 = n := by omega
      have HG : Hid (getP s t = ([], [])) := getP_not (by have := HF.out; rwa [← HLEN.out, List.take_length] at this)
      have q0 := HX.out.cell 0 _ rfl
      have q1 := HX.out.cell 1 _ rfl
      have q2 := HX.out.cell 2 _ rfl
      have f0 := HX.out.free 0
      have f1 := HX.out.free 1
      have f2 := HX.out.free 2
      obtain ⟨hp1, _, hp2, _⟩ := HX.out.put3 (.string t) (.slice none 0 0) (.slice none 0 0)
      have HP1 := hide hp1
      have HP2 := hide (hp2 _ _ HB.out (Nat.le_refl _))
      clear HF hp1 hp2
      go_wp2
      refine bodyPost_ret (results_cell_row rfl _ _ _ _ _ _ _ rfl HP1.out Try.underlying48 rfl (by kernel_rfl)) rfl ?_
      exact ⟨_, rfl, ⟨none, 0, 0, none, 0, 0, rfl, by rw [HG.out]; exact DS.nil _ _, ⟨Nat.le_refl _, by decide, fun _ => rfl⟩, by rw [HG.out]; exact DS.nil _ _, Nat.le_refl _, by decide, fun _ => rfl⟩, HP2.out⟩
end Go.Proofs.Ytiodlpoeifmldaa
