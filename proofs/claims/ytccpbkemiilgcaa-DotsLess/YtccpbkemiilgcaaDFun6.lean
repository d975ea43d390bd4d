/- 'append' onto dots of the call's own; what 'slices.Clone', 'slices.Compact' and 'Order' do. -/
import Derived.Test.YtccpbkemiilgcaaDOrd
import Derived.Test.YtccpbkemiilgcaaDFun2
namespace Go.Proofs.Ytccpbkemiilgcaa
open Go.RowKit Go.Lib Go.Sort
set_option linter.unusedVariables false

/-- 'append(v, x...)', 'v' dots of the call's own. -/
theorem append_wp {w : World} {o : Oper} {a : Act} {K : Act → World → Prop} {Q : Exit → Act → World → Prop} (s x : Operand)
    (ho : o.op = .call { callee := .builtin .append, args := #[s, x], argTypes := #[24, 24] })
    (N : Nat) (v : Value) (l m : List Dot) (hs : a.eval s = v) (hown : OwnD N w v l) (p : Option Addr) (len cap : Nat) (hx : a.eval x = .slice p len cap) (hp : p = none → cap = 0) (hB : DS w p len m)
    (hbig : l.length + m.length ≤ 1000000) (hN : N ≤ w.heap.size)
    (h : ∀ v' w', OwnD N w' v' (l ++ m) → (∀ w0, Below N w0 w → Below N w0 w') → K (a.put o.dst v') w') : Oper.wp Try.prog o a w K Q := by
  obtain ⟨i0, hi, hz0, hz1, hz2⟩ := info_parts Try.infoDot
  obtain ⟨g1, g2, g4⟩ := hB
  rcases p with _ | ad
  · have hc := hp rfl
    have hl0 : len = 0 := by
      rcases g4 with h0 | ⟨b, off, hh, _⟩
      · exact h0
      · cases hh
    subst hc hl0
    obtain rfl : m = [] := List.eq_nil_of_length_eq_zero g1
    have hrun := run_append_owned_none (P := Try.prog) (w := w) N 24 o.type 28 i0 2 Try.underlying24 hi v _ _ hown
    have hk := h v w (by rw [List.append_nil]; exact hown) (fun _ h => h)
    unfold Oper.wp execOp
    simp only [ho, resolve, invoke, builtin, Sem.run_bind, Sem.run_pure, Result.andThen_ok, List.map_toArray, List.map_cons, List.map_nil, hs, hx, hrun]
    exact hk
  · obtain ⟨v', w', hr, h2, h3, _⟩ := run_append_own (P := Try.prog) w N 24 o.type 28 i0 (.agg #[.int .i64 0, .int .i64 0]) 2 16 Try.underlying24 hi hz0 hz1 hz2 rfl (by decide) v _ _ hown ad len cap (flatD m) (by rw [flatD_len, g1])
      (by
        intro j u hj
        have hjl : j < (flatD m).length := (List.getElem?_eq_some_iff.1 hj).1
        rw [flatD_len] at hjl
        rcases g4 with h0 | ⟨b, off, hh, hc⟩
        · omega
        · cases hh
          have k := hc (j / 2) (by omega)
          have f := flatD_get m (j / 2) (by omega)
          have h3 : (⟨b, off, none⟩ : Addr).add j = ⟨b, off + j, none⟩ := by
            by_cases hj0 : j = 0
            · subst hj0; simp [Addr.add]
            · simp [Addr.add, hj0]
          rw [h3]
          rcases Nat.mod_two_eq_zero_or_one j with e | e
          · have e2 : j = j / 2 * 2 := by omega
            rw [e2, f.1] at hj
            rw [show (⟨b, off + j, none⟩ : Addr) = ⟨b, off + j / 2 * 2, none⟩ by rw [← e2], k.1]
            exact hj
          · have e2 : j = j / 2 * 2 + 1 := by omega
            rw [e2, f.2] at hj
            rw [show (⟨b, off + j, none⟩ : Addr) = ⟨b, off + j / 2 * 2 + 1, none⟩ by rw [Nat.add_assoc, ← e2], k.2]
            exact hj)
      (flatD_one m) (by unfold maxLen; rw [← g1]; omega) (by rw [← g1]; omega) hN
    have e : l.length + len = (l ++ m).length := by rw [List.length_append, g1]
    rw [e, ← flatD_app] at h2
    have hk := h v' w' h2 (fun w0 hb => hb.grown h3 hN (fun j hj => (World.ownsRow.lt hown j hj).1))
    unfold Oper.wp execOp
    simp only [ho, resolve, invoke, builtin, Sem.run_bind, Sem.run_pure, Result.andThen_ok, List.map_toArray, List.map_cons, List.map_nil, hs, hx, hr]
    exact hk
theorem append_dots {w : World} {ops : Array Oper} {rest : List Oper} {o : Oper} {a : Act} {Q : Exit → Act → World → Prop} (hgd : o.guard = none) (s x : Operand)
    (ho : o.op = .call { callee := .builtin .append, args := #[s, x], argTypes := #[24, 24] })
    (N : Nat) (v : Value) (l m : List Dot) (hs : a.eval s = v) (hown : OwnD N w v l) (p : Option Addr) (len cap : Nat) (hx : a.eval x = .slice p len cap) (hp : p = none → cap = 0) (hB : DS w p len m)
    (hbig : l.length + m.length ≤ 1000000) (hN : N ≤ w.heap.size)
    (h : ∀ v' w', OwnD N w' v' (l ++ m) → (∀ w0, Below N w0 w → Below N w0 w') → wpList Try.prog ops Q rest (a.put o.dst v') w') : wpList Try.prog ops Q (o :: rest) a w := by
  refine wpList_plain hgd fun K hK => ?_
  exact append_wp s x ho N v l m hs hown p len cap hx hp hB hbig hN (fun v' w' h1 h2 => hK _ _ (h v' w' h1 h2))

set_option maxHeartbeats 400000 in
set_option maxRecDepth 100000 in
theorem cloneD_any (a : Option Addr) (n cap : Nat) (l : List Dot) (w : World) (hD : DS w a n l) (hn : n ≤ 1000000) :
    Calls Try.prog 37 #[.slice a n cap] w fun e w' => ∃ v, e = .returned v ∧ OwnD w.heap.size w' v l ∧ Below w.heap.size w w' := by
  have q22 : ∀ (w : World) (a : Option Addr) (n c n' c' : Nat), (binOp .eql 24 (.slice a n c) (.slice none n' c')).run Try.prog w = .ok (.bool a.isNone) w := fun w a n c n' c' => Lib.run_eql_slice_nil w _ _ a n c n' c' Try.underlying24
  rcases a with _ | p
  · have hl : l = [] := by
      rcases hD.2.2 with h0 | ⟨b, off, hh, _⟩
      · exact List.eq_nil_of_length_eq_zero (by rw [hD.1, h0])
      · cases hh
    subst hl
    clear hD
    go_enter Try.func37, Try.ntmps37
    go_wp2
    go_ret
    exact ⟨_, rfl, OwnD.nil _ _, Below.refl _ _⟩
  · have HD0 := hide hD
    clear hD
    go_enter Try.func37, Try.ntmps37
    go_wp2_with (at_builtin; refine Stop.at ?_)
    unfold Stop
    refine append_dots rfl _ _ rfl w.heap.size _ [] l rfl (OwnD.made w w.heap.size _ rfl (Nat.le_refl _)) (some p) n cap rfl (fun h => by cases h) (HD0.out.alloc _) (by simp; have := HD0.out.1; omega) (by simp) ?_
    intro v' w' h1 h2
    have HO := hide h1
    have HB := hide (h2 _ (bel1 w _))
    clear h1 h2
    go_wp2
    go_ret
    exact ⟨_, rfl, HO.out, HB.out⟩

/-- 'clear' of the end of a row of dots. -/
theorem clear_dots (w : World) (g kk n c : Nat) (d : Array Dot) (hd : d.size = n) (hH : HD w g d) (hk : kk < n) (ty : TypeId) :
    (Builtin.clear_ #[24] ty #[.slice (some ⟨g, kk * 2, none⟩) (n - kk) c]).run Try.prog w = .ok (.tuple #[]) (w.setCells g (kk * 2) (List.replicate ((n - kk) * 2) (.int .i64 0))) := by
  have hv : ∀ w, (zeroValue 28).run Try.prog w = .ok (.agg #[.int .i64 0, .int .i64 0]) w := Try.zeroValue28
  have hzc : (Builtin.zeroCells (Value.agg #[.int .i64 0, .int .i64 0]).cells (n - kk)).toList = List.replicate ((n - kk) * 2) (Value.int .i64 0) := by
    simp [Builtin.zeroCells, Value.cells]
    apply List.ext_getElem
    · simp
    · intro i h1 h2
      rcases Nat.mod_two_eq_zero_or_one i with e | e <;> simp [e]
  have hst := run_storeCells_cells (P := Try.prog) g (kk * 2) (List.replicate ((n - kk) * 2) (Value.int .i64 0)) 0 w
    (by
      intro j hj
      rw [List.length_replicate] at hj
      have k := hH (kk + j / 2) (by omega)
      rcases Nat.mod_two_eq_zero_or_one j with e | e
      · rw [show kk * 2 + 0 + j = (kk + j / 2) * 2 by omega, k.1]; rfl
      · rw [show kk * 2 + 0 + j = (kk + j / 2) * 2 + 1 by omega, k.2.1]; rfl)
    (by
      intro j hj
      rw [List.length_replicate] at hj
      have k := hH (kk + j / 2) (by omega)
      rcases Nat.mod_two_eq_zero_or_one j with e | e
      · rw [show kk * 2 + 0 + j = (kk + j / 2) * 2 by omega]; exact k.2.2.1
      · rw [show kk * 2 + 0 + j = (kk + j / 2) * 2 + 1 by omega]; exact k.2.2.2)
    (by intro v hv'; rw [List.eq_of_mem_replicate hv']; rfl)
  simp only [Nat.add_zero] at hst
  obtain ⟨m, hm⟩ : ∃ m, n - kk = m + 1 := ⟨n - kk - 1, by omega⟩
  rw [hm] at hzc hst ⊢
  simp [Builtin.clear_, run_underlying Try.underlying24, hv, hzc, hst]

theorem HD.set {w : World} {g : Nat} {d : Array Dot} (h : HD w g d) {k : Nat} (hk : k < d.size) (r s : Int) : HD ((w.setCell ⟨g, k * 2, none⟩ (.int .i64 r)).setCell ⟨g, k * 2 + 1, none⟩ (.int .i64 s)) g (d.setIfInBounds k (r, s)) := by
  intro i hi
  rw [Array.size_setIfInBounds] at hi
  have q := h i hi
  have qk := h k hk
  by_cases e : i = k
  · subst e
    rw [getElem!_set_same d i (r, s) hi]
    refine ⟨?_, ?_, by simpa using q.2.2.1, by simpa using q.2.2.2⟩
    · rw [World.cell?_setCell_other _ _ _ _ (by simp), World.cell?_setCell_same _ _ _ q.1]
    · exact World.cell?_setCell_same _ _ _ (by rw [World.cell?_setCell_other _ _ _ _ (by simp)]; exact q.2.1)
  · rw [getElem!_set_other d k i (r, s) e]
    refine ⟨?_, ?_, by simpa using q.2.2.1, by simpa using q.2.2.2⟩
    · rw [World.cell?_setCell_other _ _ _ _ (by simp <;> omega), World.cell?_setCell_other _ _ _ _ (by simp <;> omega)]; exact q.1
    · rw [World.cell?_setCell_other _ _ _ _ (by simp <;> omega), World.cell?_setCell_other _ _ _ _ (by simp <;> omega)]; exact q.2.1
end Go.Proofs.Ytccpbkemiilgcaa
