/- What is said of memory and of numbers, gathered (DFun6, DFun7, DAddR). -/
import Derived.Test.YtiodlpoeifmldaaGBase
import Derived.Test.YtiodlpoeifmldaaAB2
namespace Go.Proofs.Ytiodlpoeifmldaa
open Go.RowKit Go.Lib Go.Sort
set_option linter.unusedVariables false
set_option maxHeartbeats 400000 in
set_option maxRecDepth 100000 in
theorem cloneD_any (a : Option Addr) (n cap : Nat) (l : List Dot) (w : World) (hD : DS w a n l) (hn : n ≤ 1000000) :
    Calls Try.prog 74 #[.slice a n cap] w fun e w' => ∃ v, e = .returned v ∧ OwnD w.heap.size w' v l ∧ Below w.heap.size w w' := by
  have q22 : ∀ (w : World) (a : Option Addr) (n c n' c' : Nat), (binOp .eql 46 (.slice a n c) (.slice none n' c')).run Try.prog w = .ok (.bool a.isNone) w := fun w a n c n' c' => Lib.run_eql_slice_nil w _ _ a n c n' c' Try.underlying46
  rcases a with _ | p
  · have hl : l = [] := by
      rcases hD.2.2 with h0 | ⟨b, off, hh, _⟩
      · exact List.eq_nil_of_length_eq_zero (by rw [hD.1, h0])
      · cases hh
    subst hl
    clear hD
    go_enter Try.func74, Try.ntmps74
    go_wp2
    go_ret
    exact ⟨_, rfl, OwnD.nil _ _, Below.refl _ _⟩
  · have HD0 := hide hD
    clear hD
    go_enter Try.func74, Try.ntmps74
    go_wp2_with (at_builtin; refine Stop.at ?_)
    unfold Stop
    refine append_dots rfl _ _ rfl w.heap.size _ [] l rfl (OwnD.made w w.heap.size _ rfl (Nat.le_refl _)) (some p) n cap rfl (fun h => by cases h) (HD0.out.alloc _) (by simp; have := HD0.out.1; omega) (by simp) ?_
    intro v' w' h1 h2
    have HO := hide h1
    have HB := hide (h2 _ (bel1 w _))
    clear h1 h2
    go_wp2
    go_ret
    exact ⟨_, rfl, HO.out, HB.out⟩
/-- 'clear' of the end of a row of dots. -/
theorem clear_dots (w : World) (g kk n c : Nat) (d : Array Dot) (hd : d.size = n) (hH : HD w g d) (hk : kk < n) (ty : TypeId) :
    (Builtin.clear_ #[46] ty #[.slice (some ⟨g, kk * 2, none⟩) (n - kk) c]).run Try.prog w = .ok (.tuple #[]) (w.setCells g (kk * 2) (List.replicate ((n - kk) * 2) (.int .i64 0))) := by
  have hv : ∀ w, (zeroValue 24).run Try.prog w = .ok (.agg #[.int .i64 0, .int .i64 0]) w := Try.zeroValue24
  have hzc : (Builtin.zeroCells (Value.agg #[.int .i64 0, .int .i64 0]).cells (n - kk)).toList = List.replicate ((n - kk) * 2) (Value.int .i64 0) := by
    simp [Builtin.zeroCells, Value.cells]
    apply List.ext_getElem
    · simp
    · intro i h1 h2
      rcases Nat.mod_two_eq_zero_or_one i with e | e <;> simp [e]
  have hst := run_storeCells_cells (P := Try.prog) g (kk * 2) (List.replicate ((n - kk) * 2) (Value.int .i64 0)) 0 w
    (by
      intro j hj
      rw [List.length_replicate] at hj
      have k := hH (kk + j / 2) (by omega)
      rcases Nat.mod_two_eq_zero_or_one j with e | e
      · rw [show kk * 2 + 0 + j = (kk + j / 2) * 2 by omega, k.1]; rfl
      · rw [show kk * 2 + 0 + j = (kk + j / 2) * 2 + 1 by omega, k.2.1]; rfl)
    (by
      intro j hj
      rw [List.length_replicate] at hj
      have k := hH (kk + j / 2) (by omega)
      rcases Nat.mod_two_eq_zero_or_one j with e | e
      · rw [show kk * 2 + 0 + j = (kk + j / 2) * 2 by omega]; exact k.2.2.1
      · rw [show kk * 2 + 0 + j = (kk + j / 2) * 2 + 1 by omega]; exact k.2.2.2)
    (by intro v hv'; rw [List.eq_of_mem_replicate hv']; rfl)
  simp only [Nat.add_zero] at hst
  obtain ⟨m, hm⟩ : ∃ m, n - kk = m + 1 := ⟨n - kk - 1, by omega⟩
  rw [hm] at hzc hst ⊢
  simp [Builtin.clear_, run_underlying Try.underlying46, hv, hzc, hst]
end Go.Proofs.Ytiodlpoeifmldaa

namespace Go.Proofs.Ytiodlpoeifmldaa
open Go.RowKit Go.Lib Go.Sort
set_option linter.unusedVariables false
theorem wrapJ {j : Nat} (h : j ≤ 1000000000) : IntKind.i64.wrap (j : Int) = j := by simp [IntKind.wrap, IntKind.bits, IntKind.signed]; omega
theorem bel_setCells {N : Nat} {w0 : World} {g : Nat} (hN : N ≤ g) : ∀ (vs : List Value) (o : Nat) (w : World), Below N w0 w → Below N w0 (w.setCells g o vs)
  | [], _, _, h => h
  | v :: r, o, w, h => bel_setCells hN r (o + 1) _ (h.setCell (p := ⟨g, o, none⟩) hN v)
end Go.Proofs.Ytiodlpoeifmldaa

namespace Go.Proofs.Ytiodlpoeifmldaa
open Go.RowKit
set_option linter.unusedVariables false
theorem ds_cells {w : World} {q : Addr} {k : Nat} {l : List Dot} (hD : DS w (some q) k l) : ∀ j u, (flatD l)[j]? = some u → w.cell? (q.add j) = some u := by
  intro j u hj
  obtain ⟨g1, g2, g4⟩ := hD
  have hjl : j < (flatD l).length := (List.getElem?_eq_some_iff.1 hj).1
  rw [flatD_len] at hjl
  rcases g4 with h0 | ⟨b, off, hh, hc⟩
  · omega
  · cases hh
    have k := hc (j / 2) (by omega)
    have f := flatD_get l (j / 2) (by omega)
    have h3 : (⟨b, off, none⟩ : Addr).add j = ⟨b, off + j, none⟩ := by
      by_cases hj0 : j = 0
      · subst hj0; simp [Addr.add]
      · simp [Addr.add, hj0]
    rw [h3]
    rcases Nat.mod_two_eq_zero_or_one j with e | e
    · have e2 : j = j / 2 * 2 := by omega
      rw [e2, f.1] at hj
      rw [show (⟨b, off + j, none⟩ : Addr) = ⟨b, off + j / 2 * 2, none⟩ by rw [← e2], k.1]
      exact hj
    · have e2 : j = j / 2 * 2 + 1 := by omega
      rw [e2, f.2] at hj
      rw [show (⟨b, off + j, none⟩ : Addr) = ⟨b, off + j / 2 * 2 + 1, none⟩ by rw [Nat.add_assoc, ← e2], k.2]
      exact hj
/-- 'append' onto dots of the call's own: where they lie then. -/
theorem append_blk {w : World} {ty : TypeId} {N : Nat} {v v' : Value} {w' : World} {l m : List Dot} {p : Addr} {len cap : Nat} (hown : OwnD N w v l) (hB : DS w (some p) len m) (hbig : l.length + m.length ≤ 1000000)
    (hr : (Builtin.append_ #[46, 46] ty #[v, .slice (some p) len cap]).run Try.prog w = .ok v' w') : ∀ b, v'.ownBlock = some b → v.ownBlock = some b ∨ w.heap.size ≤ b := by
  obtain ⟨i0, hi, hz0, hz1, hz2⟩ := info_parts Try.infoDot
  have h0 := hown
  obtain ⟨hxl, h2⟩ := hown
  rcases h2 with ⟨rfl, h2⟩ | ⟨g, cp, cur, rfl, hb, hg, hc1, hc2, hs, ht⟩
  · obtain ⟨v2, w2, hr2, h3, _, _⟩ := run_append_own (P := Try.prog) w w.heap.size 46 ty 24 i0 (.agg #[.int .i64 0, .int .i64 0]) 2 16 Try.underlying46 hi hz0 hz1 hz2 rfl (by decide) (.slice none 0 0) 0 [] (OwnD.nil w.heap.size w) p len cap (flatD m) (by rw [flatD_len, hB.1]) (ds_cells hB) (flatD_one m) (by unfold maxLen; have := hB.1; omega) (by have := hB.1; omega) (Nat.le_refl _)
    rw [hr] at hr2
    cases hr2
    exact fun b hbb => .inr (World.ownsRow.lt h3 b hbb).1
  · by_cases hroom : l.length + len ≤ cp
    · have hcell : ∀ j, j < (flatD m).length → (w.cell? ⟨g, 0 + l.length * i0.size + j, none⟩).isSome = true ∧ w.frozen? ⟨g, 0 + l.length * i0.size + j, none⟩ = false := by
        intro j hj
        rw [flatD_len, hB.1] at hj
        rw [hz1]
        refine ⟨?_, by simp [World.frozen?, hg]⟩
        rw [cell_of_row w _ _ _ _ _ hg]
        have hjj : 0 + l.length * 2 + j < cur.size := by rw [hs]; omega
        rw [Array.getElem?_eq_getElem hjj]
        rfl
      have hrr := run_append_room_cells (P := Try.prog) (w := w) 46 ty 24 i0 Try.underlying46 hi g 0 l.length cp p len cap (flatD m) (by rw [flatD_len, hB.1, hz1]) (ds_cells hB) (flatD_one m) hroom (fun j hj => (hcell j hj).1) (fun j hj => (hcell j hj).2)
      rw [hr] at hrr
      cases hrr
      exact fun b hbb => .inl hbb
    · obtain ⟨v2, w2, hr2, h3, _⟩ := run_append_arg_grows (P := Try.prog) (w := w) 46 ty 24 i0 (.agg #[.int .i64 0, .int .i64 0]) 2 16 Try.underlying46 hi hz0 hz1 hz2 rfl (by decide) ⟨g, 0, none⟩ l.length cp (flatD l) (by rw [flatD_len]) (ds_cells h0.ds.1) p len cap (flatD m) (by rw [flatD_len, hB.1]) (ds_cells hB) (by omega) (by unfold maxLen; have := hB.1; omega) (by have := hB.1; omega)
      rw [hr] at hr2
      cases hr2
      exact fun b hbb => .inr (World.ownsRow.lt h3 b hbb).1
theorem append_more {w : World} {ops : Array Oper} {rest : List Oper} {o : Oper} {a : Act} {Q : Exit → Act → World → Prop} (hgd : o.guard = none) (s x : Operand)
    (ho : o.op = .call { callee := .builtin .append, args := #[s, x], argTypes := #[46, 46] })
    (N : Nat) (v : Value) (l m : List Dot) (hs : a.eval s = v) (hown : OwnD N w v l) (p : Addr) (len cap : Nat) (hx : a.eval x = .slice (some p) len cap) (hB : DS w (some p) len m)
    (hbig : l.length + m.length ≤ 1000000) (hN : N ≤ w.heap.size)
    (h : ∀ v' w', OwnD N w' v' (l ++ m) → w.grownBy w' v.ownBlock → (∀ b, v'.ownBlock = some b → v.ownBlock = some b ∨ w.heap.size ≤ b) → wpList Try.prog ops Q rest (a.put o.dst v') w') : wpList Try.prog ops Q (o :: rest) a w := by
  refine wpList_plain hgd fun K hK => ?_
  obtain ⟨i0, hi, hz0, hz1, hz2⟩ := info_parts Try.infoDot
  obtain ⟨v', w', hr, h2, h3, _⟩ := run_append_own (P := Try.prog) w N 46 o.type 24 i0 (.agg #[.int .i64 0, .int .i64 0]) 2 16 Try.underlying46 hi hz0 hz1 hz2 rfl (by decide) v _ _ hown p len cap (flatD m) (by rw [flatD_len, hB.1]) (ds_cells hB) (flatD_one m) (by unfold maxLen; have := hB.1; omega) (by have := hB.1; omega) hN
  have e : l.length + len = (l ++ m).length := by rw [List.length_append, hB.1]
  rw [e, ← flatD_app] at h2
  have hk := hK _ _ (h v' w' h2 h3 (append_blk hown hB hbig hr))
  unfold Oper.wp execOp
  simp only [ho, resolve, invoke, builtin, Sem.run_bind, Sem.run_pure, Result.andThen_ok, List.map_toArray, List.map_cons, List.map_nil, hs, hx, hr]
  exact hk
end Go.Proofs.Ytiodlpoeifmldaa

