/- Texts of this claim, joined: AB2. -/
import Derived.Deep.RegionHeld3
import Derived.Laws.CopyOwn
import Derived.Laws.Rows
import Derived.Deep.WholeRow
import Derived.Sort.Grow
import Derived.Deep.Draws
import Derived.Laws.StructEq
import Derived.ArgAppend
import Derived.Test.YtkbbegbpkndebaaGreatJ1
/- What is said of memory and of numbers, gathered (WMath, CMath, CNum, CCheck, CArr, CSet, CRef, CRef2, CTurn, DMath, DMem, DFun1, DFun2, DPut, DAddR, WRefRecM). -/
namespace Go.Proofs.YtkbbegbpkndebaaGreat
def val (l : List Int) : Int := l.foldl (fun x o => x * 256 + o) 0
/-- How many bytes 'x' has. -/
def nb (x : Int) : Nat :=
  if x < 1 then 0 else if x < 256 then 1 else if x < 65536 then 2 else if x < 16777216 then 3 else if x < 4294967296 then 4
  else if x < 1099511627776 then 5 else if x < 281474976710656 then 6 else if x < 72057594037927936 then 7 else 8
def num (x : Int) : List Int := (nb x : Int) :: be (nb x) x
end Go.Proofs.YtkbbegbpkndebaaGreat

namespace Go.Proofs.YtkbbegbpkndebaaGreat
/-- May a number stand in a clock? -/
def inB (x : Int) : Bool := decide (0 ≤ x) && decide (x ≤ 1048576)
/-- May a clock be? -/
def mayC (c : List Int) : Bool := decide (c.length ≤ 5) && c.all inB
/-- A replica's number, replicas counted from 0. -/
def at5 (c : List Int) (k : Nat) : Int := if mayC c = true then c.getD k 0 else 0
/-- All five numbers. -/
def vec (c : List Int) : List Int := [at5 c 0, at5 c 1, at5 c 2, at5 c 3, at5 c 4]
/-- How many numbers stand ahead of the noughts at the end. -/
def plen : List Int → Nat
  | [] => 0
  | a :: r => if plen r = 0 ∧ a = 0 then 0 else plen r + 1
/-- Without noughts at the end. -/
def pln (x : List Int) : List Int := x.take (plen x)
theorem mayC_iff {c : List Int} : mayC c = true ↔ c.length ≤ 5 ∧ ∀ x ∈ c, 0 ≤ x ∧ x ≤ 1048576 := by simp [mayC, inB]
theorem plen_le : ∀ x : List Int, plen x ≤ x.length
  | [] => Nat.le_refl _
  | a :: r => by
    have := plen_le r
    unfold plen
    split
    · omega
    · simp; omega
theorem plen_zero : ∀ l : List Int, plen (l ++ [0]) = plen l
  | [] => by simp [plen]
  | a :: r => by simp only [List.cons_append, plen, plen_zero r]
theorem plen_snoc {a : Int} (ha : a ≠ 0) : ∀ l : List Int, plen (l ++ [a]) = l.length + 1
  | [] => by simp [plen, ha]
  | b :: r => by simp [plen, plen_snoc ha r]
theorem pln_zero (l : List Int) : pln (l ++ [0]) = pln l := by
  unfold pln; rw [plen_zero, List.take_append_of_le_length (plen_le l)]
theorem at5_bd (c : List Int) (k : Nat) : 0 ≤ at5 c k ∧ at5 c k ≤ 1048576 := by
  unfold at5
  split
  · next h =>
    rw [mayC_iff] at h
    by_cases hk : k < c.length
    · have : c.getD k 0 = c[k] := by simp [List.getD_eq_getElem?_getD, hk]
      rw [this]; exact h.2 _ (List.getElem_mem hk)
    · have : c.getD k 0 = 0 := by simp [List.getD_eq_getElem?_getD, Nat.not_lt.mp hk]
      rw [this]; omega
  · omega
end Go.Proofs.YtkbbegbpkndebaaGreat

namespace Go.Proofs.YtkbbegbpkndebaaGreat
open Go.RowKit
set_option linter.unusedVariables false
theorem Tryz.infoI64 : (Tryz.prog.info? 3).map (fun i => (i.zero, i.size, i.bytes)) = some (some (.int .i64 0), 1, 8) := by kernel_rfl
/-- What is appended may be of another slice type of the same elements. -/
theorem append_types {P : Program} (t u ty e : TypeId) (ht : P.underlying t = some (.slice e)) (hu : P.underlying u = some (.slice e)) (args : Array Value) (w : World) :
    (Builtin.append_ #[t, u] ty args).run P w = (Builtin.append_ #[t, t] ty args).run P w := by
  unfold Builtin.append_
  rcases args[0]? with _ | s
  · simp
  · rcases args[1]? with _ | x
    · simp
    · cases s <;> simp only [List.getElem?_toArray, List.getElem?_cons_zero, List.getElem?_cons_succ, Sem.run_bind, Sem.run_pure, run_underlying ht, run_underlying hu, Result.andThen_ok]
/-- 'append(v, x...)', 'v' numbers of the call's own. -/
theorem append_nums {w : World} {ops : Array Oper} {rest : List Oper} {o : Oper} {a : Act} {Q : Exit → Act → World → Prop} (hgd : o.guard = none) (s x : Operand) (u : TypeId) (hu : Tryz.prog.underlying u = some (.slice 3))
    (ho : o.op = .call { callee := .builtin .append, args := #[s, x], argTypes := #[35, u] })
    (N : Nat) (v : Value) (l m : List Int) (hs : a.eval s = v) (hown : OwnN N w v l) (p : Addr) (len cap : Nat) (hx : a.eval x = .slice (some p) len cap) (hB : NS w (some p) len m)
    (hbig : (l.length + m.length) * 8 ≤ 140737488355328) (hN : N ≤ w.heap.size)
    (h : ∀ v' w', OwnN N w' v' (l ++ m) → w.grownBy w' v.ownBlock → (∀ w0, Below N w0 w → Below N w0 w') → wpList Tryz.prog ops Q rest (a.put o.dst v') w') : wpList Tryz.prog ops Q (o :: rest) a w := by
  obtain ⟨i0, hi, hz0, hz1, hz2⟩ := info_parts Tryz.infoI64
  obtain ⟨g1, g2, g4⟩ := hB
  refine wpList_plain hgd fun K hK => ?_
  obtain ⟨v', w', hr, h2, h3, _⟩ := run_append_own (P := Tryz.prog) w N 35 o.type 3 i0 (.int .i64 0) 1 8 Tryz.underlying35 hi hz0 hz1 hz2 rfl (by decide) v _ _ hown p len cap (m.map (Value.int .i64)) (by simp [g1])
    (by
      intro j u hj
      rw [List.getElem?_map, Option.map_eq_some_iff] at hj
      obtain ⟨y, hy, rfl⟩ := hj
      obtain ⟨hj1, hx2⟩ := List.getElem?_eq_some_iff.1 hy
      rcases g4 with h0 | ⟨b, off, hh, hc⟩
      · omega
      · cases hh
        have h1 := hc j (by omega)
        have h2 : m.getD j 0 = y := by simp [List.getD_eq_getElem?_getD, hy]
        rw [h2] at h1
        have h3 : (⟨b, off, none⟩ : Addr).add j = ⟨b, off + j, none⟩ := by
          by_cases hj0 : j = 0
          · subst hj0; simp [Addr.add]
          · simp [Addr.add, hj0]
        rw [h3]
        exact h1)
    (by
      intro u hu
      rw [List.mem_map] at hu
      obtain ⟨y, _, rfl⟩ := hu
      rfl)
    (by rw [← g1]; unfold maxLen; omega) (by rw [← g1]; omega) hN
  have e : l.length + len = (l ++ m).length := by rw [List.length_append, g1]
  rw [e, ← List.map_append] at h2
  unfold Oper.wp execOp
  simp only [ho, resolve, invoke, builtin, Sem.run_bind, Sem.run_pure, Result.andThen_ok, List.map_toArray, List.map_cons, List.map_nil, hs, hx, append_types _ _ _ _ Tryz.underlying35 hu, hr]
  exact hK _ _ (h v' w' h2 h3 (fun w0 hb => hb.grown h3 hN (fun j hj => (World.ownsRow.lt hown j hj).1)))
end Go.Proofs.YtkbbegbpkndebaaGreat

namespace Go.Proofs.YtkbbegbpkndebaaGreat
open Go.RowKit
set_option linter.unusedVariables false
theorem mayRep_any (r : Int) (w : World) : Calls Tryz.prog 161 #[.int .i64 r] w fun e w' => e = .returned (.bool (decide (1 ≤ r ∧ r ≤ 5))) ∧ w' = w := by
  by_cases h1 : r ≥ 1
  · by_cases h2 : r ≤ 5
    · go_enter Tryz.func161, Tryz.ntmps161
      go_wp2
      go_ret
      exact ⟨retB (by simp; omega), rfl⟩
    · go_enter Tryz.func161, Tryz.ntmps161
      go_wp2
      go_ret
      exact ⟨retB (by simp; omega), rfl⟩
  · go_enter Tryz.func161, Tryz.ntmps161
    go_wp2
    go_ret
    exact ⟨retB (by simp; omega), rfl⟩
theorem mayNum_any (r : Int) (w : World) : Calls Tryz.prog 140 #[.int .i64 r] w fun e w' => e = .returned (.bool (inB r)) ∧ w' = w := by
  by_cases h1 : r ≥ 0
  · by_cases h2 : r ≤ 1048576
    · go_enter Tryz.func140, Tryz.ntmps140
      go_wp2
      go_ret
      exact ⟨retB (by simp [inB]; omega), rfl⟩
    · go_enter Tryz.func140, Tryz.ntmps140
      go_wp2
      go_ret
      exact ⟨retB (by simp [inB]; omega), rfl⟩
  · go_enter Tryz.func140, Tryz.ntmps140
    go_wp2
    go_ret
    exact ⟨retB (by simp [inB]; omega), rfl⟩
/-- 'Check', as a number. -/
def chk (c : List Int) : Int := if mayC c = true then 0 else 1
theorem all_drop {l : List Int} {k : Nat} (h : k < l.length) : (l.drop k).all inB = (inB (l.getD k 0) && (l.drop (k + 1)).all inB) := by
  rw [List.drop_eq_getElem_cons h, List.all_cons]
  simp [List.getD_eq_getElem?_getD, h]
set_option maxHeartbeats 400000 in
theorem check_any (a : Option Addr) (n cap : Nat) (c : List Int) (w : World) (hN : NS w a n c) :
    Calls Tryz.prog 77 #[.slice a n cap] w fun e w' => e = .returned (.int .i64 (chk c)) ∧ w' = w := by
  obtain ⟨hlen, hmax, hcells⟩ := hN
  unfold maxLen at hmax
  by_cases h5 : n > 5
  · have HE : Hid (1 = chk c) := by
      have : mayC c = false := by simp [mayC, hlen]; omega
      unfold Hid chk; simp [this]
    clear hlen hcells
    go_enter Tryz.func77, Tryz.ntmps77
    go_wp2
    go_ret
    exact ⟨ret_int HE.out, rfl⟩
  · have hlen' := hide hlen
    have HM : Hid (mayC c = (c.drop 0).all inB) := by unfold Hid; simp [mayC, hlen]; omega
    have hcells' := hide hcells
    clear hlen hcells
    go_enter Tryz.func77, Tryz.ntmps77
    go_wp2
    go_loop [10] (fun i => ∃ k : Nat, k ≤ n ∧ i = .int .i64 k ∧ Hid (mayC c = (c.drop k).all inB)) (fun i => n - (intOf i).toNat)
    case atStart => exact ⟨0, by omega, rfl, HM⟩
    case round =>
      clear HM
      obtain ⟨k, hk, rfl, hH⟩ := hrel
      by_cases hlt : k < n
      · rcases hcells'.out with h0 | ⟨b, off, rfl, hc⟩
        · omega
        · have hck := hc k hlt
          have hst : Hid (mayC c = (inB (c.getD k 0) && (c.drop (k + 1)).all inB)) := by
            have h2 := hH.out
            rw [all_drop (by rw [hlen'.out]; exact hlt)] at h2
            exact h2
          clear hH hc hcells'
          generalize c.getD k 0 = x at hck hst
          rcases hb : inB x with _ | _
          · have HE : Hid (1 = chk c) := by have h2 := hst.out; rw [hb] at h2; unfold Hid chk; simp [h2]
            have mb := mayNum_any x
            rw [hb] at mb
            clear hst
            go_wp2_with (go_at_call 140; refine (mb _).mono ?_; rintro e w' ⟨rfl, rfl⟩)
            go_ret
            exact ⟨ret_int HE.out, rfl⟩
          · have hst2 : Hid (mayC c = (c.drop (k + 1)).all inB) := by have h2 := hst.out; rw [hb] at h2; unfold Hid; simpa using h2
            have mb := mayNum_any x
            rw [hb] at mb
            clear hst
            go_wp2_with (go_at_call 140; refine (mb _).mono ?_; rintro e w' ⟨rfl, rfl⟩)
            go_round
            case rel => exact ⟨k + 1, by omega, by go_num, hst2⟩
            case measure => simp [intOf]; omega
      · have hkl : k = n := by omega
        subst hkl
        have HE : Hid (0 = chk c) := by
          have h2 := hH.out
          rw [List.drop_of_length_le (by rw [hlen'.out]; exact Nat.le_refl _)] at h2
          unfold Hid chk; simp [h2]
        clear hH
        go_wp2
        go_ret
        exact ⟨ret_int HE.out, rfl⟩
end Go.Proofs.YtkbbegbpkndebaaGreat

namespace Go.Proofs.YtkbbegbpkndebaaGreat
open Go.RowKit
set_option linter.unusedVariables false
theorem at5_may {c : List Int} (hm : mayC c = true) (k : Nat) : at5 c k = c.getD k 0 := if_pos hm
theorem five_row {c : List Int} (hm : mayC c = true) (z : Value) (hz : z = .int .i64 0) : (c.map (Value.int .i64) ++ List.drop c.length [z, z, z, z, z]) = [.int .i64 (at5 c 0), .int .i64 (at5 c 1), .int .i64 (at5 c 2), .int .i64 (at5 c 3), .int .i64 (at5 c 4)] := by
  subst hz
  simp only [at5_may hm]
  have h5 := (mayC_iff.1 hm).1
  match c, h5 with
  | [], _ => rfl
  | [_], _ => rfl
  | [_, _], _ => rfl
  | [_, _, _], _ => rfl
  | [_, _, _, _], _ => rfl
  | [_, _, _, _, _], _ => rfl
theorem Tryz.infoI1 : (Tryz.prog.info? 3).map (·.size) = some 1 := by kernel_rfl
theorem Tryz.info5 : (Tryz.prog.info? 183).map (·.size) = some 5 := by kernel_rfl
/-- 'copy(x[:], c)', 'x' five noughts. -/
theorem run_copy_five (w : World) (g : Nat) (hg : g = w.heap.size) (p : Option Addr) (n cap : Nat) (c : List Int) (hN : NS w p n c) (hm : mayC c = true) :
    (Builtin.copy_ #[34, 35] 3 #[.slice (some ⟨g, 0, none⟩) 5 5, .slice p n cap]).run Tryz.prog (w.alloc (.cells #[.int .i64 0, .int .i64 0, .int .i64 0, .int .i64 0, .int .i64 0] 183)) =
      .ok (goInt n) (w.alloc (.cells #[.int .i64 (at5 c 0), .int .i64 (at5 c 1), .int .i64 (at5 c 2), .int .i64 (at5 c 3), .int .i64 (at5 c 4)] 183)) := by
  subst hg
  have hN' := hN.alloc (.cells #[.int .i64 0, .int .i64 0, .int .i64 0, .int .i64 0, .int .i64 0] 183)
  obtain ⟨hl, _, hc⟩ := hN'
  have h5 : c.length ≤ 5 := (mayC_iff.1 hm).1
  rcases hc with h0 | ⟨b, off, rfl, hc⟩
  · subst h0
    obtain rfl : c = [] := List.eq_nil_of_length_eq_zero hl
    exact run_copy_none _ _ _ _ _ _ _ _ _ _ _ Tryz.underlying34 Tryz.infoI1 (by rfl)
  · rw [run_copy_row (P := Tryz.prog) _ _ _ _ 3 w.heap.size 0 5 5 ⟨b, off, none⟩ n cap _ _ (c.map (Value.int .i64)) Tryz.underlying34 Tryz.infoI1 (heap_alloc_new w _) (by rw [List.length_map, hl]; exact (Nat.min_eq_left (by omega)).symm) ?_ (by simp; omega) ?_]
    · rw [World.setRow_alloc_new]
      have e := five_row hm (.int .i64 0) rfl
      simp only [List.length_map, List.take_zero, List.nil_append, Nat.zero_add, hl]
      rw [hl] at e
      rw [e]
    · intro j v hj
      rw [List.getElem?_map, Option.map_eq_some_iff] at hj
      obtain ⟨y, hy, rfl⟩ := hj
      obtain ⟨hj1, hx2⟩ := List.getElem?_eq_some_iff.1 hy
      have h1 := hc j (by omega)
      have h2 : c.getD j 0 = y := by simp [List.getD_eq_getElem?_getD, hy]
      rw [h2] at h1
      have h3 : (⟨b, off, none⟩ : Addr).add j = ⟨b, off + j, none⟩ := by
        by_cases hj0 : j = 0
        · subst hj0; simp [Addr.add]
        · simp [Addr.add, hj0]
      rw [h3]
      exact h1
    · intro v hv
      rw [List.mem_map] at hv
      obtain ⟨y, _, rfl⟩ := hv
      rfl
set_option maxHeartbeats 400000 in
theorem numbers_any (a : Option Addr) (n cap : Nat) (c : List Int) (w : World) (hN : NS w a n c) :
    Calls Tryz.prog 162 #[.slice a n cap] w fun e w' => e = .returned (.agg #[.int .i64 (at5 c 0), .int .i64 (at5 c 1), .int .i64 (at5 c 2), .int .i64 (at5 c 3), .int .i64 (at5 c 4)]) ∧ Below w.heap.size w w' := by
  have HN := hide hN
  obtain ⟨hlen, hmax, hcells⟩ := hN
  unfold maxLen at hmax
  by_cases hm : mayC c = true
  · have HM := hide hm
    have hk : chk c = 0 := by unfold chk; rw [if_pos hm]
    clear hlen hcells hm
    go_enter Tryz.func162, Tryz.ntmps162
    have hcp := run_copy_five (w.alloc (.cells #[.int .i64 0, .int .i64 0, .int .i64 0, .int .i64 0, .int .i64 0] 183)) (w.heap.size + 1) (by simp) a n cap c (HN.out.alloc _) HM.out
    go_wp2_with (go_at_call 77; refine (check_any _ _ _ c _ ((HN.out.alloc _).alloc _)).mono ?_; rintro e w' ⟨rfl, rfl⟩; rw [hk])
    exact bodyPost_ret (results_cell_row rfl _ _ _ _ _ _ _ rfl (heap_alloc2_old _ _ _) Tryz.underlying183 rfl Tryz.info5) rfl ⟨rfl, bel2 _ _ _⟩
  · have hc0 : ∀ k, at5 c k = 0 := fun k => by unfold at5; rw [if_neg hm]
    have HC : Hid (∀ k, at5 c k = 0) := hc0
    have hk : chk c = 1 := by unfold chk; rw [if_neg hm]
    clear hlen hcells hm hc0
    go_enter Tryz.func162, Tryz.ntmps162
    go_wp2_with (go_at_call 77; refine (check_any _ _ _ c _ ((HN.out.alloc _).alloc _)).mono ?_; rintro e w' ⟨rfl, rfl⟩; rw [hk])
    refine bodyPost_ret (results_cell_row rfl _ _ _ _ _ _ _ rfl (heap_alloc2_old _ _ _) Tryz.underlying183 rfl Tryz.info5) rfl ⟨?_, bel2 _ _ _⟩
    rw [HC.out, HC.out, HC.out, HC.out, HC.out]
end Go.Proofs.YtkbbegbpkndebaaGreat

namespace Go.Proofs.YtkbbegbpkndebaaGreat
open Go.RowKit
set_option linter.unusedVariables false
/-- A replica's number, replicas counted from 1, as any integer. -/
def getZ (c : List Int) (r : Int) : Int := if 1 ≤ r ∧ r ≤ 5 then at5 c (r.toNat - 1) else 0
set_option maxHeartbeats 1000000 in
theorem Get_any (a : Option Addr) (n cap : Nat) (c : List Int) (r : Int) (w : World) (hN : NS w a n c) :
    Calls Tryz.prog 115 #[.slice a n cap, .int .i64 r] w fun e w' => e = .returned (.int .i64 (getZ c r)) ∧ Below w.heap.size w w' := by
  have HN := hide hN
  clear hN
  by_cases hr : 1 ≤ r ∧ r ≤ 5
  · have hm := mayRep_any r w
    rw [decide_eq_true hr] at hm
    have h5 : r = 1 ∨ r = 2 ∨ r = 3 ∨ r = 4 ∨ r = 5 := by omega
    clear hr
    rcases h5 with rfl | rfl | rfl | rfl | rfl
    · have HE : Hid (at5 c 0 = getZ c 1) := rfl
      have i0 : ∀ w : World, (Instr.index 183 (.agg #[.int .i64 (at5 c 0), .int .i64 (at5 c 1), .int .i64 (at5 c 2), .int .i64 (at5 c 3), .int .i64 (at5 c 4)]) (.int .i64 0)).run Tryz.prog w = .ok (.int .i64 (at5 c 0)) w := fun _ => by kernel_rfl
      go_enter Tryz.func115, Tryz.ntmps115
      go_wp2_with (first
        | (go_at_call 161; refine hm.mono ?_; rintro e w' ⟨rfl, rfl⟩)
        | (go_at_call 162; refine (numbers_any _ _ _ c _ HN.out).mono ?_; rintro e w1 ⟨rfl, hb1⟩; have HB1 := hide hb1; clear hb1))
      go_ret
      exact ⟨ret_int HE.out, HB1.out⟩
    · have HE : Hid (at5 c 1 = getZ c 2) := rfl
      have i0 : ∀ w : World, (Instr.index 183 (.agg #[.int .i64 (at5 c 0), .int .i64 (at5 c 1), .int .i64 (at5 c 2), .int .i64 (at5 c 3), .int .i64 (at5 c 4)]) (.int .i64 1)).run Tryz.prog w = .ok (.int .i64 (at5 c 1)) w := fun _ => by kernel_rfl
      go_enter Tryz.func115, Tryz.ntmps115
      go_wp2_with (first
        | (go_at_call 161; refine hm.mono ?_; rintro e w' ⟨rfl, rfl⟩)
        | (go_at_call 162; refine (numbers_any _ _ _ c _ HN.out).mono ?_; rintro e w1 ⟨rfl, hb1⟩; have HB1 := hide hb1; clear hb1))
      go_ret
      exact ⟨ret_int HE.out, HB1.out⟩
    · have HE : Hid (at5 c 2 = getZ c 3) := rfl
      have i0 : ∀ w : World, (Instr.index 183 (.agg #[.int .i64 (at5 c 0), .int .i64 (at5 c 1), .int .i64 (at5 c 2), .int .i64 (at5 c 3), .int .i64 (at5 c 4)]) (.int .i64 2)).run Tryz.prog w = .ok (.int .i64 (at5 c 2)) w := fun _ => by kernel_rfl
      go_enter Tryz.func115, Tryz.ntmps115
      go_wp2_with (first
        | (go_at_call 161; refine hm.mono ?_; rintro e w' ⟨rfl, rfl⟩)
        | (go_at_call 162; refine (numbers_any _ _ _ c _ HN.out).mono ?_; rintro e w1 ⟨rfl, hb1⟩; have HB1 := hide hb1; clear hb1))
      go_ret
      exact ⟨ret_int HE.out, HB1.out⟩
    · have HE : Hid (at5 c 3 = getZ c 4) := rfl
      have i0 : ∀ w : World, (Instr.index 183 (.agg #[.int .i64 (at5 c 0), .int .i64 (at5 c 1), .int .i64 (at5 c 2), .int .i64 (at5 c 3), .int .i64 (at5 c 4)]) (.int .i64 3)).run Tryz.prog w = .ok (.int .i64 (at5 c 3)) w := fun _ => by kernel_rfl
      go_enter Tryz.func115, Tryz.ntmps115
      go_wp2_with (first
        | (go_at_call 161; refine hm.mono ?_; rintro e w' ⟨rfl, rfl⟩)
        | (go_at_call 162; refine (numbers_any _ _ _ c _ HN.out).mono ?_; rintro e w1 ⟨rfl, hb1⟩; have HB1 := hide hb1; clear hb1))
      go_ret
      exact ⟨ret_int HE.out, HB1.out⟩
    · have HE : Hid (at5 c 4 = getZ c 5) := rfl
      have i0 : ∀ w : World, (Instr.index 183 (.agg #[.int .i64 (at5 c 0), .int .i64 (at5 c 1), .int .i64 (at5 c 2), .int .i64 (at5 c 3), .int .i64 (at5 c 4)]) (.int .i64 4)).run Tryz.prog w = .ok (.int .i64 (at5 c 4)) w := fun _ => by kernel_rfl
      go_enter Tryz.func115, Tryz.ntmps115
      go_wp2_with (first
        | (go_at_call 161; refine hm.mono ?_; rintro e w' ⟨rfl, rfl⟩)
        | (go_at_call 162; refine (numbers_any _ _ _ c _ HN.out).mono ?_; rintro e w1 ⟨rfl, hb1⟩; have HB1 := hide hb1; clear hb1))
      go_ret
      exact ⟨ret_int HE.out, HB1.out⟩
  · have hm := mayRep_any r w
    rw [decide_eq_false hr] at hm
    have HE : Hid (0 = getZ c r) := by unfold Hid getZ; rw [if_neg hr]
    clear hr
    go_enter Tryz.func115, Tryz.ntmps115
    go_wp2_with (go_at_call 161; refine hm.mono ?_; rintro e w' ⟨rfl, rfl⟩)
    go_ret
    exact ⟨ret_int HE.out, Below.refl _ _⟩
end Go.Proofs.YtkbbegbpkndebaaGreat

namespace Go.Proofs.YtkbbegbpkndebaaGreat
open Go.RowKit
set_option linter.unusedVariables false
end Go.Proofs.YtkbbegbpkndebaaGreat

namespace Go.Proofs.YtkbbegbpkndebaaGreat
open Go.RowKit
set_option linter.unusedVariables false
end Go.Proofs.YtkbbegbpkndebaaGreat

namespace Go.Proofs.YtkbbegbpkndebaaGreat
open Go.RowKit
set_option linter.unusedVariables false
end Go.Proofs.YtkbbegbpkndebaaGreat

namespace Go.Proofs.YtkbbegbpkndebaaGreat
def cmpD (a b : Dot) : Int := if lessD a b = true then -1 else if lessD b a = true then 1 else 0
theorem cmpD_lt {a b : Dot} : cmpD a b < 0 ↔ lessD a b = true := by
  unfold cmpD
  split
  · simp [*]
  · split <;> simp [*]
theorem putD_len {d : Dot} : ∀ {l : List Dot}, (putD l d).length ≤ l.length + 1
  | [] => by simp [putD]
  | y :: r => by
    unfold putD
    split
    · have := putD_len (l := r) (d := d); simp; omega
    · split <;> simp
theorem foldl_putD_len (l : List Dot) : ∀ m, (l.foldl putD m).length ≤ m.length + l.length := by
  induction l with
  | nil => intro m; simp
  | cons d r ih => intro m; have := ih (putD m d); have := putD_len (l := m) (d := d); simp; omega
end Go.Proofs.YtkbbegbpkndebaaGreat

namespace Go.Proofs.YtkbbegbpkndebaaGreat
open Go.RowKit
set_option linter.unusedVariables false
theorem mayTrue {r s : Int} (h1 : r ≥ 1) (h2 : r ≤ 5) (h3 : s ≥ 1) (h4 : s ≤ 1048576) : true = mayD (r, s) := (mayD_iff.2 ⟨h1, h2, h3, h4⟩).symm
theorem mayFalse {r s : Int} (h : ¬ (1 ≤ r ∧ r ≤ 5 ∧ 1 ≤ s ∧ s ≤ 1048576)) : false = mayD (r, s) := by
  symm; rw [← Bool.not_eq_true, mayD_iff]; exact h
end Go.Proofs.YtkbbegbpkndebaaGreat

namespace Go.Proofs.YtkbbegbpkndebaaGreat
open Go.RowKit
set_option linter.unusedVariables false
/-- A dot's box. -/
abbrev bxD (r s : Int) : Obj := .cells #[.int .i64 r, .int .i64 s] 33
set_option maxHeartbeats 400000 in
theorem May_any (r s : Int) (w : World) : Calls Tryz.prog 113 #[.agg #[.int .i64 r, .int .i64 s]] w fun e w' => e = .returned (.bool (mayD (r, s))) ∧ Gr w w' := by
  by_cases h1 : r ≥ 1
  · by_cases h2 : r ≤ 5
    · by_cases h3 : s ≥ 1
      · by_cases h4 : s ≤ 1048576
        · go_enter Tryz.func113, Tryz.ntmps113
          go_wp2
          go_ret
          exact ⟨retB (mayTrue h1 h2 h3 h4), (Gr.refl w).alloc _⟩
        · go_enter Tryz.func113, Tryz.ntmps113
          go_wp2
          go_ret
          exact ⟨retB (mayFalse (by omega)), (Gr.refl w).alloc _⟩
      · go_enter Tryz.func113, Tryz.ntmps113
        go_wp2
        go_ret
        exact ⟨retB (mayFalse (by omega)), (Gr.refl w).alloc _⟩
    · go_enter Tryz.func113, Tryz.ntmps113
      go_wp2
      go_ret
      exact ⟨retB (mayFalse (by omega)), (Gr.refl w).alloc _⟩
  · go_enter Tryz.func113, Tryz.ntmps113
    go_wp2
    go_ret
    exact ⟨retB (mayFalse (by omega)), (Gr.refl w).alloc _⟩
/-- 'cmp.Compare' of two numbers. -/
def cmpI (x y : Int) : Int := if x < y then -1 else if x > y then 1 else 0
theorem nan_any (x : Int) (w : World) : Calls Tryz.prog 259 #[.int .i64 x] w fun e w' => e = .returned (.bool false) ∧ w' = w := by
  go_enter Tryz.func259, Tryz.ntmps259
  go_wp2
  go_ret
  exact ⟨retB (by simp), rfl⟩
theorem cmpI_any (x y : Int) (w : World) : Calls Tryz.prog 240 #[.int .i64 x, .int .i64 y] w fun e w' => e = .returned (.int .i64 (cmpI x y)) ∧ w' = w := by
  by_cases h1 : x < y
  · have HE : Hid (-1 = cmpI x y) := by unfold Hid cmpI; rw [if_pos h1]
    go_enter Tryz.func240, Tryz.ntmps240
    go_wp2_with (go_at_call 259; refine (nan_any _ _).mono ?_; rintro e w' ⟨rfl, rfl⟩)
    go_ret
    exact ⟨ret_int HE.out, rfl⟩
  · by_cases h2 : x > y
    · have HE : Hid (1 = cmpI x y) := by unfold Hid cmpI; rw [if_neg h1, if_pos h2]
      go_enter Tryz.func240, Tryz.ntmps240
      go_wp2_with (go_at_call 259; refine (nan_any _ _).mono ?_; rintro e w' ⟨rfl, rfl⟩)
      go_ret
      exact ⟨ret_int HE.out, rfl⟩
    · have HE : Hid (0 = cmpI x y) := by unfold Hid cmpI; rw [if_neg h1, if_neg h2]
      go_enter Tryz.func240, Tryz.ntmps240
      go_wp2_with (go_at_call 259; refine (nan_any _ _).mono ?_; rintro e w' ⟨rfl, rfl⟩)
      go_ret
      exact ⟨ret_int HE.out, rfl⟩
def orI (x y : Int) : Int := if x = 0 then y else x
set_option maxHeartbeats 400000 in
theorem or_any (w : World) (g : Nat) (x y : Int) (c0 : w.cell? ⟨g, 0, none⟩ = some (.int .i64 x)) (c1 : w.cell? ⟨g, 1, none⟩ = some (.int .i64 y)) :
    Calls Tryz.prog 239 #[.slice (some ⟨g, 0, none⟩) 2 2] w fun e w' => e = .returned (.int .i64 (orI x y)) ∧ w' = w := by
  by_cases h1 : x = 0
  · by_cases h2 : y = 0
    · have HE : Hid (0 = orI x y) := by unfold Hid orI; rw [if_pos h1, h2]
      go_enter Tryz.func239, Tryz.ntmps239
      go_wp2
      refine wp_loop_rounds 3 ?_
      rw [rounds_succ]
      go_wp2
      rw [rounds_succ]
      go_wp2
      rw [rounds_succ]
      go_wp2
      go_ret
      exact ⟨ret_int HE.out, rfl⟩
    · have HE : Hid (y = orI x y) := by unfold Hid orI; rw [if_pos h1]
      go_enter Tryz.func239, Tryz.ntmps239
      go_wp2
      refine wp_loop_rounds 3 ?_
      rw [rounds_succ]
      go_wp2
      rw [rounds_succ]
      go_wp2
      go_ret
      exact ⟨ret_int HE.out, rfl⟩
  · have HE : Hid (x = orI x y) := by unfold Hid orI; rw [if_neg h1]
    go_enter Tryz.func239, Tryz.ntmps239
    go_wp2
    refine wp_loop_rounds 3 ?_
    rw [rounds_succ]
    go_wp2
    go_ret
    exact ⟨ret_int HE.out, rfl⟩
theorem orI_is (a b : Dot) : orI (cmpI a.1 b.1) (cmpI a.2 b.2) = cmpD a b := by
  obtain ⟨a1, a2⟩ := a
  obtain ⟨b1, b2⟩ := b
  unfold orI cmpI cmpD lessD
  simp only [decide_eq_true_iff]
  split <;> split <;> (try split) <;> (try split) <;> (try split) <;> omega
set_option maxHeartbeats 1000000 in
theorem compare_any (x y : Dot) (w : World) : Calls Tryz.prog 222 #[.agg #[.int .i64 x.1, .int .i64 x.2], .agg #[.int .i64 y.1, .int .i64 y.2]] w fun e w' => e = .returned (.int .i64 (cmpD x y)) ∧ Gr w w' := by
  have HE := hide (orI_is x y)
  obtain ⟨r, s⟩ := x
  obtain ⟨r', s'⟩ := y
  have HU := hide (((Gr.refl w).alloc (bxD r s)).alloc (bxD r' s'))
  go_enter Tryz.func222, Tryz.ntmps222
  go_wp2
  have c0 : ((w.alloc (bxD r s)).alloc (bxD r' s')).cell? ⟨w.heap.size, 0, none⟩ = some (.int .i64 r) := cell_old _ (cell_new w _ _ _ rfl 0 _ rfl)
  have c1 : ((w.alloc (bxD r s)).alloc (bxD r' s')).cell? ⟨w.heap.size, 1, none⟩ = some (.int .i64 s) := cell_old _ (cell_new w _ _ _ rfl 1 _ rfl)
  have c2 : ((w.alloc (bxD r s)).alloc (bxD r' s')).cell? ⟨w.heap.size + 1, 0, none⟩ = some (.int .i64 r') := cell_new _ _ _ _ (by simp) 0 _ rfl
  have c3 : ((w.alloc (bxD r s)).alloc (bxD r' s')).cell? ⟨w.heap.size + 1, 1, none⟩ = some (.int .i64 s') := cell_new _ _ _ _ (by simp) 1 _ rfl
  generalize ((w.alloc (bxD r s)).alloc (bxD r' s')) = u at *
  refine wp_region_held_drew (S := fun W => Gr u W) (by kernel_rfl) ((Gr.refl u).drew) (fun hS0 => ?_)
  refine tkI 0 5 ?v1 rfl rfl hS0 ?hy1 ?_
  case hy1 => (intro W hW; clear hW; go_simp; try rfl)
  simp only [ly]
  refine tkI 1 6 ?v2 rfl rfl hS0 ?hy2 ?_
  case hy2 => (intro W hW; have e0 := bcell hW.bel c0; have e1 := bcell hW.bel c1; have e2 := bcell hW.bel c2; have e3 := bcell hW.bel c3; clear hW; go_simp; try rfl)
  simp only [ly]
  refine tkI 2 7 ?v3 rfl rfl hS0 ?hy3 ?_
  case hy3 => (intro W hW; clear hW; go_simp; try rfl)
  simp only [ly]
  refine tkI 3 8 ?v4 rfl rfl hS0 ?hy4 ?_
  case hy4 => (intro W hW; have e0 := bcell hW.bel c0; have e1 := bcell hW.bel c1; have e2 := bcell hW.bel c2; have e3 := bcell hW.bel c3; clear hW; go_simp; try rfl)
  simp only [ly]
  refine tkI 5 10 ?v5 rfl rfl hS0 ?hy5 ?_
  case hy5 => (intro W hW; clear hW; go_simp; try rfl)
  simp only [ly]
  refine tkI 6 11 ?v6 rfl rfl hS0 ?hy6 ?_
  case hy6 => (intro W hW; have e0 := bcell hW.bel c0; have e1 := bcell hW.bel c1; have e2 := bcell hW.bel c2; have e3 := bcell hW.bel c3; clear hW; go_simp; try rfl)
  simp only [ly]
  refine tkI 7 12 ?v7 rfl rfl hS0 ?hy7 ?_
  case hy7 => (intro W hW; clear hW; go_simp; try rfl)
  simp only [ly]
  refine tkI 8 13 ?v8 rfl rfl hS0 ?hy8 ?_
  case hy8 => (intro W hW; have e0 := bcell hW.bel c0; have e1 := bcell hW.bel c1; have e2 := bcell hW.bel c2; have e3 := bcell hW.bel c3; clear hW; go_simp; try rfl)
  simp only [ly]
  refine wpAnyH_ready (rs := [4]) (by kernel_rfl) (by simp) ?_
  refine AllReadyH.cons rfl (fun K hK => ?_) AllReadyH.nil
  go_simp
  refine (cmpI_any _ _ _).mono ?_
  rintro e w' ⟨rfl, hw⟩
  subst hw
  try go_wp2_with fail
  refine hK.out _ _ ?hs9 (fun hS1 => ?_)
  case hs9 => exact hS0
  clear hK K
  try simp only [ly]
  refine wpAnyH_ready (rs := [9]) (by kernel_rfl) (by simp) ?_
  refine AllReadyH.cons rfl (fun K hK => ?_) AllReadyH.nil
  go_simp
  refine (cmpI_any _ _ _).mono ?_
  rintro e w' ⟨rfl, hw⟩
  subst hw
  try go_wp2_with fail
  refine hK.out _ _ ?hs10 (fun hS2 => ?_)
  case hs10 => exact hS1
  clear hK K
  try simp only [ly]
  refine wpAnyH_ready (rs := [10]) (by kernel_rfl) (by simp) ?_
  refine AllReadyH.cons rfl (fun K hK => ?_) AllReadyH.nil
  go_simp
  refine hK.out _ _ ?hs11 (fun hS3 => ?_)
  case hs11 => exact hS2.alloc _
  clear hK K
  try simp only [ly]
  refine wpAnyH_ready (rs := [11]) (by kernel_rfl) (by simp) ?_
  refine AllReadyH.cons rfl (fun K hK => ?_) AllReadyH.nil
  go_simp
  refine Calls.mono (or_any _ _ (cmpI r r') (cmpI s s') ?_ ?_) ?_
  · exact cell_new _ _ _ _ rfl 0 _ rfl
  · exact cell_new _ _ _ _ rfl 1 _ rfl
  rintro e w' ⟨rfl, hw⟩
  subst hw
  try go_wp2_with fail
  refine hK.out _ _ ?hs12 (fun hS4 => ?_)
  case hs12 => exact hS3
  clear hK K
  try simp only [ly]
  refine tkI 12 4 ?v13 rfl rfl hS4 ?hy13 ?_
  case hy13 => (intro W hW; clear hW; go_simp; try rfl)
  simp only [ly]
  refine wpAnyH_done (by kernel_rfl) ?_ _
  go_wp2
  go_ret
  exact ⟨ret_int HE.out, HU.out.trans (by assumption)⟩
set_option maxHeartbeats 400000 in
theorem Less_any (x y : Dot) (w : World) : Calls Tryz.prog 229 #[.agg #[.int .i64 x.1, .int .i64 x.2], .agg #[.int .i64 y.1, .int .i64 y.2]] w fun e w' => e = .returned (.bool (lessD x y)) ∧ Gr w w' := by
  have HC := hide (fun W => compare_any x y W)
  have HE : Hid (decide (cmpD x y < 0) = lessD x y) := by unfold Hid; rw [Bool.eq_iff_iff, decide_eq_true_iff]; exact cmpD_lt
  obtain ⟨r, s⟩ := x
  obtain ⟨r', s'⟩ := y
  have HU := hide (((Gr.refl w).alloc (bxD r s)).alloc (bxD r' s'))
  generalize cmpD (r, s) (r', s') = c at HC HE
  go_enter Tryz.func229, Tryz.ntmps229
  go_wp2_with (go_at_call 222; refine (HC.out _).mono ?_; rintro e w' ⟨rfl, hg⟩)
  go_ret
  exact ⟨retB HE.out, HU.out.trans hg⟩
end Go.Proofs.YtkbbegbpkndebaaGreat

namespace Go.Proofs.YtkbbegbpkndebaaGreat
open Go.RowKit
set_option linter.unusedVariables false
theorem eqD (r s r' s' : Int) (b : Bool) (hb : b = decide (r = r' ∧ s = s')) (w : World) : (Op.equalIn 10000 33 (.agg #[.int .i64 r, .int .i64 s]) (.agg #[.int .i64 r', .int .i64 s'])).run Tryz.prog w = .ok b w := by
  have u3 := Tryz.underlying3
  have a3 := Tryz.isAgg3
  have z3 := Tryz.sizeOf3
  have hS : Tryz.prog.underlying 33 = some (.struct (Tryz.prog.fieldsOf 33)) := by kernel_rfl
  have hp : Tryz.prog.stoodInHeld 33 = false := by kernel_rfl
  rw [show (10000 : Nat) = 9999 + 1 from rfl, run_equalIn_agg w 9999 33 _ _ hS hp]
  simp only [Program.fieldsOf, Tryz.underlying33]
  subst hb
  by_cases h1 : r = r' <;> by_cases h2 : s = s'
  · subst h1 h2; go_simp
  · subst h1
    have h2' : (s == s') = false := by simpa using h2
    simp only [h2, and_false, decide_false]
    go_simp
  · have h1' : (r == r') = false := by simpa using h1
    simp only [h1, false_and, decide_false]
    go_simp
  · have h1' : (r == r') = false := by simpa using h1
    simp only [h1, false_and, decide_false]
    go_simp
theorem eqD_drop {l m : List Dot} {k : Nat} (h : k < l.length) (h2 : k < m.length) : (l.drop k = m.drop k) ↔ (l.getD k (0, 0) = m.getD k (0, 0) ∧ l.drop (k + 1) = m.drop (k + 1)) := by
  rw [List.drop_eq_getElem_cons h, List.drop_eq_getElem_cons h2, List.cons.injEq]
  simp [List.getD_eq_getElem?_getD, h, h2]
set_option maxHeartbeats 1000000 in
/-- The document's 'Dots'. -/
theorem Dots_any (a a' : Option Addr) (n cap n' cap' : Nat) (c d : List Dot) (w : World) (hN : DS w a n c) (hN' : DS w a' n' d) :
    Calls Tryz.prog 137 #[.slice a n cap, .slice a' n' cap'] w fun e w' => e = .returned (.bool (decide (c = d))) ∧ Below w.heap.size w w' := by
  obtain ⟨hlen, hmax, hcells⟩ := hN
  obtain ⟨hlen', hmax', hcells'⟩ := hN'
  unfold maxLen at hmax hmax'
  by_cases hnn : n = n'
  · subst hnn
    have HL := hide hlen
    have HL' := hide hlen'
    have HC := hide hcells
    have HC' := hide hcells'
    clear hlen hlen' hcells hcells'
    go_enter Tryz.func137, Tryz.ntmps137
    go_wp2
    go_loopw [5] (fun i wr => ∃ k : Nat, k ≤ n ∧ i = .int .i64 k ∧ Below w.heap.size w wr ∧ Hid ((c = d) ↔ (c.drop k = d.drop k))) (fun i _ => n - (intOf i).toNat)
    case atStart => exact ⟨0, by omega, rfl, Below.refl _ _, by unfold Hid; simp⟩
    case round =>
      obtain ⟨k, hk, rfl, hbel, hH⟩ := hrel
      by_cases hlt : k < n
      · rcases HC.out with h0 | ⟨b, off, rfl, hc⟩
        · omega
        · rcases HC'.out with h0 | ⟨b', off', rfl, hc'⟩
          · omega
          · have c0 := bcell hbel (hc k hlt).1
            have c1 := bcell hbel (hc k hlt).2
            have c2 := bcell hbel (hc' k hlt).1
            have c3 := bcell hbel (hc' k hlt).2
            have hst : Hid ((c = d) ↔ (c.getD k (0, 0) = d.getD k (0, 0) ∧ c.drop (k + 1) = d.drop (k + 1))) := by
              have h2 := hH.out
              rw [eqD_drop (by rw [HL.out]; exact hlt) (by rw [HL'.out]; exact hlt)] at h2
              exact h2
            have HBel := hide hbel
            clear hc hc' hH hbel
            generalize c.getD k (0, 0) = x at c0 c1 hst
            generalize d.getD k (0, 0) = y at c2 c3 hst
            obtain ⟨r, s⟩ := x
            obtain ⟨p, q⟩ := y
            by_cases hxy : r = p ∧ s = q
            · have hst2 : Hid ((c = d) ↔ (c.drop (k + 1) = d.drop (k + 1))) := by have h2 := hst.out; unfold Hid; rw [h2]; simp [hxy]
              have hq := fun w => eqD r s p q true (by symm; exact decide_eq_true hxy) w
              clear hst hxy
              go_wp2
              refine wp_region_held_drew (S := fun W => Below wr.heap.size wr W) (by kernel_rfl) ((Below.refl _ wr).drew) (fun hS0 => ?_)
              refine tkI 0 17 ?v13 rfl rfl hS0 ?hy13 ?_
              case hy13 => (intro W hW; clear hW; go_simp; try rfl)
              simp only [ly]
              refine tkI 1 18 ?v14 rfl rfl hS0 ?hy14 ?_
              case hy14 => (intro W hW; clear hW; go_simp; try rfl)
              simp only [ly]
              refine tkI 2 19 ?v15 rfl rfl hS0 ?hy15 ?_
              case hy15 => (intro W hW; clear hW; go_simp; try rfl)
              simp only [ly]
              refine tkI 3 20 ?v16 rfl rfl hS0 ?hy16 ?_
              case hy16 => (intro W hW; have e0 := bcell hW c0; have e1 := bcell hW c1; have e2 := bcell hW c2; have e3 := bcell hW c3; clear hW; go_simp; try rfl)
              simp only [ly]
              refine tkI 4 21 ?v17 rfl rfl hS0 ?hy17 ?_
              case hy17 => (intro W hW; clear hW; go_simp; try rfl)
              simp only [ly]
              refine tkI 5 22 ?v18 rfl rfl hS0 ?hy18 ?_
              case hy18 => (intro W hW; clear hW; go_simp; try rfl)
              simp only [ly]
              refine tkI 6 23 ?v19 rfl rfl hS0 ?hy19 ?_
              case hy19 => (intro W hW; clear hW; go_simp; try rfl)
              simp only [ly]
              refine tkI 7 24 ?v20 rfl rfl hS0 ?hy20 ?_
              case hy20 => (intro W hW; have e0 := bcell hW c0; have e1 := bcell hW c1; have e2 := bcell hW c2; have e3 := bcell hW c3; clear hW; go_simp; try rfl)
              simp only [ly]
              refine tkI 8 25 ?v21 rfl rfl hS0 ?hy21 ?_
              case hy21 => (intro W hW; clear hW; go_simp; try rfl)
              simp only [ly]
              refine wpAnyH_done (by kernel_rfl) ?_ _
              go_wp2
              go_roundw
              case rel => exact ⟨k + 1, by omega, by go_num, bel_next HBel.out (by assumption), hst2⟩
              case measure => simp [intOf]; omega
            · have HE : Hid (false = decide (c = d)) := by have h2 := hst.out; unfold Hid; symm; rw [decide_eq_false_iff_not, h2]; rintro ⟨h, _⟩; exact hxy ⟨congrArg Prod.fst h, congrArg Prod.snd h⟩
              have hq := fun w => eqD r s p q false (by symm; exact decide_eq_false hxy) w
              clear hst hxy
              go_wp2
              refine wp_region_held_drew (S := fun W => Below wr.heap.size wr W) (by kernel_rfl) ((Below.refl _ wr).drew) (fun hS0 => ?_)
              refine tkI 0 17 ?v22 rfl rfl hS0 ?hy22 ?_
              case hy22 => (intro W hW; clear hW; go_simp; try rfl)
              simp only [ly]
              refine tkI 1 18 ?v23 rfl rfl hS0 ?hy23 ?_
              case hy23 => (intro W hW; clear hW; go_simp; try rfl)
              simp only [ly]
              refine tkI 2 19 ?v24 rfl rfl hS0 ?hy24 ?_
              case hy24 => (intro W hW; clear hW; go_simp; try rfl)
              simp only [ly]
              refine tkI 3 20 ?v25 rfl rfl hS0 ?hy25 ?_
              case hy25 => (intro W hW; have e0 := bcell hW c0; have e1 := bcell hW c1; have e2 := bcell hW c2; have e3 := bcell hW c3; clear hW; go_simp; try rfl)
              simp only [ly]
              refine tkI 4 21 ?v26 rfl rfl hS0 ?hy26 ?_
              case hy26 => (intro W hW; clear hW; go_simp; try rfl)
              simp only [ly]
              refine tkI 5 22 ?v27 rfl rfl hS0 ?hy27 ?_
              case hy27 => (intro W hW; clear hW; go_simp; try rfl)
              simp only [ly]
              refine tkI 6 23 ?v28 rfl rfl hS0 ?hy28 ?_
              case hy28 => (intro W hW; clear hW; go_simp; try rfl)
              simp only [ly]
              refine tkI 7 24 ?v29 rfl rfl hS0 ?hy29 ?_
              case hy29 => (intro W hW; have e0 := bcell hW c0; have e1 := bcell hW c1; have e2 := bcell hW c2; have e3 := bcell hW c3; clear hW; go_simp; try rfl)
              simp only [ly]
              refine tkI 8 25 ?v30 rfl rfl hS0 ?hy30 ?_
              case hy30 => (intro W hW; clear hW; go_simp; try rfl)
              simp only [ly]
              refine wpAnyH_done (by kernel_rfl) ?_ _
              go_wp2
              go_ret
              exact ⟨retB HE.out, bel_next HBel.out (by assumption)⟩
      · have hkl : k = n := by omega
        subst hkl
        have HE : Hid (true = decide (c = d)) := by
          have h2 := hH.out
          rw [List.drop_of_length_le (by rw [HL.out]; exact Nat.le_refl _), List.drop_of_length_le (by rw [HL'.out]; exact Nat.le_refl _)] at h2
          unfold Hid; simp [h2]
        clear hH
        go_wp2
        go_ret
        exact ⟨retB HE.out, hbel⟩
  · have HE : Hid (false = decide (c = d)) := by
      unfold Hid; symm; rw [decide_eq_false_iff_not]; intro hh; subst hh; omega
    have hnn' : ¬ ((n : Int) = n') := by omega
    clear hlen hlen' hcells hcells'
    go_enter Tryz.func137, Tryz.ntmps137
    go_wp2
    go_ret
    exact ⟨retB HE.out, Below.refl _ _⟩
end Go.Proofs.YtkbbegbpkndebaaGreat

namespace Go.Proofs.YtkbbegbpkndebaaGreat
open Go.RowKit
set_option linter.unusedVariables false
end Go.Proofs.YtkbbegbpkndebaaGreat

namespace Go.Proofs.YtkbbegbpkndebaaGreat
open Go.RowKit
set_option linter.unusedVariables false
end Go.Proofs.YtkbbegbpkndebaaGreat

namespace Go.Proofs.YtkbbegbpkndebaaGreat
set_option linter.unusedVariables false
end Go.Proofs.YtkbbegbpkndebaaGreat

