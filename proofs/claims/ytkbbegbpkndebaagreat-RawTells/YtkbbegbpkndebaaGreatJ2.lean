/- Texts of this claim, joined: AB2. -/
import Derived.Deep.RegionHeld3
import Derived.Laws.CopyOwn
import Derived.Laws.Rows
import Derived.Deep.WholeRow
import Derived.Sort.Grow
import Derived.Deep.Draws
import Derived.Laws.StructEq
import Derived.ArgAppend
import Derived.Test.YtkbbegbpkndebaaGreatJ1
/- What is said of memory and of numbers, gathered (WMath, CMath, CNum, CCheck, CArr, CSet, CRef, CRef2, CTurn, DMath, DMem, DFun1, DFun2, DPut, DAddR, WRefRecM). -/
namespace Go.Proofs.YtkbbegbpkndebaaGreat
def nb (x : Int) : Nat :=
 if x < 1 then 0 else if x < 256 then 1 else if x < 65536 then 2 else if x < 16777216 then 3 else if x < 4294967296 then 4
 else if x < 1099511627776 then 5 else if x < 281474976710656 then 6 else if x < 72057594037927936 then 7 else 8
def num (x : Int) : List Int := (nb x : Int) :: be (nb x) x
end Go.Proofs.YtkbbegbpkndebaaGreat

namespace Go.Proofs.YtkbbegbpkndebaaGreat
def inB (x : Int) : Bool := decide (0 ≤ x) && decide (x ≤ 1048576)
def mayC (c : List Int) : Bool := decide (c.length ≤ 5) && c.all inB
def at5 (c : List Int) (k : Nat) : Int := if mayC c = true then c.getD k 0 else 0
def vec (c : List Int) : List Int := [at5 c 0, at5 c 1, at5 c 2, at5 c 3, at5 c 4]
def plen : List Int → Nat
 | [] => 0
 | a :: r => if plen r = 0 ∧ a = 0 then 0 else plen r + 1
def pln (x : List Int) : List Int := x.take (plen x)
theorem inB_iff {x : Int} : inB x = true ↔ 0 ≤ x ∧ x ≤ 1048576 := by simp [inB]
theorem mayC_iff {c : List Int} : mayC c = true ↔ c.length ≤ 5 ∧ ∀ x ∈ c, 0 ≤ x ∧ x ≤ 1048576 := by simp [mayC, inB]
theorem plen_le : ∀ x : List Int, plen x ≤ x.length
 | [] => Nat.le_refl _
 | a :: r => by
  have := plen_le r
  unfold plen
  split
  ·omega
  ·simp; omega
theorem plen_zero : ∀ l : List Int, plen (l ++ [0]) = plen l
 | [] => by simp [plen]
 | a :: r => by simp only [List.cons_append, plen, plen_zero r]
theorem plen_snoc {a : Int} (ha : a ≠ 0) : ∀ l : List Int, plen (l ++ [a]) = l.length + 1
 | [] => by simp [plen, ha]
 | b :: r => by simp [plen, plen_snoc ha r]
theorem pln_zero (l : List Int) : pln (l ++ [0]) = pln l := by
 unfold pln; rw [plen_zero, List.take_append_of_le_length (plen_le l)]
theorem at5_bd (c : List Int) (k : Nat) : 0 ≤ at5 c k ∧ at5 c k ≤ 1048576 := by
 unfold at5
 split
 ·next h =>
  rw [mayC_iff] at h
  by_cases hk : k < c.length
  ·have : c.getD k 0 = c[k] := by simp [List.getD_eq_getElem?_getD, hk]
   rw [this]; exact h.2 _ (List.getElem_mem hk)
  ·have : c.getD k 0 = 0 := by simp [List.getD_eq_getElem?_getD, Nat.not_lt.mp hk]
   rw [this]; omega
 ·omega
end Go.Proofs.YtkbbegbpkndebaaGreat

namespace Go.Proofs.YtkbbegbpkndebaaGreat
open Go.RowKit
set_option linter.unusedVariables false
theorem Tryz.infoI64 : (Tryz.prog.info? 3).map (fun i => (i.zero, i.size, i.bytes)) = some (some (.int .i64 0), 1, 8) := by kernel_rfl
theorem append_types {P : Program} (t u ty e : TypeId) (ht : P.underlying t = some (.slice e)) (hu : P.underlying u = some (.slice e)) (args : Array Value) (w : World) :
  (Builtin.append_ #[t, u] ty args).run P w = (Builtin.append_ #[t, t] ty args).run P w := by
 unfold Builtin.append_
 rcases args[0]? with _ | s
 ·simp
 ·rcases args[1]? with _ | x
  ·simp
  ·cases s <;> simp only [List.getElem?_toArray, List.getElem?_cons_zero, List.getElem?_cons_succ, Sem.run_bind, Sem.run_pure, run_underlying ht, run_underlying hu, Result.andThen_ok]
theorem append_nums {w : World} {ops : Array Oper} {rest : List Oper} {o : Oper} {a : Act} {Q : Exit → Act → World → Prop} (hgd : o.guard = none) (s x : Operand) (u : TypeId) (hu : Tryz.prog.underlying u = some (.slice 3))
  (ho : o.op = .call { callee := .builtin .append, args := #[s, x], argTypes := #[35, u] })
  (N : Nat) (v : Value) (l m : List Int) (hs : a.eval s = v) (hown : OwnN N w v l) (p : Addr) (len cap : Nat) (hx : a.eval x = .slice (some p) len cap) (hB : NS w (some p) len m)
  (hbig : (l.length + m.length) * 8 ≤ 140737488355328) (hN : N ≤ w.heap.size)
  (h : ∀ v' w', OwnN N w' v' (l ++ m) → w.grownBy w' v.ownBlock → (∀ w0, Below N w0 w → Below N w0 w') → wpList Tryz.prog ops Q rest (a.put o.dst v') w') : wpList Tryz.prog ops Q (o :: rest) a w := by
 obtain ⟨i0, hi, hz0, hz1, hz2⟩ := info_parts Tryz.infoI64
 obtain ⟨g1, g2, g4⟩ := hB
 refine wpList_plain hgd fun K hK => ?_
 obtain ⟨v', w', hr, h2, h3, _⟩ := run_append_own (P := Tryz.prog) w N 35 o.type 3 i0 (.int .i64 0) 1 8 Tryz.underlying35 hi hz0 hz1 hz2 rfl (by decide) v _ _ hown p len cap (m.map (Value.int .i64)) (by simp [g1])
  (by
   intro j u hj
   rw [List.getElem?_map, Option.map_eq_some_iff] at hj
   obtain ⟨y, hy, rfl⟩ := hj
   obtain ⟨hj1, hx2⟩ := List.getElem?_eq_some_iff.1 hy
   rcases g4 with h0 | ⟨b, off, hh, hc⟩
   ·omega
   ·cases hh
    have h1 := hc j (by omega)
    have h2 : m.getD j 0 = y := by simp [List.getD_eq_getElem?_getD, hy]
    rw [h2] at h1
    have h3 : (⟨b, off, none⟩ : Addr).add j = ⟨b, off + j, none⟩ := by
     by_cases hj0 : j = 0
     ·subst hj0; simp [Addr.add]
     ·simp [Addr.add, hj0]
    rw [h3]
    exact h1)
  (by
   intro u hu
   rw [List.mem_map] at hu
   obtain ⟨y, _, rfl⟩ := hu
   rfl)
  (by rw [← g1]; unfold maxLen; omega) (by rw [← g1]; omega) hN
 have e : l.length + len = (l ++ m).length := by rw [List.length_append, g1]
 rw [e, ← List.map_append] at h2
 unfold Oper.wp execOp
 simp only [ho, resolve, invoke, builtin, Sem.run_bind, Sem.run_pure, Result.andThen_ok, List.map_toArray, List.map_cons, List.map_nil, hs, hx, append_types _ _ _ _ Tryz.underlying35 hu, hr]
 exact hK _ _ (h v' w' h2 h3 (fun w0 hb => hb.grown h3 hN (fun j hj => (World.ownsRow.lt hown j hj).1)))
end Go.Proofs.YtkbbegbpkndebaaGreat

namespace Go.Proofs.YtkbbegbpkndebaaGreat
open Go.RowKit
set_option linter.unusedVariables false
theorem mayRep_any (r : Int) (w : World) : Calls Tryz.prog 161 #[.int .i64 r] w fun e w' => e = .returned (.bool (decide (1 ≤ r ∧ r ≤ 5))) ∧ w' = w := by
 by_cases h1 : r ≥ 1
 ·by_cases h2 : r ≤ 5
  ·go_enter Tryz.func161, Tryz.ntmps161
   go_wp2
   go_ret
   exact ⟨retB (by simp; omega), rfl⟩
  ·go_enter Tryz.func161, Tryz.ntmps161
   go_wp2
   go_ret
   exact ⟨retB (by simp; omega), rfl⟩
 ·go_enter Tryz.func161, Tryz.ntmps161
  go_wp2
  go_ret
  exact ⟨retB (by simp; omega), rfl⟩
theorem mayNum_any (r : Int) (w : World) : Calls Tryz.prog 140 #[.int .i64 r] w fun e w' => e = .returned (.bool (inB r)) ∧ w' = w := by
 by_cases h1 : r ≥ 0
 ·by_cases h2 : r ≤ 1048576
  ·go_enter Tryz.func140, Tryz.ntmps140
   go_wp2
   go_ret
   exact ⟨retB (by simp [inB]; omega), rfl⟩
  ·go_enter Tryz.func140, Tryz.ntmps140
   go_wp2
   go_ret
   exact ⟨retB (by simp [inB]; omega), rfl⟩
 ·go_enter Tryz.func140, Tryz.ntmps140
  go_wp2
  go_ret
  exact ⟨retB (by simp [inB]; omega), rfl⟩
def chk (c : List Int) : Int := if mayC c = true then 0 else 1
theorem all_drop {l : List Int} {k : Nat} (h : k < l.length) : (l.drop k).all inB = (inB (l.getD k 0) && (l.drop (k + 1)).all inB) := by
 rw [List.drop_eq_getElem_cons h, List.all_cons]
 simp [List.getD_eq_getElem?_getD, h]
set_option maxHeartbeats 400000 in
theorem check_any (a : Option Addr) (n cap : Nat) (c : List Int) (w : World) (hN : NS w a n c) :
  Calls Tryz.prog 77 #[.slice a n cap] w fun e w' => e = .returned (.int .i64 (chk c)) ∧ w' = w := by
 obtain ⟨hlen, hmax, hcells⟩ := hN
 unfold maxLen at hmax
 by_cases h5 : n > 5
 ·have HE : Hid (1 = chk c) := by
   have : mayC c = false := by simp [mayC, hlen]; omega
   unfold Hid chk; simp [this]
  clear hlen hcells
  go_enter Tryz.func77, Tryz.ntmps77
  go_wp2
  go_ret
  exact ⟨ret_int HE.out, rfl⟩
 ·have hlen' := hide hlen
  have HM : Hid (mayC c = (c.drop 0).all inB) := by unfold Hid; simp [mayC, hlen]; omega
  have hcells' := hide hcells
  clear hlen hcells
  go_enter Tryz.func77, Tryz.ntmps77
  go_wp2
  go_loop [10] (fun i => ∃ k : Nat, k ≤ n ∧ i = .int .i64 k ∧ Hid (mayC c = (c.drop k).all inB)) (fun i => n - (intOf i).toNat)
  case atStart => exact ⟨0, by omega, rfl, HM⟩
  case round =>
   clear HM
   obtain ⟨k, hk, rfl, hH⟩ := hrel
   by_cases hlt : k < n
   ·rcases hcells'.out with h0 | ⟨b, off, rfl, hc⟩
    ·omega
    ·have hck := hc k hlt
     have hst : Hid (mayC c = (inB (c.getD k 0) && (c.drop (k + 1)).all inB)) := by
      have h2 := hH.out
      rw [all_drop (by rw [hlen'.out]; exact hlt)] at h2
      exact h2
     clear hH hc hcells'
     generalize c.getD k 0 = x at hck hst
     rcases hb : inB x with _ | _
     ·have HE : Hid (1 = chk c) := by have h2 := hst.out; rw [hb] at h2; unfold Hid chk; simp [h2]
      have mb := mayNum_any x
      rw [hb] at mb
      clear hst
      go_wp2_with (go_at_call 140; refine (mb _).mono ?_; rintro e w' ⟨rfl, rfl⟩)
      go_ret
      exact ⟨ret_int HE.out, rfl⟩
     ·have hst2 : Hid (mayC c = (c.drop (k + 1)).all inB) := by have h2 := hst.out; rw [hb] at h2; unfold Hid; simpa using h2
      have mb := mayNum_any x
      rw [hb] at mb
      clear hst
      go_wp2_with (go_at_call 140; refine (mb _).mono ?_; rintro e w' ⟨rfl, rfl⟩)
      go_round
      case rel => exact ⟨k + 1, by omega, by go_num, hst2⟩
      case measure => simp [intOf]; omega
   ·have hkl : k = n := by omega
    subst hkl
    have HE : Hid (0 = chk c) := by
     have h2 := hH.out
     rw [List.drop_of_length_le (by rw [hlen'.out]; exact Nat.le_refl _)] at h2
     unfold Hid chk; simp [h2]
    clear hH
    go_wp2
    go_ret
    exact ⟨ret_int HE.out, rfl⟩
set_option maxHeartbeats 400000 in
theorem may_ref (a : Option Addr) (n cap : Nat) (c : List Int) (w : World) (hN : NS w a n c) :
  Calls Tryz.prog 30 #[.slice a n cap] w fun e w' => e = .returned (.bool (mayC c)) ∧ w' = w := by
 obtain ⟨hlen, hmax, hcells⟩ := hN
 unfold maxLen at hmax
 have hlen' := hide hlen
 have HM : Hid (mayC c = (decide (n ≤ 5) && (c.drop 0).all inB)) := by unfold Hid; simp [mayC, hlen]
 have hcells' := hide hcells
 clear hlen hcells
 go_enter Tryz.func30, Tryz.ntmps30
 go_wp2
 go_loop [3] (fun i => ∃ k : Nat, k ≤ n ∧ i = .int .i64 k ∧ Hid (mayC c = (decide (n ≤ 5) && (c.drop k).all inB))) (fun i => n - (intOf i).toNat)
 case atStart => exact ⟨0, by omega, rfl, HM⟩
 case round =>
  clear HM
  obtain ⟨k, hk, rfl, hH⟩ := hrel
  by_cases hlt : k < n
  ·rcases hcells'.out with h0 | ⟨b, off, rfl, hc⟩
   ·omega
   ·have hck := hc k hlt
    have hst : Hid (mayC c = (decide (n ≤ 5) && (inB (c.getD k 0) && (c.drop (k + 1)).all inB))) := by
     have h2 := hH.out
     rw [all_drop (by rw [hlen'.out]; exact hlt)] at h2
     exact h2
    clear hH hc hcells'
    generalize c.getD k 0 = x at hck hst
    by_cases h1 : x < 0
    ·have HE : Hid (false = mayC c) := by have h2 := hst.out; unfold Hid; rw [h2]; simp [inB]; omega
     clear hst
     go_wp2
     go_ret
     exact ⟨retB HE.out, rfl⟩
    ·by_cases h2 : x > 1048576
     ·have HE : Hid (false = mayC c) := by have h2 := hst.out; unfold Hid; rw [h2]; simp [inB]; omega
      clear hst
      go_wp2
      go_ret
      exact ⟨retB HE.out, rfl⟩
     ·have hst2 : Hid (mayC c = (decide (n ≤ 5) && (c.drop (k + 1)).all inB)) := by
       have h3 := hst.out
       have h4 : inB x = true := inB_iff.2 ⟨by omega, by omega⟩
       rw [h4] at h3; unfold Hid; simpa using h3
      clear hst
      go_wp2
      go_round
      case rel => exact ⟨k + 1, by omega, by go_num, hst2⟩
      case measure => simp [intOf]; omega
  ·have hkl : k = n := by omega
   subst hkl
   have HE : Hid (decide (k ≤ 5) = mayC c) := by
    have h2 := hH.out
    rw [List.drop_of_length_le (by rw [hlen'.out]; exact Nat.le_refl _)] at h2
    unfold Hid; rw [h2]; simp
   clear hH
   go_wp2
   go_ret
   exact ⟨retB (by rw [← HE.out]; simp; omega), rfl⟩
set_option maxHeartbeats 400000 in
theorem get_ref (a : Option Addr) (n cap : Nat) (c : List Int) (r : Int) (w : World) (hN : NS w a n c) (k : Nat) (hr : r = k + 1) :
  Calls Tryz.prog 47 #[.slice a n cap, .int .i64 r] w fun e w' => e = .returned (.int .i64 (at5 c k)) ∧ w' = w := by
 have mb := may_ref a n cap c w hN
 obtain ⟨hlen, hmax, hcells⟩ := hN
 unfold maxLen at hmax
 subst hr
 by_cases hm : mayC c = true
 ·have h5 : n ≤ 5 := by have := (mayC_iff.1 hm).1; omega
  rw [hm] at mb
  by_cases hk : k < n
  ·have HE : Hid (c.getD k 0 = at5 c k) := by unfold Hid at5; rw [if_pos hm]
   rcases hcells with h0 | ⟨b, off, rfl, hc⟩
   ·omega
   ·have hck := hc k hk
    have hw : ((k : Int) + 1 - 1) = k := by omega
    have e1 : ¬ ((k : Int) + 1 < 1) := by omega
    have e2 : ¬ ((k : Int) + 1 > n) := by omega
    clear hc hlen hm
    generalize c.getD k 0 = x at hck HE
    go_enter Tryz.func47, Tryz.ntmps47
    go_wp2_with (go_at_call 30; refine mb.mono ?_; rintro e w' ⟨rfl, rfl⟩)
    go_ret
    exact ⟨ret_int HE.out, rfl⟩
  ·have HE : Hid (0 = at5 c k) := by
    unfold Hid at5; rw [if_pos hm]; simp [List.getD_eq_getElem?_getD, List.getElem?_eq_none (show c.length ≤ k by omega)]
   have e1 : ¬ ((k : Int) + 1 < 1) := by omega
   have e2 : ((k : Int) + 1 > n) := by omega
   clear hcells hlen hm
   go_enter Tryz.func47, Tryz.ntmps47
   go_wp2_with (go_at_call 30; refine mb.mono ?_; rintro e w' ⟨rfl, rfl⟩)
   go_ret
   exact ⟨ret_int HE.out, rfl⟩
 ·have HE : Hid (0 = at5 c k) := by unfold Hid at5; rw [if_neg hm]
  rw [show mayC c = false by simpa using hm] at mb
  clear hcells hlen hm
  go_enter Tryz.func47, Tryz.ntmps47
  go_wp2_with (go_at_call 30; refine mb.mono ?_; rintro e w' ⟨rfl, rfl⟩)
  go_ret
  exact ⟨ret_int HE.out, rfl⟩
theorem get_ref_as (a : Option Addr) (n cap : Nat) (c : List Int) (r x : Int) (w : World) (hN : NS w a n c) (k : Nat) (hr : r = k + 1) (hx : at5 c k = x) :
  Calls Tryz.prog 47 #[.slice a n cap, .int .i64 r] w fun e w' => e = .returned (.int .i64 x) ∧ w' = w := by
 subst hx; exact get_ref a n cap c r w hN k hr
end Go.Proofs.YtkbbegbpkndebaaGreat

namespace Go.Proofs.YtkbbegbpkndebaaGreat
open Go.RowKit
set_option linter.unusedVariables false
theorem at5_may {c : List Int} (hm : mayC c = true) (k : Nat) : at5 c k = c.getD k 0 := if_pos hm
theorem five_row {c : List Int} (hm : mayC c = true) (z : Value) (hz : z = .int .i64 0) : (c.map (Value.int .i64) ++ List.drop c.length [z, z, z, z, z]) = [.int .i64 (at5 c 0), .int .i64 (at5 c 1), .int .i64 (at5 c 2), .int .i64 (at5 c 3), .int .i64 (at5 c 4)] := by
 subst hz
 simp only [at5_may hm]
 have h5 := (mayC_iff.1 hm).1
 match c, h5 with
 | [], _ => rfl
 | [_], _ => rfl
 | [_, _], _ => rfl
 | [_, _, _], _ => rfl
 | [_, _, _, _], _ => rfl
 | [_, _, _, _, _], _ => rfl
theorem Tryz.infoI1 : (Tryz.prog.info? 3).map (·.size) = some 1 := by kernel_rfl
theorem Tryz.info5 : (Tryz.prog.info? 183).map (·.size) = some 5 := by kernel_rfl
theorem run_copy_five (w : World) (g : Nat) (hg : g = w.heap.size) (p : Option Addr) (n cap : Nat) (c : List Int) (hN : NS w p n c) (hm : mayC c = true) :
  (Builtin.copy_ #[34, 35] 3 #[.slice (some ⟨g, 0, none⟩) 5 5, .slice p n cap]).run Tryz.prog (w.alloc (.cells #[.int .i64 0, .int .i64 0, .int .i64 0, .int .i64 0, .int .i64 0] 183)) =
   .ok (goInt n) (w.alloc (.cells #[.int .i64 (at5 c 0), .int .i64 (at5 c 1), .int .i64 (at5 c 2), .int .i64 (at5 c 3), .int .i64 (at5 c 4)] 183)) := by
 subst hg
 have hN' := hN.alloc (.cells #[.int .i64 0, .int .i64 0, .int .i64 0, .int .i64 0, .int .i64 0] 183)
 obtain ⟨hl, _, hc⟩ := hN'
 have h5 : c.length ≤ 5 := (mayC_iff.1 hm).1
 rcases hc with h0 | ⟨b, off, rfl, hc⟩
 ·subst h0
  obtain rfl : c = [] := List.eq_nil_of_length_eq_zero hl
  exact run_copy_none _ _ _ _ _ _ _ _ _ _ _ Tryz.underlying34 Tryz.infoI1 (by rfl)
 ·rw [run_copy_row (P := Tryz.prog) _ _ _ _ 3 w.heap.size 0 5 5 ⟨b, off, none⟩ n cap _ _ (c.map (Value.int .i64)) Tryz.underlying34 Tryz.infoI1 (heap_alloc_new w _) (by rw [List.length_map, hl]; exact (Nat.min_eq_left (by omega)).symm) ?_ (by simp; omega) ?_]
  ·rw [World.setRow_alloc_new]
   have e := five_row hm (.int .i64 0) rfl
   simp only [List.length_map, List.take_zero, List.nil_append, Nat.zero_add, hl]
   rw [hl] at e
   rw [e]
  ·intro j v hj
   rw [List.getElem?_map, Option.map_eq_some_iff] at hj
   obtain ⟨y, hy, rfl⟩ := hj
   obtain ⟨hj1, hx2⟩ := List.getElem?_eq_some_iff.1 hy
   have h1 := hc j (by omega)
   have h2 : c.getD j 0 = y := by simp [List.getD_eq_getElem?_getD, hy]
   rw [h2] at h1
   have h3 : (⟨b, off, none⟩ : Addr).add j = ⟨b, off + j, none⟩ := by
    by_cases hj0 : j = 0
    ·subst hj0; simp [Addr.add]
    ·simp [Addr.add, hj0]
   rw [h3]
   exact h1
  ·intro v hv
   rw [List.mem_map] at hv
   obtain ⟨y, _, rfl⟩ := hv
   rfl
set_option maxHeartbeats 400000 in
theorem numbers_any (a : Option Addr) (n cap : Nat) (c : List Int) (w : World) (hN : NS w a n c) :
  Calls Tryz.prog 162 #[.slice a n cap] w fun e w' => e = .returned (.agg #[.int .i64 (at5 c 0), .int .i64 (at5 c 1), .int .i64 (at5 c 2), .int .i64 (at5 c 3), .int .i64 (at5 c 4)]) ∧ Below w.heap.size w w' := by
 have HN := hide hN
 obtain ⟨hlen, hmax, hcells⟩ := hN
 unfold maxLen at hmax
 by_cases hm : mayC c = true
 ·have HM := hide hm
  have hk : chk c = 0 := by unfold chk; rw [if_pos hm]
  clear hlen hcells hm
  go_enter Tryz.func162, Tryz.ntmps162
  have hcp := run_copy_five (w.alloc (.cells #[.int .i64 0, .int .i64 0, .int .i64 0, .int .i64 0, .int .i64 0] 183)) (w.heap.size + 1) (by simp) a n cap c (HN.out.alloc _) HM.out
  go_wp2_with (go_at_call 77; refine (check_any _ _ _ c _ ((HN.out.alloc _).alloc _)).mono ?_; rintro e w' ⟨rfl, rfl⟩; rw [hk])
  exact bodyPost_ret (results_cell_row rfl _ _ _ _ _ _ _ rfl (heap_alloc2_old _ _ _) Tryz.underlying183 rfl Tryz.info5) rfl ⟨rfl, bel2 _ _ _⟩
 ·have hc0 : ∀ k, at5 c k = 0 := fun k => by unfold at5; rw [if_neg hm]
  have HC : Hid (∀ k, at5 c k = 0) := hc0
  have hk : chk c = 1 := by unfold chk; rw [if_neg hm]
  clear hlen hcells hm hc0
  go_enter Tryz.func162, Tryz.ntmps162
  go_wp2_with (go_at_call 77; refine (check_any _ _ _ c _ ((HN.out.alloc _).alloc _)).mono ?_; rintro e w' ⟨rfl, rfl⟩; rw [hk])
  refine bodyPost_ret (results_cell_row rfl _ _ _ _ _ _ _ rfl (heap_alloc2_old _ _ _) Tryz.underlying183 rfl Tryz.info5) rfl ⟨?_, bel2 _ _ _⟩
  rw [HC.out, HC.out, HC.out, HC.out, HC.out]
end Go.Proofs.YtkbbegbpkndebaaGreat

namespace Go.Proofs.YtkbbegbpkndebaaGreat
open Go.RowKit
set_option linter.unusedVariables false
def getZ (c : List Int) (r : Int) : Int := if 1 ≤ r ∧ r ≤ 5 then at5 c (r.toNat - 1) else 0
set_option maxHeartbeats 1000000 in
theorem Get_any (a : Option Addr) (n cap : Nat) (c : List Int) (r : Int) (w : World) (hN : NS w a n c) :
  Calls Tryz.prog 115 #[.slice a n cap, .int .i64 r] w fun e w' => e = .returned (.int .i64 (getZ c r)) ∧ Below w.heap.size w w' := by
 have HN := hide hN
 clear hN
 by_cases hr : 1 ≤ r ∧ r ≤ 5
 ·have hm := mayRep_any r w
  rw [decide_eq_true hr] at hm
  have h5 : r = 1 ∨ r = 2 ∨ r = 3 ∨ r = 4 ∨ r = 5 := by omega
  clear hr
  rcases h5 with rfl | rfl | rfl | rfl | rfl
  ·have HE : Hid (at5 c 0 = getZ c 1) := rfl
   have i0 : ∀ w : World, (Instr.index 183 (.agg #[.int .i64 (at5 c 0), .int .i64 (at5 c 1), .int .i64 (at5 c 2), .int .i64 (at5 c 3), .int .i64 (at5 c 4)]) (.int .i64 0)).run Tryz.prog w = .ok (.int .i64 (at5 c 0)) w := fun _ => by kernel_rfl
   go_enter Tryz.func115, Tryz.ntmps115
   go_wp2_with (first
    | (go_at_call 161; refine hm.mono ?_; rintro e w' ⟨rfl, rfl⟩)
    | (go_at_call 162; refine (numbers_any _ _ _ c _ HN.out).mono ?_; rintro e w1 ⟨rfl, hb1⟩; have HB1 := hide hb1; clear hb1))
   go_ret
   exact ⟨ret_int HE.out, HB1.out⟩
  ·have HE : Hid (at5 c 1 = getZ c 2) := rfl
   have i0 : ∀ w : World, (Instr.index 183 (.agg #[.int .i64 (at5 c 0), .int .i64 (at5 c 1), .int .i64 (at5 c 2), .int .i64 (at5 c 3), .int .i64 (at5 c 4)]) (.int .i64 1)).run Tryz.prog w = .ok (.int .i64 (at5 c 1)) w := fun _ => by kernel_rfl
   go_enter Tryz.func115, Tryz.ntmps115
   go_wp2_with (first
    | (go_at_call 161; refine hm.mono ?_; rintro e w' ⟨rfl, rfl⟩)
    | (go_at_call 162; refine (numbers_any _ _ _ c _ HN.out).mono ?_; rintro e w1 ⟨rfl, hb1⟩; have HB1 := hide hb1; clear hb1))
   go_ret
   exact ⟨ret_int HE.out, HB1.out⟩
  ·have HE : Hid (at5 c 2 = getZ c 3) := rfl
   have i0 : ∀ w : World, (Instr.index 183 (.agg #[.int .i64 (at5 c 0), .int .i64 (at5 c 1), .int .i64 (at5 c 2), .int .i64 (at5 c 3), .int .i64 (at5 c 4)]) (.int .i64 2)).run Tryz.prog w = .ok (.int .i64 (at5 c 2)) w := fun _ => by kernel_rfl
   go_enter Tryz.func115, Tryz.ntmps115
   go_wp2_with (first
    | (go_at_call 161; refine hm.mono ?_; rintro e w' ⟨rfl, rfl⟩)
    | (go_at_call 162; refine (numbers_any _ _ _ c _ HN.out).mono ?_; rintro e w1 ⟨rfl, hb1⟩; have HB1 := hide hb1; clear hb1))
   go_ret
   exact ⟨ret_int HE.out, HB1.out⟩
  ·have HE : Hid (at5 c 3 = getZ c 4) := rfl
   have i0 : ∀ w : World, (Instr.index 183 (.agg #[.int .i64 (at5 c 0), .int .i64 (at5 c 1), .int .i64 (at5 c 2), .int .i64 (at5 c 3), .int .i64 (at5 c 4)]) (.int .i64 3)).run Tryz.prog w = .ok (.int .i64 (at5 c 3)) w := fun _ => by kernel_rfl
   go_enter Tryz.func115, Tryz.ntmps115
   go_wp2_with (first
    | (go_at_call 161; refine hm.mono ?_; rintro e w' ⟨rfl, rfl⟩)
    | (go_at_call 162; refine (numbers_any _ _ _ c _ HN.out).mono ?_; rintro e w1 ⟨rfl, hb1⟩; have HB1 := hide hb1; clear hb1))
   go_ret
   exact ⟨ret_int HE.out, HB1.out⟩
  ·have HE : Hid (at5 c 4 = getZ c 5) := rfl
   have i0 : ∀ w : World, (Instr.index 183 (.agg #[.int .i64 (at5 c 0), .int .i64 (at5 c 1), .int .i64 (at5 c 2), .int .i64 (at5 c 3), .int .i64 (at5 c 4)]) (.int .i64 4)).run Tryz.prog w = .ok (.int .i64 (at5 c 4)) w := fun _ => by kernel_rfl
   go_enter Tryz.func115, Tryz.ntmps115
   go_wp2_with (first
    | (go_at_call 161; refine hm.mono ?_; rintro e w' ⟨rfl, rfl⟩)
    | (go_at_call 162; refine (numbers_any _ _ _ c _ HN.out).mono ?_; rintro e w1 ⟨rfl, hb1⟩; have HB1 := hide hb1; clear hb1))
   go_ret
   exact ⟨ret_int HE.out, HB1.out⟩
 ·have hm := mayRep_any r w
  rw [decide_eq_false hr] at hm
  have HE : Hid (0 = getZ c r) := by unfold Hid getZ; rw [if_neg hr]
  clear hr
  go_enter Tryz.func115, Tryz.ntmps115
  go_wp2_with (go_at_call 161; refine hm.mono ?_; rintro e w' ⟨rfl, rfl⟩)
  go_ret
  exact ⟨ret_int HE.out, Below.refl _ _⟩
end Go.Proofs.YtkbbegbpkndebaaGreat

namespace Go.Proofs.YtkbbegbpkndebaaGreat
open Go.RowKit
set_option linter.unusedVariables false
end Go.Proofs.YtkbbegbpkndebaaGreat

namespace Go.Proofs.YtkbbegbpkndebaaGreat
open Go.RowKit
set_option linter.unusedVariables false
end Go.Proofs.YtkbbegbpkndebaaGreat

namespace Go.Proofs.YtkbbegbpkndebaaGreat
open Go.RowKit
set_option linter.unusedVariables false
theorem getZ_out (c : List Int) (k : Nat) (hk : 5 ≤ k) : at5 c k = 0 := by
 unfold at5
 split
 ·next h =>
  have := (mayC_iff.1 h).1
  simp [List.getD_eq_getElem?_getD, List.getElem?_eq_none (show c.length ≤ k by omega)]
 ·rfl
set_option maxHeartbeats 400000 in
theorem get_refZ (a : Option Addr) (n cap : Nat) (c : List Int) (r : Int) (w : World) (hN : NS w a n c) :
  Calls Tryz.prog 47 #[.slice a n cap, .int .i64 r] w fun e w' => e = .returned (.int .i64 (getZ c r)) ∧ w' = w := by
 by_cases h1 : r < 1
 ·have hz : getZ c r = 0 := by unfold getZ; rw [if_neg (by omega)]
  rw [hz]
  have mb := may_ref a n cap c w hN
  clear hN hz
  rcases hm : mayC c with _ | _
  ·rw [hm] at mb
   go_enter Tryz.func47, Tryz.ntmps47
   go_wp2_with (go_at_call 30; refine mb.mono ?_; rintro e w' ⟨rfl, rfl⟩)
   go_ret
   exact ⟨rfl, rfl⟩
  ·rw [hm] at mb
   go_enter Tryz.func47, Tryz.ntmps47
   go_wp2_with (go_at_call 30; refine mb.mono ?_; rintro e w' ⟨rfl, rfl⟩)
   go_ret
   exact ⟨rfl, rfl⟩
 ·refine get_ref_as a n cap c r _ w hN (r.toNat - 1) (by omega) ?_
  unfold getZ
  split
  ·rfl
  ·exact getZ_out c _ (by omega)
end Go.Proofs.YtkbbegbpkndebaaGreat

namespace Go.Proofs.YtkbbegbpkndebaaGreat
def cmpD (a b : Dot) : Int := if lessD a b = true then -1 else if lessD b a = true then 1 else 0
theorem cmpD_lt {a b : Dot} : cmpD a b < 0 ↔ lessD a b = true := by
 unfold cmpD
 split
 ·simp [*]
 ·split <;> simp [*]
theorem putD_len {d : Dot} : ∀ {l : List Dot}, (putD l d).length ≤ l.length + 1
 | [] => by simp [putD]
 | y :: r => by
  unfold putD
  split
  ·have := putD_len (l := r) (d := d); simp; omega
  ·split <;> simp
theorem foldl_putD_len (l : List Dot) : ∀ m, (l.foldl putD m).length ≤ m.length + l.length := by
 induction l with
 | nil => intro m; simp
 | cons d r ih => intro m; have := ih (putD m d); have := putD_len (l := m) (d := d); simp; omega
theorem putD_at {d : Dot} : ∀ (k : Nat) {l : List Dot}, k ≤ l.length → (∀ i, i < k → lessD (l.getD i (0, 0)) d = true) → (k = l.length ∨ lessD (l.getD k (0, 0)) d = false) →
  putD l d = if k < l.length ∧ l.getD k (0, 0) = d then l else l.take k ++ d :: l.drop k
 | 0, [], _, _, _ => by simp [putD]
 | 0, x :: r, _, _, h => by
  have h' : lessD x d = false := by simpa using h
  unfold putD
  simp [h']
 | k + 1, [], h, _, _ => by simp at h
 | k + 1, x :: r, hk, hl, h => by
  have h0 : lessD x d = true := by simpa using hl 0 (by omega)
  have ih := putD_at (d := d) k (l := r) (by simpa using hk) (fun i hi => by simpa using hl (i + 1) (by omega)) (by simpa using h)
  unfold putD
  rw [if_pos h0, ih]
  simp only [List.length_cons, Nat.add_lt_add_iff_right, List.getD_cons_succ, List.take_succ_cons, List.drop_succ_cons, List.cons_append]
  split <;> rfl
end Go.Proofs.YtkbbegbpkndebaaGreat

namespace Go.Proofs.YtkbbegbpkndebaaGreat
open Go.RowKit
set_option linter.unusedVariables false
theorem mayTrue {r s : Int} (h1 : r ≥ 1) (h2 : r ≤ 5) (h3 : s ≥ 1) (h4 : s ≤ 1048576) : true = mayD (r, s) := (mayD_iff.2 ⟨h1, h2, h3, h4⟩).symm
theorem mayFalse {r s : Int} (h : ¬ (1 ≤ r ∧ r ≤ 5 ∧ 1 ≤ s ∧ s ≤ 1048576)) : false = mayD (r, s) := by
 symm; rw [← Bool.not_eq_true, mayD_iff]; exact h
end Go.Proofs.YtkbbegbpkndebaaGreat

namespace Go.Proofs.YtkbbegbpkndebaaGreat
open Go.RowKit
set_option linter.unusedVariables false
abbrev bxD (r s : Int) : Obj := .cells #[.int .i64 r, .int .i64 s] 33
set_option maxHeartbeats 400000 in
theorem May_any (r s : Int) (w : World) : Calls Tryz.prog 113 #[.agg #[.int .i64 r, .int .i64 s]] w fun e w' => e = .returned (.bool (mayD (r, s))) ∧ Gr w w' := by
 by_cases h1 : r ≥ 1
 ·by_cases h2 : r ≤ 5
  ·by_cases h3 : s ≥ 1
   ·by_cases h4 : s ≤ 1048576
    ·go_enter Tryz.func113, Tryz.ntmps113
     go_wp2
     go_ret
     exact ⟨retB (mayTrue h1 h2 h3 h4), (Gr.refl w).alloc _⟩
    ·go_enter Tryz.func113, Tryz.ntmps113
     go_wp2
     go_ret
     exact ⟨retB (mayFalse (by omega)), (Gr.refl w).alloc _⟩
   ·go_enter Tryz.func113, Tryz.ntmps113
    go_wp2
    go_ret
    exact ⟨retB (mayFalse (by omega)), (Gr.refl w).alloc _⟩
  ·go_enter Tryz.func113, Tryz.ntmps113
   go_wp2
   go_ret
   exact ⟨retB (mayFalse (by omega)), (Gr.refl w).alloc _⟩
 ·go_enter Tryz.func113, Tryz.ntmps113
  go_wp2
  go_ret
  exact ⟨retB (mayFalse (by omega)), (Gr.refl w).alloc _⟩
set_option maxHeartbeats 400000 in
theorem MayR_any (r s : Int) (w : World) : Calls Tryz.prog 44 #[.agg #[.int .i64 r, .int .i64 s]] w fun e w' => e = .returned (.bool (mayD (r, s))) ∧ Gr w w' := by
 by_cases h1 : r ≥ 1
 ·by_cases h2 : r ≤ 5
  ·by_cases h3 : s ≥ 1
   ·by_cases h4 : s ≤ 1048576
    ·go_enter Tryz.func44, Tryz.ntmps44
     go_wp2
     go_ret
     exact ⟨retB (mayTrue h1 h2 h3 h4), (Gr.refl w).alloc _⟩
    ·go_enter Tryz.func44, Tryz.ntmps44
     go_wp2
     go_ret
     exact ⟨retB (mayFalse (by omega)), (Gr.refl w).alloc _⟩
   ·go_enter Tryz.func44, Tryz.ntmps44
    go_wp2
    go_ret
    exact ⟨retB (mayFalse (by omega)), (Gr.refl w).alloc _⟩
  ·go_enter Tryz.func44, Tryz.ntmps44
   go_wp2
   go_ret
   exact ⟨retB (mayFalse (by omega)), (Gr.refl w).alloc _⟩
 ·go_enter Tryz.func44, Tryz.ntmps44
  go_wp2
  go_ret
  exact ⟨retB (mayFalse (by omega)), (Gr.refl w).alloc _⟩
set_option maxHeartbeats 400000 in
theorem LessR_any (r s r' s' : Int) (w : World) : Calls Tryz.prog 182 #[.agg #[.int .i64 r, .int .i64 s], .agg #[.int .i64 r', .int .i64 s']] w fun e w' => e = .returned (.bool (lessD (r, s) (r', s'))) ∧ Gr w w' := by
 by_cases h1 : r = r'
 ·subst h1
  have HE : Hid (decide (s < s') = lessD (r, s) (r, s')) := by unfold Hid lessD; simp
  go_enter Tryz.func182, Tryz.ntmps182
  go_wp2
  go_ret
  exact ⟨retB HE.out, ((Gr.refl w).alloc _).alloc _⟩
 ·have HE : Hid (decide (r < r') = lessD (r, s) (r', s')) := by unfold Hid lessD; simp [h1]
  go_enter Tryz.func182, Tryz.ntmps182
  go_wp2
  go_ret
  exact ⟨retB HE.out, ((Gr.refl w).alloc _).alloc _⟩
def cmpI (x y : Int) : Int := if x < y then -1 else if x > y then 1 else 0
theorem nan_any (x : Int) (w : World) : Calls Tryz.prog 259 #[.int .i64 x] w fun e w' => e = .returned (.bool false) ∧ w' = w := by
 go_enter Tryz.func259, Tryz.ntmps259
 go_wp2
 go_ret
 exact ⟨retB (by simp), rfl⟩
theorem cmpI_any (x y : Int) (w : World) : Calls Tryz.prog 240 #[.int .i64 x, .int .i64 y] w fun e w' => e = .returned (.int .i64 (cmpI x y)) ∧ w' = w := by
 by_cases h1 : x < y
 ·have HE : Hid (-1 = cmpI x y) := by unfold Hid cmpI; rw [if_pos h1]
  go_enter Tryz.func240, Tryz.ntmps240
  go_wp2_with (go_at_call 259; refine (nan_any _ _).mono ?_; rintro e w' ⟨rfl, rfl⟩)
  go_ret
  exact ⟨ret_int HE.out, rfl⟩
 ·by_cases h2 : x > y
  ·have HE : Hid (1 = cmpI x y) := by unfold Hid cmpI; rw [if_neg h1, if_pos h2]
   go_enter Tryz.func240, Tryz.ntmps240
   go_wp2_with (go_at_call 259; refine (nan_any _ _).mono ?_; rintro e w' ⟨rfl, rfl⟩)
   go_ret
   exact ⟨ret_int HE.out, rfl⟩
  ·have HE : Hid (0 = cmpI x y) := by unfold Hid cmpI; rw [if_neg h1, if_neg h2]
   go_enter Tryz.func240, Tryz.ntmps240
   go_wp2_with (go_at_call 259; refine (nan_any _ _).mono ?_; rintro e w' ⟨rfl, rfl⟩)
   go_ret
   exact ⟨ret_int HE.out, rfl⟩
def orI (x y : Int) : Int := if x = 0 then y else x
set_option maxHeartbeats 400000 in
theorem or_any (w : World) (g : Nat) (x y : Int) (c0 : w.cell? ⟨g, 0, none⟩ = some (.int .i64 x)) (c1 : w.cell? ⟨g, 1, none⟩ = some (.int .i64 y)) :
  Calls Tryz.prog 239 #[.slice (some ⟨g, 0, none⟩) 2 2] w fun e w' => e = .returned (.int .i64 (orI x y)) ∧ w' = w := by
 by_cases h1 : x = 0
 ·by_cases h2 : y = 0
  ·have HE : Hid (0 = orI x y) := by unfold Hid orI; rw [if_pos h1, h2]
   go_enter Tryz.func239, Tryz.ntmps239
   go_wp2
   refine wp_loop_rounds 3 ?_
   rw [rounds_succ]
   go_wp2
   rw [rounds_succ]
   go_wp2
   rw [rounds_succ]
   go_wp2
   go_ret
   exact ⟨ret_int HE.out, rfl⟩
  ·have HE : Hid (y = orI x y) := by unfold Hid orI; rw [if_pos h1]
   go_enter Tryz.func239, Tryz.ntmps239
   go_wp2
   refine wp_loop_rounds 3 ?_
   rw [rounds_succ]
   go_wp2
   rw [rounds_succ]
   go_wp2
   go_ret
   exact ⟨ret_int HE.out, rfl⟩
 ·have HE : Hid (x = orI x y) := by unfold Hid orI; rw [if_neg h1]
  go_enter Tryz.func239, Tryz.ntmps239
  go_wp2
  refine wp_loop_rounds 3 ?_
  rw [rounds_succ]
  go_wp2
  go_ret
  exact ⟨ret_int HE.out, rfl⟩
theorem orI_is (a b : Dot) : orI (cmpI a.1 b.1) (cmpI a.2 b.2) = cmpD a b := by
 obtain ⟨a1, a2⟩ := a
 obtain ⟨b1, b2⟩ := b
 unfold orI cmpI cmpD lessD
 simp only [decide_eq_true_iff]
 split <;> split <;> (try split) <;> (try split) <;> (try split) <;> omega
set_option maxHeartbeats 1000000 in
theorem compare_any (x y : Dot) (w : World) : Calls Tryz.prog 222 #[.agg #[.int .i64 x.1, .int .i64 x.2], .agg #[.int .i64 y.1, .int .i64 y.2]] w fun e w' => e = .returned (.int .i64 (cmpD x y)) ∧ Gr w w' := by
 have HE := hide (orI_is x y)
 obtain ⟨r, s⟩ := x
 obtain ⟨r', s'⟩ := y
 have HU := hide (((Gr.refl w).alloc (bxD r s)).alloc (bxD r' s'))
 go_enter Tryz.func222, Tryz.ntmps222
 go_wp2
 have c0 : ((w.alloc (bxD r s)).alloc (bxD r' s')).cell? ⟨w.heap.size, 0, none⟩ = some (.int .i64 r) := cell_old _ (cell_new w _ _ _ rfl 0 _ rfl)
 have c1 : ((w.alloc (bxD r s)).alloc (bxD r' s')).cell? ⟨w.heap.size, 1, none⟩ = some (.int .i64 s) := cell_old _ (cell_new w _ _ _ rfl 1 _ rfl)
 have c2 : ((w.alloc (bxD r s)).alloc (bxD r' s')).cell? ⟨w.heap.size + 1, 0, none⟩ = some (.int .i64 r') := cell_new _ _ _ _ (by simp) 0 _ rfl
 have c3 : ((w.alloc (bxD r s)).alloc (bxD r' s')).cell? ⟨w.heap.size + 1, 1, none⟩ = some (.int .i64 s') := cell_new _ _ _ _ (by simp) 1 _ rfl
 generalize ((w.alloc (bxD r s)).alloc (bxD r' s')) = u at *
 refine wp_region_held_drew (S := fun W => Gr u W) (by kernel_rfl) ((Gr.refl u).drew) (fun hS0 => ?_)
 refine tkJ 0 5 hS0 ?_; simp only [ly]
 refine tkL 1 6 hS0 ?h ?_; case h => (intro W hW; have e0 := bcell hW.bel c0; have e1 := bcell hW.bel c1; have e2 := bcell hW.bel c2; have e3 := bcell hW.bel c3; clear hW; go_simp; try rfl); simp only [ly]
 refine tkJ 2 7 hS0 ?_; simp only [ly]
 refine tkL 3 8 hS0 ?h ?_; case h => (intro W hW; have e0 := bcell hW.bel c0; have e1 := bcell hW.bel c1; have e2 := bcell hW.bel c2; have e3 := bcell hW.bel c3; clear hW; go_simp; try rfl); simp only [ly]
 refine tkJ 5 10 hS0 ?_; simp only [ly]
 refine tkL 6 11 hS0 ?h ?_; case h => (intro W hW; have e0 := bcell hW.bel c0; have e1 := bcell hW.bel c1; have e2 := bcell hW.bel c2; have e3 := bcell hW.bel c3; clear hW; go_simp; try rfl); simp only [ly]
 refine tkJ 7 12 hS0 ?_; simp only [ly]
 refine tkL 8 13 hS0 ?h ?_; case h => (intro W hW; have e0 := bcell hW.bel c0; have e1 := bcell hW.bel c1; have e2 := bcell hW.bel c2; have e3 := bcell hW.bel c3; clear hW; go_simp; try rfl); simp only [ly]
 refine wpAnyH_ready (rs := [4]) (by kernel_rfl) (by simp) ?_
 refine AllReadyH.cons rfl (fun K hK => ?_) AllReadyH.nil
 go_simp
 refine (cmpI_any _ _ _).mono ?_
 rintro e w' ⟨rfl, hw⟩
 subst hw
 try go_wp2_with fail
 refine hK.out _ _ ?hs9 (fun hS1 => ?_)
 case hs9 => exact hS0
 clear hK K
 try simp only [ly]
 refine wpAnyH_ready (rs := [9]) (by kernel_rfl) (by simp) ?_
 refine AllReadyH.cons rfl (fun K hK => ?_) AllReadyH.nil
 go_simp
 refine (cmpI_any _ _ _).mono ?_
 rintro e w' ⟨rfl, hw⟩
 subst hw
 try go_wp2_with fail
 refine hK.out _ _ ?hs10 (fun hS2 => ?_)
 case hs10 => exact hS1
 clear hK K
 try simp only [ly]
 refine wpAnyH_ready (rs := [10]) (by kernel_rfl) (by simp) ?_
 refine AllReadyH.cons rfl (fun K hK => ?_) AllReadyH.nil
 go_simp
 refine hK.out _ _ ?hs11 (fun hS3 => ?_)
 case hs11 => exact hS2.alloc _
 clear hK K
 try simp only [ly]
 refine wpAnyH_ready (rs := [11]) (by kernel_rfl) (by simp) ?_
 refine AllReadyH.cons rfl (fun K hK => ?_) AllReadyH.nil
 go_simp
 refine Calls.mono (or_any _ _ (cmpI r r') (cmpI s s') ?_ ?_) ?_
 ·exact cell_new _ _ _ _ rfl 0 _ rfl
 ·exact cell_new _ _ _ _ rfl 1 _ rfl
 rintro e w' ⟨rfl, hw⟩
 subst hw
 try go_wp2_with fail
 refine hK.out _ _ ?hs12 (fun hS4 => ?_)
 case hs12 => exact hS3
 clear hK K
 try simp only [ly]
 refine tkJ 12 4 hS4 ?_; simp only [ly]
 refine wpAnyH_done (by kernel_rfl) ?_ _
 go_wp2
 go_ret
 exact ⟨ret_int HE.out, HU.out.trans (by assumption)⟩
set_option maxHeartbeats 400000 in
theorem Less_any (x y : Dot) (w : World) : Calls Tryz.prog 229 #[.agg #[.int .i64 x.1, .int .i64 x.2], .agg #[.int .i64 y.1, .int .i64 y.2]] w fun e w' => e = .returned (.bool (lessD x y)) ∧ Gr w w' := by
 have HC := hide (fun W => compare_any x y W)
 have HE : Hid (decide (cmpD x y < 0) = lessD x y) := by unfold Hid; rw [Bool.eq_iff_iff, decide_eq_true_iff]; exact cmpD_lt
 obtain ⟨r, s⟩ := x
 obtain ⟨r', s'⟩ := y
 have HU := hide (((Gr.refl w).alloc (bxD r s)).alloc (bxD r' s'))
 generalize cmpD (r, s) (r', s') = c at HC HE
 go_enter Tryz.func229, Tryz.ntmps229
 go_wp2_with (go_at_call 222; refine (HC.out _).mono ?_; rintro e w' ⟨rfl, hg⟩)
 go_ret
 exact ⟨retB HE.out, HU.out.trans hg⟩
end Go.Proofs.YtkbbegbpkndebaaGreat

namespace Go.Proofs.YtkbbegbpkndebaaGreat
open Go.RowKit
set_option linter.unusedVariables false
theorem eqD (r s r' s' : Int) (b : Bool) (hb : b = decide (r = r' ∧ s = s')) (w : World) : (Op.equalIn 10000 33 (.agg #[.int .i64 r, .int .i64 s]) (.agg #[.int .i64 r', .int .i64 s'])).run Tryz.prog w = .ok b w := by
 have u3 := Tryz.underlying3
 have a3 := Tryz.isAgg3
 have z3 := Tryz.sizeOf3
 have hS : Tryz.prog.underlying 33 = some (.struct (Tryz.prog.fieldsOf 33)) := by kernel_rfl
 have hp : Tryz.prog.stoodInHeld 33 = false := by kernel_rfl
 rw [show (10000 : Nat) = 9999 + 1 from rfl, run_equalIn_agg w 9999 33 _ _ hS hp]
 simp only [Program.fieldsOf, Tryz.underlying33]
 subst hb
 by_cases h1 : r = r' <;> by_cases h2 : s = s'
 ·subst h1 h2; go_simp
 ·subst h1
  have h2' : (s == s') = false := by simpa using h2
  simp only [h2, and_false, decide_false]
  go_simp
 ·have h1' : (r == r') = false := by simpa using h1
  simp only [h1, false_and, decide_false]
  go_simp
 ·have h1' : (r == r') = false := by simpa using h1
  simp only [h1, false_and, decide_false]
  go_simp
theorem eqD_drop {l m : List Dot} {k : Nat} (h : k < l.length) (h2 : k < m.length) : (l.drop k = m.drop k) ↔ (l.getD k (0, 0) = m.getD k (0, 0) ∧ l.drop (k + 1) = m.drop (k + 1)) := by
 rw [List.drop_eq_getElem_cons h, List.drop_eq_getElem_cons h2, List.cons.injEq]
 simp [List.getD_eq_getElem?_getD, h, h2]
theorem allD_drop {l : List Dot} {k : Nat} (h : k < l.length) : (l.drop k).all mayD = (mayD (l.getD k (0, 0)) && (l.drop (k + 1)).all mayD) := by
 rw [List.drop_eq_getElem_cons h, List.all_cons]
 simp [List.getD_eq_getElem?_getD, h]
set_option maxHeartbeats 400000 in
theorem All_any (a : Option Addr) (n cap : Nat) (l : List Dot) (w : World) (hD : DS w a n l) :
  Calls Tryz.prog 158 #[.slice a n cap] w fun e w' => e = .returned (.bool (l.all mayD)) ∧ Below w.heap.size w w' := by
 obtain ⟨hlen, hmax, hcells⟩ := hD
 unfold maxLen at hmax
 have HL := hide hlen
 have HC := hide hcells
 clear hlen hcells
 go_enter Tryz.func158, Tryz.ntmps158
 go_wp2
 go_loopw [3] (fun i wr => ∃ k : Nat, k ≤ n ∧ i = .int .i64 k ∧ Below w.heap.size w wr ∧ Hid (l.all mayD = (l.drop k).all mayD)) (fun i _ => n - (intOf i).toNat)
 case atStart => exact ⟨0, by omega, rfl, Below.refl _ _, by unfold Hid; simp⟩
 case round =>
  obtain ⟨k, hk, rfl, hbel, hH⟩ := hrel
  by_cases hlt : k < n
  ·rcases HC.out with h0 | ⟨b, off, rfl, hc⟩
   ·omega
   ·have c0 := bcell hbel (hc k hlt).1
    have c1 := bcell hbel (hc k hlt).2
    have hst : Hid (l.all mayD = (mayD (l.getD k (0, 0)) && (l.drop (k + 1)).all mayD)) := by
     have h2 := hH.out
     rw [allD_drop (by rw [HL.out]; exact hlt)] at h2
     exact h2
    clear hc hH
    generalize l.getD k (0, 0) = x at c0 c1 hst
    obtain ⟨r, s⟩ := x
    have HM := hide (fun W => MayR_any r s W)
    rcases hm : mayD (r, s) with _ | _
    ·have HE : Hid (false = l.all mayD) := by have h2 := hst.out; rw [hm] at h2; unfold Hid; simpa using h2.symm
     rw [hm] at HM
     clear hst hm
     go_wp2_with (go_at_call 44; refine (HM.out _).mono ?_; rintro e w' ⟨rfl, hg⟩)
     go_ret
     exact ⟨retB HE.out, bel_next hbel hg.bel⟩
    ·have hst2 : Hid (l.all mayD = (l.drop (k + 1)).all mayD) := by have h2 := hst.out; rw [hm] at h2; unfold Hid; simpa using h2
     rw [hm] at HM
     clear hst hm
     go_wp2_with (go_at_call 44; refine (HM.out _).mono ?_; rintro e w' ⟨rfl, hg⟩)
     go_roundw
     case rel => exact ⟨k + 1, by omega, by go_num, bel_next hbel hg.bel, hst2⟩
     case measure => simp [intOf]; omega
  ·have hkl : k = n := by omega
   subst hkl
   have HE : Hid (true = l.all mayD) := by
    have h2 := hH.out
    rw [List.drop_of_length_le (by rw [HL.out]; exact Nat.le_refl _)] at h2
    unfold Hid; rw [h2]; rfl
   clear hH
   go_wp2
   go_ret
   exact ⟨retB HE.out, hbel⟩
set_option maxHeartbeats 1000000 in
theorem Dots_any (a a' : Option Addr) (n cap n' cap' : Nat) (c d : List Dot) (w : World) (hN : DS w a n c) (hN' : DS w a' n' d) :
  Calls Tryz.prog 137 #[.slice a n cap, .slice a' n' cap'] w fun e w' => e = .returned (.bool (decide (c = d))) ∧ Below w.heap.size w w' := by
 obtain ⟨hlen, hmax, hcells⟩ := hN
 obtain ⟨hlen', hmax', hcells'⟩ := hN'
 unfold maxLen at hmax hmax'
 by_cases hnn : n = n'
 ·subst hnn
  have HL := hide hlen
  have HL' := hide hlen'
  have HC := hide hcells
  have HC' := hide hcells'
  clear hlen hlen' hcells hcells'
  go_enter Tryz.func137, Tryz.ntmps137
  go_wp2
  go_loopw [5] (fun i wr => ∃ k : Nat, k ≤ n ∧ i = .int .i64 k ∧ Below w.heap.size w wr ∧ Hid ((c = d) ↔ (c.drop k = d.drop k))) (fun i _ => n - (intOf i).toNat)
  case atStart => exact ⟨0, by omega, rfl, Below.refl _ _, by unfold Hid; simp⟩
  case round =>
   obtain ⟨k, hk, rfl, hbel, hH⟩ := hrel
   by_cases hlt : k < n
   ·rcases HC.out with h0 | ⟨b, off, rfl, hc⟩
    ·omega
    ·rcases HC'.out with h0 | ⟨b', off', rfl, hc'⟩
     ·omega
     ·have c0 := bcell hbel (hc k hlt).1
      have c1 := bcell hbel (hc k hlt).2
      have c2 := bcell hbel (hc' k hlt).1
      have c3 := bcell hbel (hc' k hlt).2
      have hst : Hid ((c = d) ↔ (c.getD k (0, 0) = d.getD k (0, 0) ∧ c.drop (k + 1) = d.drop (k + 1))) := by
       have h2 := hH.out
       rw [eqD_drop (by rw [HL.out]; exact hlt) (by rw [HL'.out]; exact hlt)] at h2
       exact h2
      have HBel := hide hbel
      clear hc hc' hH hbel
      generalize c.getD k (0, 0) = x at c0 c1 hst
      generalize d.getD k (0, 0) = y at c2 c3 hst
      obtain ⟨r, s⟩ := x
      obtain ⟨p, q⟩ := y
      by_cases hxy : r = p ∧ s = q
      ·have hst2 : Hid ((c = d) ↔ (c.drop (k + 1) = d.drop (k + 1))) := by have h2 := hst.out; unfold Hid; rw [h2]; simp [hxy]
       have hq := fun w => eqD r s p q true (by symm; exact decide_eq_true hxy) w
       clear hst hxy
       go_wp2
       refine wp_region_held_drew (S := fun W => Below wr.heap.size wr W) (by kernel_rfl) ((Below.refl _ wr).drew) (fun hS0 => ?_)
       refine tkJ 0 17 hS0 ?_; simp only [ly]
       refine tkJ 1 18 hS0 ?_; simp only [ly]
       refine tkJ 2 19 hS0 ?_; simp only [ly]
       refine tkL 3 20 hS0 ?h ?_; case h => (intro W hW; have e0 := bcell hW c0; have e1 := bcell hW c1; have e2 := bcell hW c2; have e3 := bcell hW c3; clear hW; go_simp; try rfl); simp only [ly]
       refine tkJ 4 21 hS0 ?_; simp only [ly]
       refine tkJ 5 22 hS0 ?_; simp only [ly]
       refine tkJ 6 23 hS0 ?_; simp only [ly]
       refine tkL 7 24 hS0 ?h ?_; case h => (intro W hW; have e0 := bcell hW c0; have e1 := bcell hW c1; have e2 := bcell hW c2; have e3 := bcell hW c3; clear hW; go_simp; try rfl); simp only [ly]
       refine tkJ 8 25 hS0 ?_; simp only [ly]
       refine wpAnyH_done (by kernel_rfl) ?_ _
       go_wp2
       go_roundw
       case rel => exact ⟨k + 1, by omega, by go_num, bel_next HBel.out (by assumption), hst2⟩
       case measure => simp [intOf]; omega
      ·have HE : Hid (false = decide (c = d)) := by have h2 := hst.out; unfold Hid; symm; rw [decide_eq_false_iff_not, h2]; rintro ⟨h, _⟩; exact hxy ⟨congrArg Prod.fst h, congrArg Prod.snd h⟩
       have hq := fun w => eqD r s p q false (by symm; exact decide_eq_false hxy) w
       clear hst hxy
       go_wp2
       refine wp_region_held_drew (S := fun W => Below wr.heap.size wr W) (by kernel_rfl) ((Below.refl _ wr).drew) (fun hS0 => ?_)
       refine tkJ 0 17 hS0 ?_; simp only [ly]
       refine tkJ 1 18 hS0 ?_; simp only [ly]
       refine tkJ 2 19 hS0 ?_; simp only [ly]
       refine tkL 3 20 hS0 ?h ?_; case h => (intro W hW; have e0 := bcell hW c0; have e1 := bcell hW c1; have e2 := bcell hW c2; have e3 := bcell hW c3; clear hW; go_simp; try rfl); simp only [ly]
       refine tkJ 4 21 hS0 ?_; simp only [ly]
       refine tkJ 5 22 hS0 ?_; simp only [ly]
       refine tkJ 6 23 hS0 ?_; simp only [ly]
       refine tkL 7 24 hS0 ?h ?_; case h => (intro W hW; have e0 := bcell hW c0; have e1 := bcell hW c1; have e2 := bcell hW c2; have e3 := bcell hW c3; clear hW; go_simp; try rfl); simp only [ly]
       refine tkJ 8 25 hS0 ?_; simp only [ly]
       refine wpAnyH_done (by kernel_rfl) ?_ _
       go_wp2
       go_ret
       exact ⟨retB HE.out, bel_next HBel.out (by assumption)⟩
   ·have hkl : k = n := by omega
    subst hkl
    have HE : Hid (true = decide (c = d)) := by
     have h2 := hH.out
     rw [List.drop_of_length_le (by rw [HL.out]; exact Nat.le_refl _), List.drop_of_length_le (by rw [HL'.out]; exact Nat.le_refl _)] at h2
     unfold Hid; simp [h2]
    clear hH
    go_wp2
    go_ret
    exact ⟨retB HE.out, hbel⟩
 ·have HE : Hid (false = decide (c = d)) := by
   unfold Hid; symm; rw [decide_eq_false_iff_not]; intro hh; subst hh; omega
  have hnn' : ¬ ((n : Int) = n') := by omega
  clear hlen hlen' hcells hcells'
  go_enter Tryz.func137, Tryz.ntmps137
  go_wp2
  go_ret
  exact ⟨retB HE.out, Below.refl _ _⟩
set_option maxHeartbeats 1000000 in
theorem equalD_any (a a' : Option Addr) (n cap n' cap' : Nat) (c d : List Dot) (w : World) (hN : DS w a n c) (hN' : DS w a' n' d) :
  Calls Tryz.prog 149 #[.slice a n cap, .slice a' n' cap'] w fun e w' => e = .returned (.bool (decide (c = d))) ∧ Below w.heap.size w w' := by
 obtain ⟨hlen, hmax, hcells⟩ := hN
 obtain ⟨hlen', hmax', hcells'⟩ := hN'
 unfold maxLen at hmax hmax'
 by_cases hnn : n = n'
 ·subst hnn
  have HL := hide hlen
  have HL' := hide hlen'
  have HC := hide hcells
  have HC' := hide hcells'
  clear hlen hlen' hcells hcells'
  go_enter Tryz.func149, Tryz.ntmps149
  go_wp2
  go_loopw [13] (fun i wr => ∃ k : Nat, k ≤ n ∧ i = .int .i64 k ∧ Below w.heap.size w wr ∧ Hid ((c = d) ↔ (c.drop k = d.drop k))) (fun i _ => n - (intOf i).toNat)
  case atStart => exact ⟨0, by omega, rfl, Below.refl _ _, by unfold Hid; simp⟩
  case round =>
   obtain ⟨k, hk, rfl, hbel, hH⟩ := hrel
   by_cases hlt : k < n
   ·rcases HC.out with h0 | ⟨b, off, rfl, hc⟩
    ·omega
    ·rcases HC'.out with h0 | ⟨b', off', rfl, hc'⟩
     ·omega
     ·have c0 := bcell hbel (hc k hlt).1
      have c1 := bcell hbel (hc k hlt).2
      have c2 := bcell hbel (hc' k hlt).1
      have c3 := bcell hbel (hc' k hlt).2
      have hst : Hid ((c = d) ↔ (c.getD k (0, 0) = d.getD k (0, 0) ∧ c.drop (k + 1) = d.drop (k + 1))) := by
       have h2 := hH.out
       rw [eqD_drop (by rw [HL.out]; exact hlt) (by rw [HL'.out]; exact hlt)] at h2
       exact h2
      have HBel := hide hbel
      clear hc hc' hH hbel
      generalize c.getD k (0, 0) = x at c0 c1 hst
      generalize d.getD k (0, 0) = y at c2 c3 hst
      obtain ⟨r, s⟩ := x
      obtain ⟨p, q⟩ := y
      by_cases hxy : r = p ∧ s = q
      ·have hst2 : Hid ((c = d) ↔ (c.drop (k + 1) = d.drop (k + 1))) := by have h2 := hst.out; unfold Hid; rw [h2]; simp [hxy]
       have hq := fun w => eqD r s p q true (by symm; exact decide_eq_true hxy) w
       clear hst hxy
       go_wp2
       refine wp_region_held_drew (S := fun W => Below wr.heap.size wr W) (by kernel_rfl) ((Below.refl _ wr).drew) (fun hS0 => ?_)
       refine tkJ 0 16 hS0 ?_; simp only [ly]
       refine tkJ 1 17 hS0 ?_; simp only [ly]
       refine tkJ 2 18 hS0 ?_; simp only [ly]
       refine tkL 3 19 hS0 ?h ?_; case h => (intro W hW; have e0 := bcell hW c0; have e1 := bcell hW c1; have e2 := bcell hW c2; have e3 := bcell hW c3; clear hW; go_simp; try rfl); simp only [ly]
       refine tkJ 4 20 hS0 ?_; simp only [ly]
       refine tkJ 5 21 hS0 ?_; simp only [ly]
       refine tkJ 6 22 hS0 ?_; simp only [ly]
       refine tkL 7 23 hS0 ?h ?_; case h => (intro W hW; have e0 := bcell hW c0; have e1 := bcell hW c1; have e2 := bcell hW c2; have e3 := bcell hW c3; clear hW; go_simp; try rfl); simp only [ly]
       refine tkJ 8 24 hS0 ?_; simp only [ly]
       refine wpAnyH_done (by kernel_rfl) ?_ _
       go_wp2
       go_roundw
       case rel => exact ⟨k + 1, by omega, by go_num, bel_next HBel.out (by assumption), hst2⟩
       case measure => simp [intOf]; omega
      ·have HE : Hid (false = decide (c = d)) := by have h2 := hst.out; unfold Hid; symm; rw [decide_eq_false_iff_not, h2]; rintro ⟨h, _⟩; exact hxy ⟨congrArg Prod.fst h, congrArg Prod.snd h⟩
       have hq := fun w => eqD r s p q false (by symm; exact decide_eq_false hxy) w
       clear hst hxy
       go_wp2
       refine wp_region_held_drew (S := fun W => Below wr.heap.size wr W) (by kernel_rfl) ((Below.refl _ wr).drew) (fun hS0 => ?_)
       refine tkJ 0 16 hS0 ?_; simp only [ly]
       refine tkJ 1 17 hS0 ?_; simp only [ly]
       refine tkJ 2 18 hS0 ?_; simp only [ly]
       refine tkL 3 19 hS0 ?h ?_; case h => (intro W hW; have e0 := bcell hW c0; have e1 := bcell hW c1; have e2 := bcell hW c2; have e3 := bcell hW c3; clear hW; go_simp; try rfl); simp only [ly]
       refine tkJ 4 20 hS0 ?_; simp only [ly]
       refine tkJ 5 21 hS0 ?_; simp only [ly]
       refine tkJ 6 22 hS0 ?_; simp only [ly]
       refine tkL 7 23 hS0 ?h ?_; case h => (intro W hW; have e0 := bcell hW c0; have e1 := bcell hW c1; have e2 := bcell hW c2; have e3 := bcell hW c3; clear hW; go_simp; try rfl); simp only [ly]
       refine tkJ 8 24 hS0 ?_; simp only [ly]
       refine wpAnyH_done (by kernel_rfl) ?_ _
       go_wp2
       go_ret
       exact ⟨retB HE.out, bel_next HBel.out (by assumption)⟩
   ·have hkl : k = n := by omega
    subst hkl
    have HE : Hid (true = decide (c = d)) := by
     have h2 := hH.out
     rw [List.drop_of_length_le (by rw [HL.out]; exact Nat.le_refl _), List.drop_of_length_le (by rw [HL'.out]; exact Nat.le_refl _)] at h2
     unfold Hid; simp [h2]
    clear hH
    go_wp2
    go_ret
    exact ⟨retB HE.out, hbel⟩
 ·have HE : Hid (false = decide (c = d)) := by
   unfold Hid; symm; rw [decide_eq_false_iff_not]; intro hh; subst hh; omega
  have hnn' : ¬ ((n : Int) = n') := by omega
  clear hlen hlen' hcells hcells'
  go_enter Tryz.func149, Tryz.ntmps149
  go_wp2
  go_ret
  exact ⟨retB HE.out, Below.refl _ _⟩
end Go.Proofs.YtkbbegbpkndebaaGreat

namespace Go.Proofs.YtkbbegbpkndebaaGreat
open Go.RowKit
set_option linter.unusedVariables false
theorem append_full_wp {w : World} {o : Oper} {a : Act} {K : Act → World → Prop} {Q : Exit → Act → World → Prop} (s x : Operand)
  (ho : o.op = .call { callee := .builtin .append, args := #[s, x], argTypes := #[123, 123] })
  (g n : Nat) (l m : List Dot) (hs : a.eval s = .slice (some ⟨g, 0, none⟩) n n) (hS : DS w (some ⟨g, 0, none⟩) n l) (p : Addr) (len cap : Nat) (hx : a.eval x = .slice (some p) len cap) (hB : DS w (some p) len m) (hlen : 0 < len)
  (hbig : l.length + m.length ≤ 1000000)
  (h : ∀ v' w', OwnD w.heap.size w' v' (l ++ m) → Below w.heap.size w w' → K (a.put o.dst v') w') : Oper.wp Tryz.prog o a w K Q := by
 obtain ⟨i0, hi, hz0, hz1, hz2⟩ := info_parts Tryz.infoDot
 have hcells : ∀ (q : Addr) (k : Nat) (l : List Dot), DS w (some q) k l → ∀ j u, (flatD l)[j]? = some u → w.cell? (q.add j) = some u := by
  intro q k l hD j u hj
  obtain ⟨g1, g2, g4⟩ := hD
  have hjl : j < (flatD l).length := (List.getElem?_eq_some_iff.1 hj).1
  rw [flatD_len] at hjl
  rcases g4 with h0 | ⟨b, off, hh, hc⟩
  ·omega
  ·cases hh
   have k := hc (j / 2) (by omega)
   have f := flatD_get l (j / 2) (by omega)
   have h3 : (⟨b, off, none⟩ : Addr).add j = ⟨b, off + j, none⟩ := by
    by_cases hj0 : j = 0
    ·subst hj0; simp [Addr.add]
    ·simp [Addr.add, hj0]
   rw [h3]
   rcases Nat.mod_two_eq_zero_or_one j with e | e
   ·have e2 : j = j / 2 * 2 := by omega
    rw [e2, f.1] at hj
    rw [show (⟨b, off + j, none⟩ : Addr) = ⟨b, off + j / 2 * 2, none⟩ by rw [← e2], k.1]
    exact hj
   ·have e2 : j = j / 2 * 2 + 1 := by omega
    rw [e2, f.2] at hj
    rw [show (⟨b, off + j, none⟩ : Addr) = ⟨b, off + j / 2 * 2 + 1, none⟩ by rw [Nat.add_assoc, ← e2], k.2]
    exact hj
 obtain ⟨v', w', hr, h2, h3⟩ := run_append_arg_grows (P := Tryz.prog) (w := w) 123 o.type 33 i0 (.agg #[.int .i64 0, .int .i64 0]) 2 16 Tryz.underlying123 hi hz0 hz1 hz2 rfl (by decide) ⟨g, 0, none⟩ n n (flatD l) (by rw [flatD_len, hS.1]) (hcells _ _ _ hS) p len cap (flatD m) (by rw [flatD_len, hB.1]) (hcells _ _ _ hB) (by omega) (by unfold maxLen; have := hS.1; have := hB.1; omega) (by have := hS.1; have := hB.1; omega)
 have e : n + len = (l ++ m).length := by rw [List.length_append, hS.1, hB.1]
 rw [e, ← flatD_app] at h2
 have hk := h v' w' h2 ((Below.refl _ w).grown h3 (Nat.le_refl _) (fun j hj => by cases hj))
 unfold Oper.wp execOp
 simp only [ho, resolve, invoke, builtin, Sem.run_bind, Sem.run_pure, Result.andThen_ok, List.map_toArray, List.map_cons, List.map_nil, hs, hx, hr]
 exact hk
set_option maxHeartbeats 4000000 in
set_option maxRecDepth 100000 in
theorem PutR_any (N : Nat) (v : Value) (l : List Dot) (d : Dot) (w : World) (hO : OwnD N w v l) (hN : N ≤ w.heap.size) (hn : l.length ≤ 100000) :
  Calls Tryz.prog 131 #[v, .agg #[.int .i64 d.1, .int .i64 d.2]] w fun e w' => ∃ v', e = .returned v' ∧ OwnD N w' v' (putD l d) ∧ Below w.heap.size w w' := by
 obtain ⟨p, q⟩ := d
 have hu0 : (w.alloc (bxD p q)).cell? ⟨w.heap.size, 0, none⟩ = some (.int .i64 p) := cell_new w _ _ _ rfl 0 _ rfl
 have hu1 : (w.alloc (bxD p q)).cell? ⟨w.heap.size, 1, none⟩ = some (.int .i64 q) := cell_new w _ _ _ rfl 1 _ rfl
 have HU := hide (bel1 w (bxD p q))
 rcases hO.row with ⟨rfl, rfl⟩ | ⟨g, cap, rfl, hNg, hg, hlc, hcm, _⟩
 ·obtain ⟨l, hl⟩ : ∃ l : List Dot, l = [] := ⟨_, rfl⟩
  obtain ⟨k, hk⟩ : ∃ k : Nat, k = 0 := ⟨_, rfl⟩
  have HLk : Hid (l.length ≤ 100000 ∧ k ≤ l.length) := by unfold Hid; rw [hl, hk]; simp
  have HT : Hid (l.take k ++ [(p, q)] = [] ++ [(p, q)]) := by unfold Hid; rw [hl, hk]; rfl
  have HE : Hid (l.take k ++ [(p, q)] ++ l.drop k = putD [] (p, q)) := by unfold Hid; rw [hl, hk]; rfl
  have HDl : Hid (l.drop k = []) := by unfold Hid; rw [hl, hk]; rfl
  clear hO hn hl hk
  go_enter Tryz.func131, Tryz.ntmps131
  go_wp2
  refine wp_loop_rounds 1 ?_
  rw [rounds_succ]
  go_wp2
  generalize w.alloc (bxD p q) = u at *
  refine wp_region_held_drew (S := fun W => Below u.heap.size u W) (by kernel_rfl) ((Below.refl _ u).drew) (fun hS0 => ?_)
  refine tkJ 0 7 hS0 ?_; simp only [ly]
  refine tkJ 1 8 hS0 ?_; simp only [ly]
  refine tkJ 2 9 hS0 ?_; simp only [ly]
  refine tkJ 3 10 hS0 ?_; simp only [ly]
  refine tkJ 4 11 hS0 ?_; simp only [ly]
  refine tkM 5 12 hS0 ?_; simp only [ly]
  refine tkM 6 13 hS0 ?_; simp only [ly]
  refine tkM 7 14 hS0 ?_; simp only [ly]
  refine tkM 8 15 hS0 ?_; simp only [ly]
  refine tkM 9 16 hS0 ?_; simp only [ly]
  refine tkM 10 17 hS0 ?_; simp only [ly]
  refine tkJ 11 18 hS0 ?_; simp only [ly]
  refine wpAnyH_done (by kernel_rfl) ?_ _
  go_wp2
  replace hu0 := bcell hS0 hu0
  replace hu1 := bcell hS0 hu1
  replace HU := hide (bel_next HU.out hS0)
  clear hS0
  generalize u.drew = u2 at *
  refine wp_region_held_drew (S := fun W => Below u2.heap.size u2 W) (by kernel_rfl) ((Below.refl _ u2).drew) (fun hS0 => ?_)
  refine tkJ 0 21 hS0 ?_; simp only [ly]
  refine tkJ 1 22 hS0 ?_; simp only [ly]
  refine tkJ 2 23 hS0 ?_; simp only [ly]
  refine tkJ 3 24 hS0 ?_; simp only [ly]
  refine tkJ 4 25 hS0 ?_; simp only [ly]
  refine tkM 5 26 hS0 ?_; simp only [ly]
  refine tkM 6 27 hS0 ?_; simp only [ly]
  refine tkM 7 28 hS0 ?_; simp only [ly]
  refine tkM 8 29 hS0 ?_; simp only [ly]
  refine tkM 9 30 hS0 ?_; simp only [ly]
  refine tkM 10 31 hS0 ?_; simp only [ly]
  refine tkJ 11 32 hS0 ?_; simp only [ly]
  refine wpAnyH_done (by kernel_rfl) ?_ _
  replace hu0 := bcell hS0 hu0
  replace hu1 := bcell hS0 hu1
  replace HU := hide (bel_next HU.out hS0)
  clear hS0
  generalize u2.drew = u4 at *
  go_wp2_with (at_builtin; refine Stop.at ?_)
  unfold Stop
  refine append_dots rfl _ _ rfl u4.heap.size _ [] [] rfl (OwnD.made u4 u4.heap.size _ rfl (Nat.le_refl _)) none 0 0 rfl (fun _ => rfl) (DS.nil _ _) (by simp) (by simp) ?_
  intro vr u3 hor hbr
  have hB3 := hbr _ (bel1 u4 _)
  obtain ⟨pr, cr, hvr, hdr, hcr⟩ := hor.open
  obtain ⟨nr, hnr⟩ : ∃ nr, nr = (([] : List Dot) ++ []).length := ⟨_, rfl⟩
  rw [← hnr] at hvr hdr
  subst hvr
  have HDr : Hid (DS u3 pr nr (l.drop k)) := by unfold Hid; rw [HDl.out]; exact hdr
  have hpr := hcr.2.2
  have c2 := bcell hB3 hu0
  have c3 := bcell hB3 hu1
  replace HU := hide (bel_next HU.out hB3)
  clear hor hbr hB3 hdr hcr hu0 hu1 hnr
  go_wp2
  refine wp_region_held_drew (S := fun W => Below u3.heap.size u3 W) (by kernel_rfl) ((Below.refl _ u3).drew) (fun hS0 => ?_)
  refine tkJ 0 39 hS0 ?_; simp only [ly]
  refine tkJ 1 40 hS0 ?_; simp only [ly]
  refine tkJ 2 41 hS0 ?_; simp only [ly]
  refine tkJ 3 42 hS0 ?_; simp only [ly]
  refine tkL 4 43 hS0 ?h ?_; case h => (intro W hW; have e0 := bcell hW c2; have e1 := bcell hW c3; clear hW; go_simp; try rfl); simp only [ly]
  refine tkJ 7 46 hS0 ?_; simp only [ly]
  refine wpAnyH_ready (rs := [5]) (by kernel_rfl) (by simp) ?_
  refine AllReadyH.cons rfl (fun K hK => ?_) AllReadyH.nil
  go_simp
  have b0 := DS.new u3 u3.heap.size rfl [(p, q)] #[.int .i64 p, .int .i64 q] rfl 33 (0, 0) 1 rfl (by decide)
  have hSn : Below u3.heap.size u3 (u3.alloc (.cells #[.int .i64 p, .int .i64 q] 33)).drew := ((Below.refl _ u3).alloc (Nat.le_refl _) _).drew
  have b1 : DS (u3.alloc (.cells #[.int .i64 p, .int .i64 q] 33)).drew (some ⟨u3.heap.size, 0, none⟩) 1 [(p, q)] := b0
  clear b0
  generalize (u3.alloc (.cells #[.int .i64 p, .int .i64 q] 33)).drew = W1 at *
  refine hK.out _ _ ?hs7 (fun hS1 => ?_)
  case hs7 => exact hSn
  clear hK K
  try simp only [ly]
  refine wpAnyH_ready (rs := [6]) (by kernel_rfl) (by simp) ?_
  refine AllReadyH.cons rfl (fun K hK => ?_) AllReadyH.nil
  rw [if_pos (by kernel_rfl)]
  refine append_wp _ _ rfl u3.heap.size _ [] [(p, q)] rfl (OwnD.nil _ _) (some ⟨u3.heap.size, 0, none⟩) 1 1 rfl (fun h => by cases h) b1 (by simp) hS1.size ?_
  intro v1 w1 ho1 hb1
  have HO1 : Hid (OwnD u3.heap.size w1 v1 (l.take k ++ [(p, q)])) := by unfold Hid; rw [HT.out]; exact ho1
  have hSk := hb1 _ hS1
  clear ho1 hb1 b1
  change K (Act.put _ (some 45) _) _
  refine hK.out _ _ ?hs8 (fun hS2 => ?_)
  case hs8 => exact hSk
  clear hK K
  try simp only [ly]
  refine wpAnyH_ready (rs := [8]) (by kernel_rfl) (by simp) ?_
  refine AllReadyH.cons rfl (fun K hK => ?_) AllReadyH.nil
  rw [if_pos (by kernel_rfl)]
  refine append_wp _ _ rfl u3.heap.size _ (l.take k ++ [(p, q)]) (l.drop k) rfl HO1.out pr nr cr rfl hpr (HDr.out.below hS2) (by have := HLk.out; rw [List.length_append, List.length_take, List.length_drop]; simp; omega) hS2.size ?_
  intro v2 w2 ho2 hb2
  have HO2 := hide ho2
  have hSm := hb2 _ hS2
  clear ho2 hb2
  change K (Act.put _ (some 47) _) _
  refine hK.out _ _ ?hs9 (fun hS3 => ?_)
  case hs9 => exact hSm
  clear hK K
  try simp only [ly]
  refine tkJ 9 4 hS3 ?_; simp only [ly]
  refine wpAnyH_done (by kernel_rfl) ?_ _
  go_wp2
  go_ret
  refine ⟨_, rfl, ?_, bel_next HU.out (by assumption)⟩
  rw [← HE.out]
  exact HO2.out.mono (Nat.le_trans hN HU.out.size)
 ·obtain ⟨n, hln⟩ : ∃ n, l.length = n := ⟨_, rfl⟩
  rw [hln] at hO hlc hn ⊢
  obtain ⟨hds, hcp⟩ := hO.ds
  have HO := hide hO
  have HD := hide hds
  have hmax := hds.2.1
  unfold maxLen at hmax hcm
  have HL := hide hln
  have HC : Hid (∀ i, i < n → w.cell? ⟨g, i * 2, none⟩ = some (.int .i64 (l.getD i (0, 0)).1) ∧ w.cell? ⟨g, i * 2 + 1, none⟩ = some (.int .i64 (l.getD i (0, 0)).2)) := by
   rcases hds.2.2 with h0 | ⟨b, off, hh, hc⟩
   ·exact fun i hi => by omega
   ·cases hh
    intro i hi
    have z := hc i hi
    rw [Nat.zero_add] at z
    exact z
  have HLs0 := hide (fun (x : Dot) W => LessR_any x.1 x.2 p q W)
  clear hO hds hcp hln
  go_enter Tryz.func131, Tryz.ntmps131
  go_wp2
  go_loopw [5] (fun i wr => ∃ k : Nat, k ≤ n ∧ i = .int .i64 k ∧ Below (w.alloc (bxD p q)).heap.size (w.alloc (bxD p q)) wr ∧ Hid (∀ i, i < k → lessD (l.getD i (0, 0)) (p, q) = true)) (fun i _ => n - (intOf i).toNat)
  case atStart => exact ⟨0, by omega, rfl, Below.refl _ _, fun i hi => absurd hi (Nat.not_lt_zero _)⟩
  case round =>
   obtain ⟨k, hk, rfl, hbel, H1⟩ := hrel
   have HB := hide (bel_next HU.out hbel)
   have c2 := bcell hbel hu0
   have c3 := bcell hbel hu1
   have HBel := hide hbel
   clear hbel
   by_cases hgo : k < n ∧ lessD (l.getD k (0, 0)) (p, q) = true
   ·have hlt := hgo.1
    have c0 := bcell HB.out (HC.out k hlt).1
    have c1 := bcell HB.out (HC.out k hlt).2
    have HLs := hide (fun W => HLs0.out (l.getD k (0, 0)) W)
    rw [show ((l.getD k (0, 0)).1, (l.getD k (0, 0)).2) = l.getD k (0, 0) from rfl, hgo.2] at HLs
    have H2 : Hid (∀ i, i < k + 1 → lessD (l.getD i (0, 0)) (p, q) = true) := fun i hi => by
     by_cases e : i = k
     ·subst e; exact hgo.2
     ·exact H1.out i (by omega)
    clear hgo
    generalize l.getD k (0, 0) = x at c0 c1 HLs
    obtain ⟨r, s⟩ := x
    go_wp2
    refine wp_region_held_drew (S := fun W => Below wr.heap.size wr W) (by kernel_rfl) ((Below.refl _ wr).drew) (fun hS0 => ?_)
    refine tkJ 0 7 hS0 ?_; simp only [ly]
    refine tkJ 1 8 hS0 ?_; simp only [ly]
    refine tkJ 2 9 hS0 ?_; simp only [ly]
    refine tkJ 3 10 hS0 ?_; simp only [ly]
    refine tkJ 4 11 hS0 ?_; simp only [ly]
    refine tkJ 5 12 hS0 ?_; simp only [ly]
    refine tkJ 6 13 hS0 ?_; simp only [ly]
    refine tkJ 7 14 hS0 ?_; simp only [ly]
    refine tkL 8 15 hS0 ?h ?_; case h => (intro W hW; have e0 := bcell hW c0; have e1 := bcell hW c1; have e2 := bcell hW c2; have e3 := bcell hW c3; clear hW; go_simp; try rfl); simp only [ly]
    refine tkL 9 16 hS0 ?h ?_; case h => (intro W hW; have e0 := bcell hW c0; have e1 := bcell hW c1; have e2 := bcell hW c2; have e3 := bcell hW c3; clear hW; go_simp; try rfl); simp only [ly]
    refine wpAnyH_ready (rs := [10]) (by kernel_rfl) (by simp) ?_
    refine AllReadyH.cons rfl (fun K hK => ?_) AllReadyH.nil
    go_simp
    refine (HLs.out _).mono ?_
    rintro e w' ⟨rfl, hg⟩
    have hb := hg.bel
    clear hg
    try go_wp2_with fail
    refine hK.out _ _ ?hs63 (fun hS1 => ?_)
    case hs63 => exact bel_next hS0 hb
    clear hK K hb
    try simp only [ly]
    refine tkJ 11 18 hS1 ?_; simp only [ly]
    refine wpAnyH_done (by kernel_rfl) ?_ _
    go_wp2
    go_roundw
    case rel => exact ⟨k + 1, by omega, by go_num, bel_next HBel.out (by assumption), H2⟩
    case measure => simp [intOf]; omega
   ·have hno : k = n ∨ lessD (l.getD k (0, 0)) (p, q) = false := by
     rcases Nat.lt_or_ge k n with z | z
     ·right; rw [← Bool.not_eq_true]; exact fun y => hgo ⟨z, y⟩
     ·left; omega
    have HP := hide (putD_at (d := (p, q)) k (l := l) (by rw [HL.out]; exact hk) H1.out (by rw [HL.out]; exact hno))
    have HLk : Hid (l.length ≤ 100000 ∧ k ≤ l.length) := by unfold Hid; rw [HL.out]; exact ⟨hn, hk⟩
    clear hgo H1
    by_cases hlt : k < n
    ·have c0 := bcell HB.out (HC.out k hlt).1
     have c1 := bcell HB.out (HC.out k hlt).2
     have HLs := hide (fun W => HLs0.out (l.getD k (0, 0)) W)
     have hnl : lessD (l.getD k (0, 0)) (p, q) = false := by
      rcases hno with z | z
      ·omega
      ·exact z
     rw [show ((l.getD k (0, 0)).1, (l.getD k (0, 0)).2) = l.getD k (0, 0) from rfl, hnl] at HLs
     clear hno hnl
     obtain ⟨x, hx⟩ : ∃ x, l.getD k (0, 0) = x := ⟨_, rfl⟩
     rw [hx] at c0 c1 HLs
     have HX := hide hx
     clear hx
     obtain ⟨r, s⟩ := x
     by_cases hxy : r = p ∧ s = q
     ·have hq := fun w => eqD r s p q true (by symm; exact decide_eq_true hxy) w
      have HE : Hid (l = putD l (p, q)) := by
       have z := HP.out
       unfold Hid
       rw [if_pos ⟨by rw [HL.out]; exact hlt, by rw [HX.out]; exact Prod.ext hxy.1 hxy.2⟩] at z
       exact z.symm
      clear hxy HP
      go_wp2
      refine wp_region_held_drew (S := fun W => Below wr.heap.size wr W) (by kernel_rfl) ((Below.refl _ wr).drew) (fun hS0 => ?_)
      refine tkJ 0 7 hS0 ?_; simp only [ly]
      refine tkJ 1 8 hS0 ?_; simp only [ly]
      refine tkJ 2 9 hS0 ?_; simp only [ly]
      refine tkJ 3 10 hS0 ?_; simp only [ly]
      refine tkJ 4 11 hS0 ?_; simp only [ly]
      refine tkJ 5 12 hS0 ?_; simp only [ly]
      refine tkJ 6 13 hS0 ?_; simp only [ly]
      refine tkJ 7 14 hS0 ?_; simp only [ly]
      refine tkL 8 15 hS0 ?h ?_; case h => (intro W hW; have e0 := bcell hW c0; have e1 := bcell hW c1; have e2 := bcell hW c2; have e3 := bcell hW c3; clear hW; go_simp; try rfl); simp only [ly]
      refine tkL 9 16 hS0 ?h ?_; case h => (intro W hW; have e0 := bcell hW c0; have e1 := bcell hW c1; have e2 := bcell hW c2; have e3 := bcell hW c3; clear hW; go_simp; try rfl); simp only [ly]
      refine wpAnyH_ready (rs := [10]) (by kernel_rfl) (by simp) ?_
      refine AllReadyH.cons rfl (fun K hK => ?_) AllReadyH.nil
      go_simp
      refine (HLs.out _).mono ?_
      rintro e w' ⟨rfl, hg⟩
      have hb := hg.bel
      clear hg
      try go_wp2_with fail
      refine hK.out _ _ ?hs75 (fun hS1 => ?_)
      case hs75 => exact bel_next hS0 hb
      clear hK K hb
      try simp only [ly]
      refine tkJ 11 18 hS1 ?_; simp only [ly]
      refine wpAnyH_done (by kernel_rfl) ?_ _
      go_wp2
      replace c0 := bcell hS1 c0
      replace c1 := bcell hS1 c1
      replace c2 := bcell hS1 c2
      replace c3 := bcell hS1 c3
      replace HB := hide (bel_next HB.out hS1)
      clear hS0 hS1 HBel
      generalize w' = u2 at *
      refine wp_region_held_drew (S := fun W => Below u2.heap.size u2 W) (by kernel_rfl) ((Below.refl _ u2).drew) (fun hS0 => ?_)
      refine tkJ 0 21 hS0 ?_; simp only [ly]
      refine tkJ 1 22 hS0 ?_; simp only [ly]
      refine tkJ 2 23 hS0 ?_; simp only [ly]
      refine tkJ 3 24 hS0 ?_; simp only [ly]
      refine tkJ 4 25 hS0 ?_; simp only [ly]
      refine tkJ 5 26 hS0 ?_; simp only [ly]
      refine tkJ 6 27 hS0 ?_; simp only [ly]
      refine tkJ 7 28 hS0 ?_; simp only [ly]
      refine tkL 8 29 hS0 ?h ?_; case h => (intro W hW; have e0 := bcell hW c0; have e1 := bcell hW c1; have e2 := bcell hW c2; have e3 := bcell hW c3; clear hW; go_simp; try rfl); simp only [ly]
      refine tkL 9 30 hS0 ?h ?_; case h => (intro W hW; have e0 := bcell hW c0; have e1 := bcell hW c1; have e2 := bcell hW c2; have e3 := bcell hW c3; clear hW; go_simp; try rfl); simp only [ly]
      refine tkJ 10 31 hS0 ?_; simp only [ly]
      refine tkJ 11 32 hS0 ?_; simp only [ly]
      refine wpAnyH_done (by kernel_rfl) ?_ _
      go_wp2
      go_ret
      refine ⟨_, rfl, ?_, bel_next HB.out (by assumption)⟩
      rw [← HE.out]
      exact HO.out.below (bel_next HB.out (by assumption))
     ·have hq := fun w => eqD r s p q false (by symm; exact decide_eq_false hxy) w
      have HE : Hid (l.take k ++ [(p, q)] ++ l.drop k = putD l (p, q)) := by
       have z := HP.out
       unfold Hid
       rw [if_neg (fun y => hxy ⟨by have e := y.2; rw [HX.out] at e; exact congrArg Prod.fst e, by have e := y.2; rw [HX.out] at e; exact congrArg Prod.snd e⟩)] at z
       rw [z]; simp
      clear hxy HP
      go_wp2
      refine wp_region_held_drew (S := fun W => Below wr.heap.size wr W) (by kernel_rfl) ((Below.refl _ wr).drew) (fun hS0 => ?_)
      refine tkJ 0 7 hS0 ?_; simp only [ly]
      refine tkJ 1 8 hS0 ?_; simp only [ly]
      refine tkJ 2 9 hS0 ?_; simp only [ly]
      refine tkJ 3 10 hS0 ?_; simp only [ly]
      refine tkJ 4 11 hS0 ?_; simp only [ly]
      refine tkJ 5 12 hS0 ?_; simp only [ly]
      refine tkJ 6 13 hS0 ?_; simp only [ly]
      refine tkJ 7 14 hS0 ?_; simp only [ly]
      refine tkL 8 15 hS0 ?h ?_; case h => (intro W hW; have e0 := bcell hW c0; have e1 := bcell hW c1; have e2 := bcell hW c2; have e3 := bcell hW c3; clear hW; go_simp; try rfl); simp only [ly]
      refine tkL 9 16 hS0 ?h ?_; case h => (intro W hW; have e0 := bcell hW c0; have e1 := bcell hW c1; have e2 := bcell hW c2; have e3 := bcell hW c3; clear hW; go_simp; try rfl); simp only [ly]
      refine wpAnyH_ready (rs := [10]) (by kernel_rfl) (by simp) ?_
      refine AllReadyH.cons rfl (fun K hK => ?_) AllReadyH.nil
      go_simp
      refine (HLs.out _).mono ?_
      rintro e w' ⟨rfl, hg⟩
      have hb := hg.bel
      clear hg
      try go_wp2_with fail
      refine hK.out _ _ ?hs99 (fun hS1 => ?_)
      case hs99 => exact bel_next hS0 hb
      clear hK K hb
      try simp only [ly]
      refine tkJ 11 18 hS1 ?_; simp only [ly]
      refine wpAnyH_done (by kernel_rfl) ?_ _
      go_wp2
      replace c0 := bcell hS1 c0
      replace c1 := bcell hS1 c1
      replace c2 := bcell hS1 c2
      replace c3 := bcell hS1 c3
      replace HB := hide (bel_next HB.out hS1)
      clear hS0 hS1 HBel
      generalize w' = u2 at *
      refine wp_region_held_drew (S := fun W => Below u2.heap.size u2 W) (by kernel_rfl) ((Below.refl _ u2).drew) (fun hS0 => ?_)
      refine tkJ 0 21 hS0 ?_; simp only [ly]
      refine tkJ 1 22 hS0 ?_; simp only [ly]
      refine tkJ 2 23 hS0 ?_; simp only [ly]
      refine tkJ 3 24 hS0 ?_; simp only [ly]
      refine tkJ 4 25 hS0 ?_; simp only [ly]
      refine tkJ 5 26 hS0 ?_; simp only [ly]
      refine tkJ 6 27 hS0 ?_; simp only [ly]
      refine tkJ 7 28 hS0 ?_; simp only [ly]
      refine tkL 8 29 hS0 ?h ?_; case h => (intro W hW; have e0 := bcell hW c0; have e1 := bcell hW c1; have e2 := bcell hW c2; have e3 := bcell hW c3; clear hW; go_simp; try rfl); simp only [ly]
      refine tkL 9 30 hS0 ?h ?_; case h => (intro W hW; have e0 := bcell hW c0; have e1 := bcell hW c1; have e2 := bcell hW c2; have e3 := bcell hW c3; clear hW; go_simp; try rfl); simp only [ly]
      refine tkJ 10 31 hS0 ?_; simp only [ly]
      refine tkJ 11 32 hS0 ?_; simp only [ly]
      refine wpAnyH_done (by kernel_rfl) ?_ _
      replace c2 := bcell hS0 c2
      replace c3 := bcell hS0 c3
      replace HB := hide (bel_next HB.out hS0)
      clear hS0 c0 c1 hq
      generalize u2.drew = u4 at *
      have hck : ¬ (cap = k) := by omega
      have hck2 : (k : Int) ≤ (n : Int) := by omega
      have hck3 : (k : Int) ≤ (cap : Int) := by omega
      have hck4 : ¬ ((cap : Int) = (k : Int)) := by omega
      go_wp2_with (at_builtin; refine Stop.at ?_)
      unfold Stop
      refine append_dots rfl _ _ rfl u4.heap.size _ [] (l.drop k) rfl (OwnD.made u4 u4.heap.size _ rfl (Nat.le_refl _)) (some ⟨g, k * 2, none⟩) (n - k) (cap - k) rfl (fun h => by cases h) (((HD.out.below HB.out).tail k hlt).alloc _) (by have := HLk.out; rw [List.length_drop]; simp; omega) (by simp) ?_
      intro vr u3 hor hbr
      have hB3 := hbr _ (bel1 u4 _)
      rw [List.nil_append] at hor
      obtain ⟨pr, cr, hvr, hdr, hcr⟩ := hor.open
      obtain ⟨nr, hnr⟩ : ∃ nr, nr = (l.drop k).length := ⟨_, rfl⟩
      rw [← hnr] at hvr hdr
      subst hvr
      have HDr := hide hdr
      have hpr := hcr.2.2
      replace c2 := bcell hB3 c2
      replace c3 := bcell hB3 c3
      replace HB := hide (bel_next HB.out hB3)
      have HDk := hide ((HD.out.below HB.out).head k (by omega))
      clear hor hbr hB3 hdr hcr hnr
      go_wp2
      refine wp_region_held_drew (S := fun W => Below u3.heap.size u3 W) (by kernel_rfl) ((Below.refl _ u3).drew) (fun hS0 => ?_)
      refine tkJ 0 39 hS0 ?_; simp only [ly]
      refine tkJ 1 40 hS0 ?_; simp only [ly]
      refine tkJ 2 41 hS0 ?_; simp only [ly]
      refine tkJ 3 42 hS0 ?_; simp only [ly]
      refine tkL 4 43 hS0 ?h ?_; case h => (intro W hW; have e0 := bcell hW c2; have e1 := bcell hW c3; clear hW; go_simp; try rfl); simp only [ly]
      refine tkJ 7 46 hS0 ?_; simp only [ly]
      refine wpAnyH_ready (rs := [5]) (by kernel_rfl) (by simp) ?_
      refine AllReadyH.cons rfl (fun K hK => ?_) AllReadyH.nil
      go_simp
      have b0 := DS.new u3 u3.heap.size rfl [(p, q)] #[.int .i64 p, .int .i64 q] rfl 33 (0, 0) 1 rfl (by decide)
      have hSn : Below u3.heap.size u3 (u3.alloc (.cells #[.int .i64 p, .int .i64 q] 33)).drew := ((Below.refl _ u3).alloc (Nat.le_refl _) _).drew
      have b1 : DS (u3.alloc (.cells #[.int .i64 p, .int .i64 q] 33)).drew (some ⟨u3.heap.size, 0, none⟩) 1 [(p, q)] := b0
      clear b0
      generalize (u3.alloc (.cells #[.int .i64 p, .int .i64 q] 33)).drew = W1 at *
      refine hK.out _ _ ?hs17 (fun hS1 => ?_)
      case hs17 => exact hSn
      clear hK K
      try simp only [ly]
      refine wpAnyH_ready (rs := [6]) (by kernel_rfl) (by simp) ?_
      refine AllReadyH.cons rfl (fun K hK => ?_) AllReadyH.nil
      rw [if_pos (by kernel_rfl)]
      refine append_full_wp _ _ rfl g k (l.take k) [(p, q)] rfl (HDk.out.below hS1) ⟨u3.heap.size, 0, none⟩ 1 1 rfl b1 (by decide) (by have := HLk.out; rw [List.length_take]; simp; omega) ?_
      intro v1 w1 ho1 hb1
      have HO1 := hide (ho1.mono hS1.size)
      have hSk := bel_next hS1 hb1
      clear ho1 hb1 b1
      change K (Act.put _ (some 45) _) _
      refine hK.out _ _ ?hs18 (fun hS2 => ?_)
      case hs18 => exact hSk
      clear hK K
      try simp only [ly]
      refine wpAnyH_ready (rs := [8]) (by kernel_rfl) (by simp) ?_
      refine AllReadyH.cons rfl (fun K hK => ?_) AllReadyH.nil
      rw [if_pos (by kernel_rfl)]
      refine append_wp _ _ rfl u3.heap.size _ (l.take k ++ [(p, q)]) (l.drop k) rfl HO1.out pr nr cr rfl hpr (HDr.out.below hS2) (by have := HLk.out; rw [List.length_append, List.length_take, List.length_drop]; simp; omega) hS2.size ?_
      intro v2 w2 ho2 hb2
      have HO2 := hide ho2
      have hSm := hb2 _ hS2
      clear ho2 hb2
      change K (Act.put _ (some 47) _) _
      refine hK.out _ _ ?hs19 (fun hS3 => ?_)
      case hs19 => exact hSm
      clear hK K
      try simp only [ly]
      refine tkJ 9 4 hS3 ?_; simp only [ly]
      refine wpAnyH_done (by kernel_rfl) ?_ _
      go_wp2
      go_ret
      refine ⟨_, rfl, ?_, bel_next HB.out (by assumption)⟩
      rw [← HE.out]
      exact HO2.out.mono (Nat.le_trans hN HB.out.size)
    ·have hkn : k = n := by omega
     subst hkn
     have HE : Hid (l.take k ++ [(p, q)] ++ l.drop k = putD l (p, q)) := by
      have z := HP.out
      unfold Hid
      rw [if_neg (fun y => by have e := y.1; rw [HL.out] at e; omega)] at z
      rw [z]; simp
     have HDl : Hid (l.drop k = []) := List.drop_of_length_le (by rw [HL.out]; omega)
     have hck3 : (k : Int) ≤ (cap : Int) := by omega
     clear HP hno
     go_wp2
     refine wp_region_held_drew (S := fun W => Below wr.heap.size wr W) (by kernel_rfl) ((Below.refl _ wr).drew) (fun hS0 => ?_)
     refine tkJ 0 7 hS0 ?_; simp only [ly]
     refine tkJ 1 8 hS0 ?_; simp only [ly]
     refine tkJ 2 9 hS0 ?_; simp only [ly]
     refine tkJ 3 10 hS0 ?_; simp only [ly]
     refine tkJ 4 11 hS0 ?_; simp only [ly]
     refine tkM 5 12 hS0 ?_; simp only [ly]
     refine tkM 6 13 hS0 ?_; simp only [ly]
     refine tkM 7 14 hS0 ?_; simp only [ly]
     refine tkM 8 15 hS0 ?_; simp only [ly]
     refine tkM 9 16 hS0 ?_; simp only [ly]
     refine tkM 10 17 hS0 ?_; simp only [ly]
     refine tkJ 11 18 hS0 ?_; simp only [ly]
     refine wpAnyH_done (by kernel_rfl) ?_ _
     go_wp2
     replace c2 := bcell hS0 c2
     replace c3 := bcell hS0 c3
     replace HB := hide (bel_next HB.out hS0)
     clear hS0 HBel
     generalize wr.drew = u2 at *
     refine wp_region_held_drew (S := fun W => Below u2.heap.size u2 W) (by kernel_rfl) ((Below.refl _ u2).drew) (fun hS0 => ?_)
     refine tkJ 0 21 hS0 ?_; simp only [ly]
     refine tkJ 1 22 hS0 ?_; simp only [ly]
     refine tkJ 2 23 hS0 ?_; simp only [ly]
     refine tkJ 3 24 hS0 ?_; simp only [ly]
     refine tkJ 4 25 hS0 ?_; simp only [ly]
     refine tkM 5 26 hS0 ?_; simp only [ly]
     refine tkM 6 27 hS0 ?_; simp only [ly]
     refine tkM 7 28 hS0 ?_; simp only [ly]
     refine tkM 8 29 hS0 ?_; simp only [ly]
     refine tkM 9 30 hS0 ?_; simp only [ly]
     refine tkM 10 31 hS0 ?_; simp only [ly]
     refine tkJ 11 32 hS0 ?_; simp only [ly]
     refine wpAnyH_done (by kernel_rfl) ?_ _
     replace c2 := bcell hS0 c2
     replace c3 := bcell hS0 c3
     replace HB := hide (bel_next HB.out hS0)
     clear hS0
     generalize u2.drew = u4 at *
     by_cases hcn : cap = k
     ·have hcn' : k = cap := hcn.symm
      subst hcn'
      clear hcn
      go_wp2_with (at_builtin; refine Stop.at ?_)
      unfold Stop
      refine append_dots rfl _ _ rfl u4.heap.size _ [] (l.drop k) rfl (OwnD.made u4 u4.heap.size _ rfl (Nat.le_refl _)) (some ⟨g, 0, none⟩) _ _ rfl (fun h => by cases h) (by rw [HDl.out]; exact DS.some0 _) (by have := HLk.out; rw [List.length_drop]; simp; omega) (by simp) ?_
      intro vr u3 hor hbr
      have hB3 := hbr _ (bel1 u4 _)
      rw [List.nil_append] at hor
      obtain ⟨pr, cr, hvr, hdr, hcr⟩ := hor.open
      obtain ⟨nr, hnr⟩ : ∃ nr, nr = (l.drop k).length := ⟨_, rfl⟩
      rw [← hnr] at hvr hdr
      subst hvr
      have HDr := hide hdr
      have hpr := hcr.2.2
      replace c2 := bcell hB3 c2
      replace c3 := bcell hB3 c3
      replace HB := hide (bel_next HB.out hB3)
      have HDk := hide ((HD.out.below HB.out).head k (by omega))
      clear hor hbr hB3 hdr hcr hnr
      go_wp2
      refine wp_region_held_drew (S := fun W => Below u3.heap.size u3 W) (by kernel_rfl) ((Below.refl _ u3).drew) (fun hS0 => ?_)
      refine tkJ 0 39 hS0 ?_; simp only [ly]
      refine tkJ 1 40 hS0 ?_; simp only [ly]
      refine tkJ 2 41 hS0 ?_; simp only [ly]
      refine tkJ 3 42 hS0 ?_; simp only [ly]
      refine tkL 4 43 hS0 ?h ?_; case h => (intro W hW; have e0 := bcell hW c2; have e1 := bcell hW c3; clear hW; go_simp; try rfl); simp only [ly]
      refine tkJ 7 46 hS0 ?_; simp only [ly]
      refine wpAnyH_ready (rs := [5]) (by kernel_rfl) (by simp) ?_
      refine AllReadyH.cons rfl (fun K hK => ?_) AllReadyH.nil
      go_simp
      have b0 := DS.new u3 u3.heap.size rfl [(p, q)] #[.int .i64 p, .int .i64 q] rfl 33 (0, 0) 1 rfl (by decide)
      have hSn : Below u3.heap.size u3 (u3.alloc (.cells #[.int .i64 p, .int .i64 q] 33)).drew := ((Below.refl _ u3).alloc (Nat.le_refl _) _).drew
      have b1 : DS (u3.alloc (.cells #[.int .i64 p, .int .i64 q] 33)).drew (some ⟨u3.heap.size, 0, none⟩) 1 [(p, q)] := b0
      clear b0
      generalize (u3.alloc (.cells #[.int .i64 p, .int .i64 q] 33)).drew = W1 at *
      refine hK.out _ _ ?hs27 (fun hS1 => ?_)
      case hs27 => exact hSn
      clear hK K
      try simp only [ly]
      refine wpAnyH_ready (rs := [6]) (by kernel_rfl) (by simp) ?_
      refine AllReadyH.cons rfl (fun K hK => ?_) AllReadyH.nil
      rw [if_pos (by kernel_rfl)]
      refine append_full_wp _ _ rfl g k (l.take k) [(p, q)] rfl (HDk.out.below hS1) ⟨u3.heap.size, 0, none⟩ 1 1 rfl b1 (by decide) (by have := HLk.out; rw [List.length_take]; simp; omega) ?_
      intro v1 w1 ho1 hb1
      have HO1 := hide (ho1.mono hS1.size)
      have hSk := bel_next hS1 hb1
      clear ho1 hb1 b1
      change K (Act.put _ (some 45) _) _
      refine hK.out _ _ ?hs28 (fun hS2 => ?_)
      case hs28 => exact hSk
      clear hK K
      try simp only [ly]
      refine wpAnyH_ready (rs := [8]) (by kernel_rfl) (by simp) ?_
      refine AllReadyH.cons rfl (fun K hK => ?_) AllReadyH.nil
      rw [if_pos (by kernel_rfl)]
      refine append_wp _ _ rfl u3.heap.size _ (l.take k ++ [(p, q)]) (l.drop k) rfl HO1.out pr nr cr rfl hpr (HDr.out.below hS2) (by have := HLk.out; rw [List.length_append, List.length_take, List.length_drop]; simp; omega) hS2.size ?_
      intro v2 w2 ho2 hb2
      have HO2 := hide ho2
      have hSm := hb2 _ hS2
      clear ho2 hb2
      change K (Act.put _ (some 47) _) _
      refine hK.out _ _ ?hs29 (fun hS3 => ?_)
      case hs29 => exact hSm
      clear hK K
      try simp only [ly]
      refine tkJ 9 4 hS3 ?_; simp only [ly]
      refine wpAnyH_done (by kernel_rfl) ?_ _
      go_wp2
      go_ret
      refine ⟨_, rfl, ?_, bel_next HB.out (by assumption)⟩
      rw [← HE.out]
      exact HO2.out.mono (Nat.le_trans hN HB.out.size)
     ·have hcn2 : ¬ ((cap : Int) = (k : Int)) := by omega
      go_wp2_with (at_builtin; refine Stop.at ?_)
      unfold Stop
      refine append_dots rfl _ _ rfl u4.heap.size _ [] (l.drop k) rfl (OwnD.made u4 u4.heap.size _ rfl (Nat.le_refl _)) (some ⟨g, k * 2, none⟩) _ _ rfl (fun h => by cases h) (by rw [HDl.out]; exact DS.some0 _) (by have := HLk.out; rw [List.length_drop]; simp; omega) (by simp) ?_
      intro vr u3 hor hbr
      have hB3 := hbr _ (bel1 u4 _)
      rw [List.nil_append] at hor
      obtain ⟨pr, cr, hvr, hdr, hcr⟩ := hor.open
      obtain ⟨nr, hnr⟩ : ∃ nr, nr = (l.drop k).length := ⟨_, rfl⟩
      rw [← hnr] at hvr hdr
      subst hvr
      have HDr := hide hdr
      have hpr := hcr.2.2
      replace c2 := bcell hB3 c2
      replace c3 := bcell hB3 c3
      replace HB := hide (bel_next HB.out hB3)
      have HDk := hide ((HD.out.below HB.out).head k (by omega))
      clear hor hbr hB3 hdr hcr hnr
      go_wp2
      refine wp_region_held_drew (S := fun W => Below u3.heap.size u3 W) (by kernel_rfl) ((Below.refl _ u3).drew) (fun hS0 => ?_)
      refine tkJ 0 39 hS0 ?_; simp only [ly]
      refine tkJ 1 40 hS0 ?_; simp only [ly]
      refine tkJ 2 41 hS0 ?_; simp only [ly]
      refine tkJ 3 42 hS0 ?_; simp only [ly]
      refine tkL 4 43 hS0 ?h ?_; case h => (intro W hW; have e0 := bcell hW c2; have e1 := bcell hW c3; clear hW; go_simp; try rfl); simp only [ly]
      refine tkJ 7 46 hS0 ?_; simp only [ly]
      refine wpAnyH_ready (rs := [5]) (by kernel_rfl) (by simp) ?_
      refine AllReadyH.cons rfl (fun K hK => ?_) AllReadyH.nil
      go_simp
      have b0 := DS.new u3 u3.heap.size rfl [(p, q)] #[.int .i64 p, .int .i64 q] rfl 33 (0, 0) 1 rfl (by decide)
      have hSn : Below u3.heap.size u3 (u3.alloc (.cells #[.int .i64 p, .int .i64 q] 33)).drew := ((Below.refl _ u3).alloc (Nat.le_refl _) _).drew
      have b1 : DS (u3.alloc (.cells #[.int .i64 p, .int .i64 q] 33)).drew (some ⟨u3.heap.size, 0, none⟩) 1 [(p, q)] := b0
      clear b0
      generalize (u3.alloc (.cells #[.int .i64 p, .int .i64 q] 33)).drew = W1 at *
      refine hK.out _ _ ?hs37 (fun hS1 => ?_)
      case hs37 => exact hSn
      clear hK K
      try simp only [ly]
      refine wpAnyH_ready (rs := [6]) (by kernel_rfl) (by simp) ?_
      refine AllReadyH.cons rfl (fun K hK => ?_) AllReadyH.nil
      rw [if_pos (by kernel_rfl)]
      refine append_full_wp _ _ rfl g k (l.take k) [(p, q)] rfl (HDk.out.below hS1) ⟨u3.heap.size, 0, none⟩ 1 1 rfl b1 (by decide) (by have := HLk.out; rw [List.length_take]; simp; omega) ?_
      intro v1 w1 ho1 hb1
      have HO1 := hide (ho1.mono hS1.size)
      have hSk := bel_next hS1 hb1
      clear ho1 hb1 b1
      change K (Act.put _ (some 45) _) _
      refine hK.out _ _ ?hs38 (fun hS2 => ?_)
      case hs38 => exact hSk
      clear hK K
      try simp only [ly]
      refine wpAnyH_ready (rs := [8]) (by kernel_rfl) (by simp) ?_
      refine AllReadyH.cons rfl (fun K hK => ?_) AllReadyH.nil
      rw [if_pos (by kernel_rfl)]
      refine append_wp _ _ rfl u3.heap.size _ (l.take k ++ [(p, q)]) (l.drop k) rfl HO1.out pr nr cr rfl hpr (HDr.out.below hS2) (by have := HLk.out; rw [List.length_append, List.length_take, List.length_drop]; simp; omega) hS2.size ?_
      intro v2 w2 ho2 hb2
      have HO2 := hide ho2
      have hSm := hb2 _ hS2
      clear ho2 hb2
      change K (Act.put _ (some 47) _) _
      refine hK.out _ _ ?hs39 (fun hS3 => ?_)
      case hs39 => exact hSm
      clear hK K
      try simp only [ly]
      refine tkJ 9 4 hS3 ?_; simp only [ly]
      refine wpAnyH_done (by kernel_rfl) ?_ _
      go_wp2
      go_ret
      refine ⟨_, rfl, ?_, bel_next HB.out (by assumption)⟩
      rw [← HE.out]
      exact HO2.out.mono (Nat.le_trans hN HB.out.size)
end Go.Proofs.YtkbbegbpkndebaaGreat

namespace Go.Proofs.YtkbbegbpkndebaaGreat
open Go.RowKit
set_option linter.unusedVariables false
theorem put_next {l : List Dot} {k : Nat} (h : k < l.length) : (l.take (k + 1)).foldl putD [] = putD ((l.take k).foldl putD []) (l.getD k (0, 0)) := by
 rw [List.take_add_one, List.foldl_append]
 simp [List.getD_eq_getElem?_getD, h]
set_option maxHeartbeats 1000000 in
theorem OrderR_any (a : Option Addr) (n cap : Nat) (l : List Dot) (w : World) (hD : DS w a n l) (hn : n ≤ 100000) :
  Calls Tryz.prog 159 #[.slice a n cap] w fun e w' => ∃ v, e = .returned v ∧ OwnD w.heap.size w' v (ordD l) ∧ Below w.heap.size w w' := by
 obtain ⟨hlen, hmax, hcells⟩ := hD
 unfold maxLen at hmax
 have HL := hide hlen
 have HC := hide hcells
 clear hlen hcells
 go_enter Tryz.func159, Tryz.ntmps159
 go_wp2
 go_loopw [3, 4] (fun v i wr => ∃ k : Nat, k ≤ n ∧ i = .int .i64 k ∧ Hid (OwnD w.heap.size wr v ((l.take k).foldl putD [])) ∧ Hid (Below w.heap.size w wr)) (fun _ i _ => n - (intOf i).toNat)
 case atStart => exact ⟨0, by omega, rfl, OwnD.made w w.heap.size _ rfl (Nat.le_refl _), bel1 _ _⟩
 case round =>
  obtain ⟨k, hk, rfl, HO, HB⟩ := hrel
  by_cases hlt : k < n
  ·rcases HC.out with h0 | ⟨b, off, rfl, hc⟩
   ·omega
   ·have x0 := bcell HB.out (hc k hlt).1
    have x1 := bcell HB.out (hc k hlt).2
    have HN := hide (put_next (show k < l.length by rw [HL.out]; exact hlt))
    have hll : ((l.take k).foldl putD []).length ≤ 100000 := by
     have z := foldl_putD_len (l.take k) []
     rw [List.length_take] at z
     simp at z
     omega
    clear hc
    have HP := hide (PutR_any w.heap.size _ _ (l.getD k (0, 0)) wr HO.out HB.out.size hll)
    rw [← HN.out] at HP
    generalize l.getD k (0, 0) = x at x0 x1 HP
    obtain ⟨r, s⟩ := x
    clear HN hll
    go_wp2_with (go_at_call 131; refine HP.out.mono ?_; rintro e w' ⟨v', rfl, hO2, hb⟩)
    go_roundw
    case rel => exact ⟨k + 1, by omega, by go_num, hO2, bel_next HB.out hb⟩
    case measure => simp [intOf]; omega
  ·have hkl : k = n := by omega
   subst hkl
   rw [List.take_of_length_le (by rw [HL.out]; exact Nat.le_refl _)] at HO
   go_wp2
   go_ret
   exact ⟨_, rfl, HO.out, HB.out⟩
end Go.Proofs.YtkbbegbpkndebaaGreat

namespace Go.Proofs.YtkbbegbpkndebaaGreat
set_option linter.unusedVariables false
end Go.Proofs.YtkbbegbpkndebaaGreat

