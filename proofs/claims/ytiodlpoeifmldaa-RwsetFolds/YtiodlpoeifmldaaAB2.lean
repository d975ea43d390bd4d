/- What is said of memory and of numbers, gathered (WMath, CMath, CNum, CCheck, CArr, CSet, CRef, CRef2, CTurn, DMath, DMem, DFun1, DFun2, DPut, DAddR, WRefRecM). -/
import Derived.Test.YtiodlpoeifmldaaGBase
import Derived.Deep.RegionHeld3
import Derived.Laws.CopyOwn
import Derived.Laws.Rows
import Derived.Deep.WholeRow
import Derived.Sort.Grow
import Derived.Deep.Draws
import Derived.Laws.StructEq
import Derived.ArgAppend
namespace Go.Proofs.Ytiodlpoeifmldaa
def val (l : List Int) : Int := l.foldl (fun x o => x * 256 + o) 0
/-- How many bytes 'x' has. -/
def nb (x : Int) : Nat :=
  if x < 1 then 0 else if x < 256 then 1 else if x < 65536 then 2 else if x < 16777216 then 3 else if x < 4294967296 then 4
  else if x < 1099511627776 then 5 else if x < 281474976710656 then 6 else if x < 72057594037927936 then 7 else 8
def num (x : Int) : List Int := (nb x : Int) :: be (nb x) x
end Go.Proofs.Ytiodlpoeifmldaa

namespace Go.Proofs.Ytiodlpoeifmldaa
/-- May a number stand in a clock? -/
def inB (x : Int) : Bool := decide (0 ≤ x) && decide (x ≤ 1048576)
/-- May a clock be? -/
def mayC (c : List Int) : Bool := decide (c.length ≤ 5) && c.all inB
/-- A replica's number, replicas counted from 0. -/
def at5 (c : List Int) (k : Nat) : Int := if mayC c = true then c.getD k 0 else 0
/-- All five numbers. -/
def vec (c : List Int) : List Int := [at5 c 0, at5 c 1, at5 c 2, at5 c 3, at5 c 4]
/-- How many numbers stand ahead of the noughts at the end. -/
def plen : List Int → Nat
  | [] => 0
  | a :: r => if plen r = 0 ∧ a = 0 then 0 else plen r + 1
/-- Without noughts at the end. -/
def pln (x : List Int) : List Int := x.take (plen x)
theorem inB_iff {x : Int} : inB x = true ↔ 0 ≤ x ∧ x ≤ 1048576 := by simp [inB]
theorem mayC_iff {c : List Int} : mayC c = true ↔ c.length ≤ 5 ∧ ∀ x ∈ c, 0 ≤ x ∧ x ≤ 1048576 := by simp [mayC, inB]
theorem plen_le : ∀ x : List Int, plen x ≤ x.length
  | [] => Nat.le_refl _
  | a :: r => by
    have := plen_le r
    unfold plen
    split
    · omega
    · simp; omega
theorem plen_zero : ∀ l : List Int, plen (l ++ [0]) = plen l
  | [] => by simp [plen]
  | a :: r => by simp only [List.cons_append, plen, plen_zero r]
theorem plen_snoc {a : Int} (ha : a ≠ 0) : ∀ l : List Int, plen (l ++ [a]) = l.length + 1
  | [] => by simp [plen, ha]
  | b :: r => by simp [plen, plen_snoc ha r]
theorem pln_length (l : List Int) : (pln l).length = plen l := by unfold pln; rw [List.length_take]; have := plen_le l; omega
theorem pln_zero (l : List Int) : pln (l ++ [0]) = pln l := by
  unfold pln; rw [plen_zero, List.take_append_of_le_length (plen_le l)]
theorem pln_snoc {a : Int} (ha : a ≠ 0) (l : List Int) : pln (l ++ [a]) = l ++ [a] := by
  unfold pln; rw [plen_snoc ha, List.take_of_length_le (by simp)]
theorem drop_plen : ∀ l : List Int, l.drop (plen l) = List.replicate (l.length - plen l) 0
  | [] => rfl
  | a :: r => by
    have ih := drop_plen r
    unfold plen
    split
    · next h =>
      obtain ⟨h1, rfl⟩ := h
      rw [h1] at ih
      simp at ih
      simp [List.replicate_succ, ← ih]
    · simpa using ih
theorem pln_pad (l : List Int) : pln l ++ List.replicate (l.length - (pln l).length) 0 = l := by
  rw [pln_length, ← drop_plen]; exact List.take_append_drop _ _
theorem at5_bd (c : List Int) (k : Nat) : 0 ≤ at5 c k ∧ at5 c k ≤ 1048576 := by
  unfold at5
  split
  · next h =>
    rw [mayC_iff] at h
    by_cases hk : k < c.length
    · have : c.getD k 0 = c[k] := by simp [List.getD_eq_getElem?_getD, hk]
      rw [this]; exact h.2 _ (List.getElem_mem hk)
    · have : c.getD k 0 = 0 := by simp [List.getD_eq_getElem?_getD, Nat.not_lt.mp hk]
      rw [this]; omega
  · omega
theorem vec_bd (c : List Int) : ∀ a ∈ vec c, 0 ≤ a ∧ a ≤ 1048576 := by
  intro a ha
  simp only [vec, List.mem_cons, List.not_mem_nil, or_false] at ha
  rcases ha with rfl | rfl | rfl | rfl | rfl <;> exact at5_bd _ _
theorem vec_five (x : List Int) (hx : x.length = 5) (hb : ∀ a ∈ x, 0 ≤ a ∧ a ≤ 1048576) : vec x = x := by
  unfold vec at5
  simp only [if_pos (show mayC x = true from mayC_iff.2 ⟨by omega, hb⟩)]
  exact vec_eq x hx
theorem vec_len (c : List Int) : (vec c).length = 5 := rfl
theorem vec_getD (c : List Int) (k : Nat) (hk : k < 5) : (vec c).getD k 0 = at5 c k := by
  rcases k with _ | _ | _ | _ | _ | k
  · rfl
  · rfl
  · rfl
  · rfl
  · rfl
  · omega
/-- Of each replica the lesser one. -/
def meetL (a b : List Int) : List Int := [min (at5 a 0) (at5 b 0), min (at5 a 1) (at5 b 1), min (at5 a 2) (at5 b 2), min (at5 a 3) (at5 b 3), min (at5 a 4) (at5 b 4)]
/-- Is one within another one? -/
abbrev wth (a b : List Int) : Prop := at5 a 0 ≤ at5 b 0 ∧ at5 a 1 ≤ at5 b 1 ∧ at5 a 2 ≤ at5 b 2 ∧ at5 a 3 ≤ at5 b 3 ∧ at5 a 4 ≤ at5 b 4
/-- A clock with a replica's number (replicas counted from 0). -/
def setL (a : List Int) (r : Nat) (n : Int) : List Int := (vec a).set r n
theorem meetL_bd (a b : List Int) : ∀ x ∈ meetL a b, 0 ≤ x ∧ x ≤ 1048576 := by
  intro x hx
  simp only [meetL, List.mem_cons, List.not_mem_nil, or_false] at hx
  rcases hx with rfl | rfl | rfl | rfl | rfl <;> (have h1 := at5_bd a; have h2 := at5_bd b; constructor <;> first | (have := h1 0; have := h2 0; omega) | (have := h1 1; have := h2 1; omega) | (have := h1 2; have := h2 2; omega) | (have := h1 3; have := h2 3; omega) | (have := h1 4; have := h2 4; omega))
theorem setL_bd (a : List Int) (r : Nat) (n : Int) (h0 : 0 ≤ n) (h1 : n ≤ 1048576) : ∀ x ∈ setL a r n, 0 ≤ x ∧ x ≤ 1048576 := by
  intro x hx
  rcases List.mem_or_eq_of_mem_set hx with h | rfl
  · exact vec_bd a x h
  · exact ⟨h0, h1⟩
end Go.Proofs.Ytiodlpoeifmldaa

namespace Go.Proofs.Ytiodlpoeifmldaa
open Go.RowKit
set_option linter.unusedVariables false
theorem Try.infoI64 : (Try.prog.info? 3).map (fun i => (i.zero, i.size, i.bytes)) = some (some (.int .i64 0), 1, 8) := by kernel_rfl
/-- What is appended may be of another slice type of the same elements. -/
theorem append_types {P : Program} (t u ty e : TypeId) (ht : P.underlying t = some (.slice e)) (hu : P.underlying u = some (.slice e)) (args : Array Value) (w : World) :
    (Builtin.append_ #[t, u] ty args).run P w = (Builtin.append_ #[t, t] ty args).run P w := by
  unfold Builtin.append_
  rcases args[0]? with _ | s
  · simp
  · rcases args[1]? with _ | x
    · simp
    · cases s <;> simp only [List.getElem?_toArray, List.getElem?_cons_zero, List.getElem?_cons_succ, Sem.run_bind, Sem.run_pure, run_underlying ht, run_underlying hu, Result.andThen_ok]
/-- 'append(v, x...)', 'v' numbers of the call's own. -/
theorem append_nums {w : World} {ops : Array Oper} {rest : List Oper} {o : Oper} {a : Act} {Q : Exit → Act → World → Prop} (hgd : o.guard = none) (s x : Operand) (u : TypeId) (hu : Try.prog.underlying u = some (.slice 3))
    (ho : o.op = .call { callee := .builtin .append, args := #[s, x], argTypes := #[26, u] })
    (N : Nat) (v : Value) (l m : List Int) (hs : a.eval s = v) (hown : OwnN N w v l) (p : Addr) (len cap : Nat) (hx : a.eval x = .slice (some p) len cap) (hB : NS w (some p) len m)
    (hbig : (l.length + m.length) * 8 ≤ 140737488355328) (hN : N ≤ w.heap.size)
    (h : ∀ v' w', OwnN N w' v' (l ++ m) → w.grownBy w' v.ownBlock → (∀ w0, Below N w0 w → Below N w0 w') → wpList Try.prog ops Q rest (a.put o.dst v') w') : wpList Try.prog ops Q (o :: rest) a w := by
  obtain ⟨i0, hi, hz0, hz1, hz2⟩ := info_parts Try.infoI64
  obtain ⟨g1, g2, g4⟩ := hB
  refine wpList_plain hgd fun K hK => ?_
  obtain ⟨v', w', hr, h2, h3, _⟩ := run_append_own (P := Try.prog) w N 26 o.type 3 i0 (.int .i64 0) 1 8 Try.underlying26 hi hz0 hz1 hz2 rfl (by decide) v _ _ hown p len cap (m.map (Value.int .i64)) (by simp [g1])
    (by
      intro j u hj
      rw [List.getElem?_map, Option.map_eq_some_iff] at hj
      obtain ⟨y, hy, rfl⟩ := hj
      obtain ⟨hj1, hx2⟩ := List.getElem?_eq_some_iff.1 hy
      rcases g4 with h0 | ⟨b, off, hh, hc⟩
      · omega
      · cases hh
        have h1 := hc j (by omega)
        have h2 : m.getD j 0 = y := by simp [List.getD_eq_getElem?_getD, hy]
        rw [h2] at h1
        have h3 : (⟨b, off, none⟩ : Addr).add j = ⟨b, off + j, none⟩ := by
          by_cases hj0 : j = 0
          · subst hj0; simp [Addr.add]
          · simp [Addr.add, hj0]
        rw [h3]
        exact h1)
    (by
      intro u hu
      rw [List.mem_map] at hu
      obtain ⟨y, _, rfl⟩ := hu
      rfl)
    (by rw [← g1]; unfold maxLen; omega) (by rw [← g1]; omega) hN
  have e : l.length + len = (l ++ m).length := by rw [List.length_append, g1]
  rw [e, ← List.map_append] at h2
  unfold Oper.wp execOp
  simp only [ho, resolve, invoke, builtin, Sem.run_bind, Sem.run_pure, Result.andThen_ok, List.map_toArray, List.map_cons, List.map_nil, hs, hx, append_types _ _ _ _ Try.underlying26 hu, hr]
  exact hK _ _ (h v' w' h2 h3 (fun w0 hb => hb.grown h3 hN (fun j hj => (World.ownsRow.lt hown j hj).1)))
end Go.Proofs.Ytiodlpoeifmldaa

namespace Go.Proofs.Ytiodlpoeifmldaa
open Go.RowKit
set_option linter.unusedVariables false
theorem mayRep_any (r : Int) (w : World) : Calls Try.prog 75 #[.int .i64 r] w fun e w' => e = .returned (.bool (decide (1 ≤ r ∧ r ≤ 5))) ∧ w' = w := by
  by_cases h1 : r ≥ 1
  · by_cases h2 : r ≤ 5
    · go_enter Try.func75, Try.ntmps75
      go_wp2
      go_ret
      exact ⟨retB (by simp; omega), rfl⟩
    · go_enter Try.func75, Try.ntmps75
      go_wp2
      go_ret
      exact ⟨retB (by simp; omega), rfl⟩
  · go_enter Try.func75, Try.ntmps75
    go_wp2
    go_ret
    exact ⟨retB (by simp; omega), rfl⟩
theorem mayNum_any (r : Int) (w : World) : Calls Try.prog 66 #[.int .i64 r] w fun e w' => e = .returned (.bool (inB r)) ∧ w' = w := by
  by_cases h1 : r ≥ 0
  · by_cases h2 : r ≤ 1048576
    · go_enter Try.func66, Try.ntmps66
      go_wp2
      go_ret
      exact ⟨retB (by simp [inB]; omega), rfl⟩
    · go_enter Try.func66, Try.ntmps66
      go_wp2
      go_ret
      exact ⟨retB (by simp [inB]; omega), rfl⟩
  · go_enter Try.func66, Try.ntmps66
    go_wp2
    go_ret
    exact ⟨retB (by simp [inB]; omega), rfl⟩
/-- 'Check', as a number. -/
def chk (c : List Int) : Int := if mayC c = true then 0 else 1
theorem all_drop {l : List Int} {k : Nat} (h : k < l.length) : (l.drop k).all inB = (inB (l.getD k 0) && (l.drop (k + 1)).all inB) := by
  rw [List.drop_eq_getElem_cons h, List.all_cons]
  simp [List.getD_eq_getElem?_getD, h]
set_option maxHeartbeats 400000 in
theorem check_any (a : Option Addr) (n cap : Nat) (c : List Int) (w : World) (hN : NS w a n c) :
    Calls Try.prog 44 #[.slice a n cap] w fun e w' => e = .returned (.int .i64 (chk c)) ∧ w' = w := by
  obtain ⟨hlen, hmax, hcells⟩ := hN
  unfold maxLen at hmax
  by_cases h5 : n > 5
  · have HE : Hid (1 = chk c) := by
      have : mayC c = false := by simp [mayC, hlen]; omega
      unfold Hid chk; simp [this]
    clear hlen hcells
    go_enter Try.func44, Try.ntmps44
    go_wp2
    go_ret
    exact ⟨ret_int HE.out, rfl⟩
  · have hlen' := hide hlen
    have HM : Hid (mayC c = (c.drop 0).all inB) := by unfold Hid; simp [mayC, hlen]; omega
    have hcells' := hide hcells
    clear hlen hcells
    go_enter Try.func44, Try.ntmps44
    go_wp2
    go_loop [10] (fun i => ∃ k : Nat, k ≤ n ∧ i = .int .i64 k ∧ Hid (mayC c = (c.drop k).all inB)) (fun i => n - (intOf i).toNat)
    case atStart => exact ⟨0, by omega, rfl, HM⟩
    case round =>
      clear HM
      obtain ⟨k, hk, rfl, hH⟩ := hrel
      by_cases hlt : k < n
      · rcases hcells'.out with h0 | ⟨b, off, rfl, hc⟩
        · omega
        · have hck := hc k hlt
          have hst : Hid (mayC c = (inB (c.getD k 0) && (c.drop (k + 1)).all inB)) := by
            have h2 := hH.out
            rw [all_drop (by rw [hlen'.out]; exact hlt)] at h2
            exact h2
          clear hH hc hcells'
          generalize c.getD k 0 = x at hck hst
          rcases hb : inB x with _ | _
          · have HE : Hid (1 = chk c) := by have h2 := hst.out; rw [hb] at h2; unfold Hid chk; simp [h2]
            have mb := mayNum_any x
            rw [hb] at mb
            clear hst
            go_wp2_with (go_at_call 66; refine (mb _).mono ?_; rintro e w' ⟨rfl, rfl⟩)
            go_ret
            exact ⟨ret_int HE.out, rfl⟩
          · have hst2 : Hid (mayC c = (c.drop (k + 1)).all inB) := by have h2 := hst.out; rw [hb] at h2; unfold Hid; simpa using h2
            have mb := mayNum_any x
            rw [hb] at mb
            clear hst
            go_wp2_with (go_at_call 66; refine (mb _).mono ?_; rintro e w' ⟨rfl, rfl⟩)
            go_round
            case rel => exact ⟨k + 1, by omega, by go_num, hst2⟩
            case measure => simp [intOf]; omega
      · have hkl : k = n := by omega
        subst hkl
        have HE : Hid (0 = chk c) := by
          have h2 := hH.out
          rw [List.drop_of_length_le (by rw [hlen'.out]; exact Nat.le_refl _)] at h2
          unfold Hid chk; simp [h2]
        clear hH
        go_wp2
        go_ret
        exact ⟨ret_int HE.out, rfl⟩
set_option maxHeartbeats 400000 in
theorem may_ref (a : Option Addr) (n cap : Nat) (c : List Int) (w : World) (hN : NS w a n c) :
    Calls Try.prog 14 #[.slice a n cap] w fun e w' => e = .returned (.bool (mayC c)) ∧ w' = w := by
  obtain ⟨hlen, hmax, hcells⟩ := hN
  unfold maxLen at hmax
  have hlen' := hide hlen
  have HM : Hid (mayC c = (decide (n ≤ 5) && (c.drop 0).all inB)) := by unfold Hid; simp [mayC, hlen]
  have hcells' := hide hcells
  clear hlen hcells
  go_enter Try.func14, Try.ntmps14
  go_wp2
  go_loop [3] (fun i => ∃ k : Nat, k ≤ n ∧ i = .int .i64 k ∧ Hid (mayC c = (decide (n ≤ 5) && (c.drop k).all inB))) (fun i => n - (intOf i).toNat)
  case atStart => exact ⟨0, by omega, rfl, HM⟩
  case round =>
    clear HM
    obtain ⟨k, hk, rfl, hH⟩ := hrel
    by_cases hlt : k < n
    · rcases hcells'.out with h0 | ⟨b, off, rfl, hc⟩
      · omega
      · have hck := hc k hlt
        have hst : Hid (mayC c = (decide (n ≤ 5) && (inB (c.getD k 0) && (c.drop (k + 1)).all inB))) := by
          have h2 := hH.out
          rw [all_drop (by rw [hlen'.out]; exact hlt)] at h2
          exact h2
        clear hH hc hcells'
        generalize c.getD k 0 = x at hck hst
        by_cases h1 : x < 0
        · have HE : Hid (false = mayC c) := by have h2 := hst.out; unfold Hid; rw [h2]; simp [inB]; omega
          clear hst
          go_wp2
          go_ret
          exact ⟨retB HE.out, rfl⟩
        · by_cases h2 : x > 1048576
          · have HE : Hid (false = mayC c) := by have h2 := hst.out; unfold Hid; rw [h2]; simp [inB]; omega
            clear hst
            go_wp2
            go_ret
            exact ⟨retB HE.out, rfl⟩
          · have hst2 : Hid (mayC c = (decide (n ≤ 5) && (c.drop (k + 1)).all inB)) := by
              have h3 := hst.out
              have h4 : inB x = true := inB_iff.2 ⟨by omega, by omega⟩
              rw [h4] at h3; unfold Hid; simpa using h3
            clear hst
            go_wp2
            go_round
            case rel => exact ⟨k + 1, by omega, by go_num, hst2⟩
            case measure => simp [intOf]; omega
    · have hkl : k = n := by omega
      subst hkl
      have HE : Hid (decide (k ≤ 5) = mayC c) := by
        have h2 := hH.out
        rw [List.drop_of_length_le (by rw [hlen'.out]; exact Nat.le_refl _)] at h2
        unfold Hid; rw [h2]; simp
      clear hH
      go_wp2
      go_ret
      exact ⟨retB (by rw [← HE.out]; simp; omega), rfl⟩
set_option maxHeartbeats 400000 in
/-- The document's 'Get'. -/
theorem get_ref (a : Option Addr) (n cap : Nat) (c : List Int) (r : Int) (w : World) (hN : NS w a n c) (k : Nat) (hr : r = k + 1) :
    Calls Try.prog 31 #[.slice a n cap, .int .i64 r] w fun e w' => e = .returned (.int .i64 (at5 c k)) ∧ w' = w := by
  have mb := may_ref a n cap c w hN
  obtain ⟨hlen, hmax, hcells⟩ := hN
  unfold maxLen at hmax
  subst hr
  by_cases hm : mayC c = true
  · have h5 : n ≤ 5 := by have := (mayC_iff.1 hm).1; omega
    rw [hm] at mb
    by_cases hk : k < n
    · have HE : Hid (c.getD k 0 = at5 c k) := by unfold Hid at5; rw [if_pos hm]
      rcases hcells with h0 | ⟨b, off, rfl, hc⟩
      · omega
      · have hck := hc k hk
        have hw : ((k : Int) + 1 - 1) = k := by omega
        have e1 : ¬ ((k : Int) + 1 < 1) := by omega
        have e2 : ¬ ((k : Int) + 1 > n) := by omega
        clear hc hlen hm
        generalize c.getD k 0 = x at hck HE
        go_enter Try.func31, Try.ntmps31
        go_wp2_with (go_at_call 14; refine mb.mono ?_; rintro e w' ⟨rfl, rfl⟩)
        go_ret
        exact ⟨ret_int HE.out, rfl⟩
    · have HE : Hid (0 = at5 c k) := by
        unfold Hid at5; rw [if_pos hm]; simp [List.getD_eq_getElem?_getD, List.getElem?_eq_none (show c.length ≤ k by omega)]
      have e1 : ¬ ((k : Int) + 1 < 1) := by omega
      have e2 : ((k : Int) + 1 > n) := by omega
      clear hcells hlen hm
      go_enter Try.func31, Try.ntmps31
      go_wp2_with (go_at_call 14; refine mb.mono ?_; rintro e w' ⟨rfl, rfl⟩)
      go_ret
      exact ⟨ret_int HE.out, rfl⟩
  · have HE : Hid (0 = at5 c k) := by unfold Hid at5; rw [if_neg hm]
    rw [show mayC c = false by simpa using hm] at mb
    clear hcells hlen hm
    go_enter Try.func31, Try.ntmps31
    go_wp2_with (go_at_call 14; refine mb.mono ?_; rintro e w' ⟨rfl, rfl⟩)
    go_ret
    exact ⟨ret_int HE.out, rfl⟩
theorem get_ref_as (a : Option Addr) (n cap : Nat) (c : List Int) (r x : Int) (w : World) (hN : NS w a n c) (k : Nat) (hr : r = k + 1) (hx : at5 c k = x) :
    Calls Try.prog 31 #[.slice a n cap, .int .i64 r] w fun e w' => e = .returned (.int .i64 x) ∧ w' = w := by
  subst hx; exact get_ref a n cap c r w hN k hr
end Go.Proofs.Ytiodlpoeifmldaa

namespace Go.Proofs.Ytiodlpoeifmldaa
open Go.RowKit
set_option linter.unusedVariables false
theorem at5_may {c : List Int} (hm : mayC c = true) (k : Nat) : at5 c k = c.getD k 0 := if_pos hm
theorem five_row {c : List Int} (hm : mayC c = true) (z : Value) (hz : z = .int .i64 0) : (c.map (Value.int .i64) ++ List.drop c.length [z, z, z, z, z]) = [.int .i64 (at5 c 0), .int .i64 (at5 c 1), .int .i64 (at5 c 2), .int .i64 (at5 c 3), .int .i64 (at5 c 4)] := by
  subst hz
  simp only [at5_may hm]
  have h5 := (mayC_iff.1 hm).1
  match c, h5 with
  | [], _ => rfl
  | [_], _ => rfl
  | [_, _], _ => rfl
  | [_, _, _], _ => rfl
  | [_, _, _, _], _ => rfl
  | [_, _, _, _, _], _ => rfl
theorem Try.infoI1 : (Try.prog.info? 3).map (·.size) = some 1 := by kernel_rfl
theorem Try.info5 : (Try.prog.info? 99).map (·.size) = some 5 := by kernel_rfl
/-- 'copy(x[:], c)', 'x' five noughts. -/
theorem run_copy_five (w : World) (g : Nat) (hg : g = w.heap.size) (p : Option Addr) (n cap : Nat) (c : List Int) (hN : NS w p n c) (hm : mayC c = true) :
    (Builtin.copy_ #[25, 26] 3 #[.slice (some ⟨g, 0, none⟩) 5 5, .slice p n cap]).run Try.prog (w.alloc (.cells #[.int .i64 0, .int .i64 0, .int .i64 0, .int .i64 0, .int .i64 0] 99)) =
      .ok (goInt n) (w.alloc (.cells #[.int .i64 (at5 c 0), .int .i64 (at5 c 1), .int .i64 (at5 c 2), .int .i64 (at5 c 3), .int .i64 (at5 c 4)] 99)) := by
  subst hg
  have hN' := hN.alloc (.cells #[.int .i64 0, .int .i64 0, .int .i64 0, .int .i64 0, .int .i64 0] 99)
  obtain ⟨hl, _, hc⟩ := hN'
  have h5 : c.length ≤ 5 := (mayC_iff.1 hm).1
  rcases hc with h0 | ⟨b, off, rfl, hc⟩
  · subst h0
    obtain rfl : c = [] := List.eq_nil_of_length_eq_zero hl
    exact run_copy_none _ _ _ _ _ _ _ _ _ _ _ Try.underlying25 Try.infoI1 (by rfl)
  · rw [run_copy_row (P := Try.prog) _ _ _ _ 3 w.heap.size 0 5 5 ⟨b, off, none⟩ n cap _ _ (c.map (Value.int .i64)) Try.underlying25 Try.infoI1 (heap_alloc_new w _) (by rw [List.length_map, hl]; exact (Nat.min_eq_left (by omega)).symm) ?_ (by simp; omega) ?_]
    · rw [World.setRow_alloc_new]
      have e := five_row hm (.int .i64 0) rfl
      simp only [List.length_map, List.take_zero, List.nil_append, Nat.zero_add, hl]
      rw [hl] at e
      rw [e]
    · intro j v hj
      rw [List.getElem?_map, Option.map_eq_some_iff] at hj
      obtain ⟨y, hy, rfl⟩ := hj
      obtain ⟨hj1, hx2⟩ := List.getElem?_eq_some_iff.1 hy
      have h1 := hc j (by omega)
      have h2 : c.getD j 0 = y := by simp [List.getD_eq_getElem?_getD, hy]
      rw [h2] at h1
      have h3 : (⟨b, off, none⟩ : Addr).add j = ⟨b, off + j, none⟩ := by
        by_cases hj0 : j = 0
        · subst hj0; simp [Addr.add]
        · simp [Addr.add, hj0]
      rw [h3]
      exact h1
    · intro v hv
      rw [List.mem_map] at hv
      obtain ⟨y, _, rfl⟩ := hv
      rfl
set_option maxHeartbeats 400000 in
theorem numbers_any (a : Option Addr) (n cap : Nat) (c : List Int) (w : World) (hN : NS w a n c) :
    Calls Try.prog 76 #[.slice a n cap] w fun e w' => e = .returned (.agg #[.int .i64 (at5 c 0), .int .i64 (at5 c 1), .int .i64 (at5 c 2), .int .i64 (at5 c 3), .int .i64 (at5 c 4)]) ∧ Below w.heap.size w w' := by
  have HN := hide hN
  obtain ⟨hlen, hmax, hcells⟩ := hN
  unfold maxLen at hmax
  by_cases hm : mayC c = true
  · have HM := hide hm
    have hk : chk c = 0 := by unfold chk; rw [if_pos hm]
    clear hlen hcells hm
    go_enter Try.func76, Try.ntmps76
    have hcp := run_copy_five (w.alloc (.cells #[.int .i64 0, .int .i64 0, .int .i64 0, .int .i64 0, .int .i64 0] 99)) (w.heap.size + 1) (by simp) a n cap c (HN.out.alloc _) HM.out
    go_wp2_with (go_at_call 44; refine (check_any _ _ _ c _ ((HN.out.alloc _).alloc _)).mono ?_; rintro e w' ⟨rfl, rfl⟩; rw [hk])
    exact bodyPost_ret (results_cell_row rfl _ _ _ _ _ _ _ rfl (heap_alloc2_old _ _ _) Try.underlying99 rfl Try.info5) rfl ⟨rfl, bel2 _ _ _⟩
  · have hc0 : ∀ k, at5 c k = 0 := fun k => by unfold at5; rw [if_neg hm]
    have HC : Hid (∀ k, at5 c k = 0) := hc0
    have hk : chk c = 1 := by unfold chk; rw [if_neg hm]
    clear hlen hcells hm hc0
    go_enter Try.func76, Try.ntmps76
    go_wp2_with (go_at_call 44; refine (check_any _ _ _ c _ ((HN.out.alloc _).alloc _)).mono ?_; rintro e w' ⟨rfl, rfl⟩; rw [hk])
    refine bodyPost_ret (results_cell_row rfl _ _ _ _ _ _ _ rfl (heap_alloc2_old _ _ _) Try.underlying99 rfl Try.info5) rfl ⟨?_, bel2 _ _ _⟩
    rw [HC.out, HC.out, HC.out, HC.out, HC.out]
end Go.Proofs.Ytiodlpoeifmldaa

namespace Go.Proofs.Ytiodlpoeifmldaa
open Go.RowKit
set_option linter.unusedVariables false
/-- A replica's number, replicas counted from 1, as any integer. -/
def getZ (c : List Int) (r : Int) : Int := if 1 ≤ r ∧ r ≤ 5 then at5 c (r.toNat - 1) else 0
set_option maxHeartbeats 1000000 in
theorem Get_any (a : Option Addr) (n cap : Nat) (c : List Int) (r : Int) (w : World) (hN : NS w a n c) :
    Calls Try.prog 57 #[.slice a n cap, .int .i64 r] w fun e w' => e = .returned (.int .i64 (getZ c r)) ∧ Below w.heap.size w w' := by
  have HN := hide hN
  clear hN
  by_cases hr : 1 ≤ r ∧ r ≤ 5
  · have hm := mayRep_any r w
    rw [decide_eq_true hr] at hm
    have h5 : r = 1 ∨ r = 2 ∨ r = 3 ∨ r = 4 ∨ r = 5 := by omega
    clear hr
    rcases h5 with rfl | rfl | rfl | rfl | rfl
    · have HE : Hid (at5 c 0 = getZ c 1) := rfl
      have i0 : ∀ w : World, (Instr.index 99 (.agg #[.int .i64 (at5 c 0), .int .i64 (at5 c 1), .int .i64 (at5 c 2), .int .i64 (at5 c 3), .int .i64 (at5 c 4)]) (.int .i64 0)).run Try.prog w = .ok (.int .i64 (at5 c 0)) w := fun _ => by kernel_rfl
      go_enter Try.func57, Try.ntmps57
      go_wp2_with (first
        | (go_at_call 75; refine hm.mono ?_; rintro e w' ⟨rfl, rfl⟩)
        | (go_at_call 76; refine (numbers_any _ _ _ c _ HN.out).mono ?_; rintro e w1 ⟨rfl, hb1⟩; have HB1 := hide hb1; clear hb1))
      go_ret
      exact ⟨ret_int HE.out, HB1.out⟩
    · have HE : Hid (at5 c 1 = getZ c 2) := rfl
      have i0 : ∀ w : World, (Instr.index 99 (.agg #[.int .i64 (at5 c 0), .int .i64 (at5 c 1), .int .i64 (at5 c 2), .int .i64 (at5 c 3), .int .i64 (at5 c 4)]) (.int .i64 1)).run Try.prog w = .ok (.int .i64 (at5 c 1)) w := fun _ => by kernel_rfl
      go_enter Try.func57, Try.ntmps57
      go_wp2_with (first
        | (go_at_call 75; refine hm.mono ?_; rintro e w' ⟨rfl, rfl⟩)
        | (go_at_call 76; refine (numbers_any _ _ _ c _ HN.out).mono ?_; rintro e w1 ⟨rfl, hb1⟩; have HB1 := hide hb1; clear hb1))
      go_ret
      exact ⟨ret_int HE.out, HB1.out⟩
    · have HE : Hid (at5 c 2 = getZ c 3) := rfl
      have i0 : ∀ w : World, (Instr.index 99 (.agg #[.int .i64 (at5 c 0), .int .i64 (at5 c 1), .int .i64 (at5 c 2), .int .i64 (at5 c 3), .int .i64 (at5 c 4)]) (.int .i64 2)).run Try.prog w = .ok (.int .i64 (at5 c 2)) w := fun _ => by kernel_rfl
      go_enter Try.func57, Try.ntmps57
      go_wp2_with (first
        | (go_at_call 75; refine hm.mono ?_; rintro e w' ⟨rfl, rfl⟩)
        | (go_at_call 76; refine (numbers_any _ _ _ c _ HN.out).mono ?_; rintro e w1 ⟨rfl, hb1⟩; have HB1 := hide hb1; clear hb1))
      go_ret
      exact ⟨ret_int HE.out, HB1.out⟩
    · have HE : Hid (at5 c 3 = getZ c 4) := rfl
      have i0 : ∀ w : World, (Instr.index 99 (.agg #[.int .i64 (at5 c 0), .int .i64 (at5 c 1), .int .i64 (at5 c 2), .int .i64 (at5 c 3), .int .i64 (at5 c 4)]) (.int .i64 3)).run Try.prog w = .ok (.int .i64 (at5 c 3)) w := fun _ => by kernel_rfl
      go_enter Try.func57, Try.ntmps57
      go_wp2_with (first
        | (go_at_call 75; refine hm.mono ?_; rintro e w' ⟨rfl, rfl⟩)
        | (go_at_call 76; refine (numbers_any _ _ _ c _ HN.out).mono ?_; rintro e w1 ⟨rfl, hb1⟩; have HB1 := hide hb1; clear hb1))
      go_ret
      exact ⟨ret_int HE.out, HB1.out⟩
    · have HE : Hid (at5 c 4 = getZ c 5) := rfl
      have i0 : ∀ w : World, (Instr.index 99 (.agg #[.int .i64 (at5 c 0), .int .i64 (at5 c 1), .int .i64 (at5 c 2), .int .i64 (at5 c 3), .int .i64 (at5 c 4)]) (.int .i64 4)).run Try.prog w = .ok (.int .i64 (at5 c 4)) w := fun _ => by kernel_rfl
      go_enter Try.func57, Try.ntmps57
      go_wp2_with (first
        | (go_at_call 75; refine hm.mono ?_; rintro e w' ⟨rfl, rfl⟩)
        | (go_at_call 76; refine (numbers_any _ _ _ c _ HN.out).mono ?_; rintro e w1 ⟨rfl, hb1⟩; have HB1 := hide hb1; clear hb1))
      go_ret
      exact ⟨ret_int HE.out, HB1.out⟩
  · have hm := mayRep_any r w
    rw [decide_eq_false hr] at hm
    have HE : Hid (0 = getZ c r) := by unfold Hid getZ; rw [if_neg hr]
    clear hr
    go_enter Try.func57, Try.ntmps57
    go_wp2_with (go_at_call 75; refine hm.mono ?_; rintro e w' ⟨rfl, rfl⟩)
    go_ret
    exact ⟨ret_int HE.out, Below.refl _ _⟩
end Go.Proofs.Ytiodlpoeifmldaa

namespace Go.Proofs.Ytiodlpoeifmldaa
open Go.RowKit
set_option linter.unusedVariables false
def lenV : Value → Nat
  | .slice _ n _ => n
  | _ => 0
/-- 'append(v, x)', 'v' numbers of the call's own. -/
theorem append_one {w : World} {ops : Array Oper} {rest : List Oper} {o : Oper} {a : Act} {Q : Exit → Act → World → Prop} (hgd : o.guard = none) (s x : Operand)
    (ho : o.op = .call { callee := .builtin .append, args := #[s, x], argTypes := #[26, 26] })
    (N : Nat) (v : Value) (l : List Int) (y : Int) (g : Nat) (hg : g = w.heap.size) (hs : a.eval s = v) (hown : OwnN N w v l) (hx : a.eval x = .slice (some ⟨g, 0, none⟩) 1 1)
    (hbig : l.length ≤ 1000000) (hN : N ≤ w.heap.size)
    (h : ∀ v' w', OwnN N w' v' (l ++ [y]) → (∀ w0, Below N w0 w → Below N w0 w') → wpList Try.prog ops Q rest (a.put o.dst v') w') : wpList Try.prog ops Q (o :: rest) a (w.alloc (.cells #[.int .i64 y] 3)) := by
  refine append_nums hgd s x 26 Try.underlying26 ho N v l [y] hs (hown.alloc _) ⟨g, 0, none⟩ 1 1 hx (NS.one w g hg y) (by simp; omega) (by simp; omega) ?_
  intro v' w' h1 _ h2
  exact h v' w' h1 (fun w0 hb => h2 w0 (hb.alloc hN _))
theorem vec_take (c : List Int) (k : Nat) (hk : k < 5) : (vec c).take (k + 1) = (vec c).take k ++ [at5 c k] := by
  rw [List.take_add_one]
  have e : (vec c)[k]? = some (at5 c k) := by
    rw [← vec_getD c k hk]
    simp [List.getD_eq_getElem?_getD, List.getElem?_eq_getElem (show k < (vec c).length by simp [vec_len]; omega)]
  rw [e]; rfl
set_option maxHeartbeats 2000000 in
theorem plain_ref (a : Option Addr) (n cap : Nat) (c : List Int) (w : World) (hN : NS w a n c) :
    Calls Try.prog 70 #[.slice a n cap] w fun e w' => ∃ v, e = .returned v ∧ OwnN w.heap.size w' v (pln (vec c)) ∧ Below w.heap.size w w' := by
  have HN := hide hN
  clear hN
  go_enter Try.func70, Try.ntmps70
  go_wp2
  go_loopw [3, 4] (fun v i wr => ∃ k : Nat, k ≤ 5 ∧ i = .int .i64 (k + 1) ∧ Hid (OwnN w.heap.size wr v (pln ((vec c).take k))) ∧ Hid (Below w.heap.size w wr)) (fun _ i _ => 6 - (intOf i).toNat)
  case atStart => exact ⟨0, by omega, rfl, OwnN.made _ _ _ rfl (Nat.le_refl _), bel1 _ _⟩
  case round =>
    obtain ⟨k, hk, rfl, hO, hB⟩ := hrel
    by_cases hlt : k < 5
    · have hle : ((k : Int) + 1 ≤ 5) := by omega
      have HG := hide (get_ref a n cap c (k + 1) wr (HN.out.below hB.out) k rfl)
      have hbd := at5_bd c k
      have HV := hide (vec_take c k hlt)
      by_cases hz : at5 c k > 0
      · have HL : Hid (((vec c).take k).length = k) := by unfold Hid; rw [List.length_take, vec_len]; omega
        have hp : Hid (pln ((vec c).take (k + 1)) = (vec c).take k ++ [at5 c k]) := by unfold Hid; rw [HV.out]; exact pln_snoc (by omega) _
        have HP := hide (pln_pad ((vec c).take k))
        rw [HL.out] at HP
        generalize (vec c).take k = L at *
        obtain ⟨x, hx0⟩ : ∃ x, x = at5 c k := ⟨_, rfl⟩
        have hx := hide hx0
        rw [← hx0] at HG hbd hz hp
        clear hx0
        clear HV
        go_wp2_with (go_at_call 31; refine HG.out.mono ?_; rintro e w' ⟨rfl, rfl⟩)
        go_loopw [3] (fun v wr' => ∃ j : Nat, (pln L).length + j ≤ k ∧ Hid (OwnN w.heap.size wr' v (pln L ++ List.replicate j 0)) ∧ Hid (Below w.heap.size w wr')) (fun v _ => k - lenV v)
        case atStart => exact ⟨0, by rw [pln_length]; have := plen_le L; have := HL.out; omega, by unfold Hid; simpa using hO.out, hB⟩
        case round =>
          clear hO hB
          obtain ⟨j, hj, hO2, hB2⟩ := hrel
          obtain ⟨p, cp, hv, _, _⟩ := hO2.out.open
          have hlen : (pln L ++ List.replicate j 0).length = (pln L).length + j := by simp
          obtain ⟨m, hm⟩ : ∃ m, m = (pln L).length + j := ⟨_, rfl⟩
          rw [hlen, ← hm] at hv
          rw [← hm] at hj
          subst hv
          have hsz := hB2.out.size
          have hw : ((k : Int) + 1 - 1) = k := by omega
          by_cases hmk : m < k
          · have hmk' : (m : Int) < k := by omega
            have HM := hide hm
            clear hm hlen
            go_wp2_with (at_builtin; refine Stop.at ?_)
            unfold Stop
            refine append_one rfl _ _ rfl w.heap.size (.slice p m cp) (pln L ++ List.replicate j 0) 0 _ rfl rfl hO2.out rfl (by simp; have := HM.out; omega) hsz ?_
            intro v' w' h1 h2
            have HO3 := hide h1
            have HB3 := hide (h2 _ hB2.out)
            have hlv : lenV v' = m + 1 := by obtain ⟨p', c', rfl, _, _⟩ := h1.open; simp [lenV]; have := HM.out; omega
            clear h1 h2 hO2 hB2
            go_wp2
            go_roundw
            case rel => exact ⟨j + 1, by have := HM.out; omega, by unfold Hid; rw [List.replicate_succ', ← List.append_assoc]; exact HO3.out, HB3⟩
            case measure => rw [hlv]; simp [lenV]; omega
          · have hmk' : ¬ (m : Int) < k := by omega
            have hE : Hid (OwnN w.heap.size wr (.slice p m cp) L) := by
              have h1 := hO2.out
              have h2 : j = k - (pln L).length := by omega
              rw [h2, HP.out] at h1
              exact h1
            have HM : Hid (L.length = k) := HL
            have HG2 := hide (get_ref a n cap c (k + 1) wr (HN.out.below hB2.out) k rfl)
            clear hm hlen hO2
            rw [← hx.out] at HG2
            go_wp2_with (first
              | (go_at_call 31; refine HG2.out.mono ?_; rintro e w' ⟨rfl, rfl⟩)
              | (at_builtin; refine Stop.at ?_))
            unfold Stop
            refine append_one rfl _ _ rfl w.heap.size (.slice p m cp) L x _ rfl rfl hE.out rfl (by rw [HM.out]; omega) hsz ?_
            intro v' w' h1 h2
            have HO3 := hide h1
            have HB3 := hide (h2 _ hB2.out)
            clear h1 h2 hE hB2
            go_wp2
            go_roundw
            case rel => exact ⟨k + 1, by omega, by go_num, by unfold Hid; rw [hp.out]; exact HO3.out, HB3⟩
            case measure => simp [intOf]; omega
      · have hz0 : at5 c k = 0 := by omega
        have hp : Hid (pln ((vec c).take (k + 1)) = pln ((vec c).take k)) := by unfold Hid; rw [HV.out, hz0]; exact pln_zero _
        rw [hz0] at HG
        clear hz hbd HV hz0
        go_wp2_with (go_at_call 31; refine HG.out.mono ?_; rintro e w' ⟨rfl, rfl⟩)
        go_roundw
        case rel => exact ⟨k + 1, by omega, by go_num, by unfold Hid; rw [hp.out]; exact hO.out, hB⟩
        case measure => simp [intOf]; omega
    · have hkl : k = 5 := by omega
      subst hkl
      go_wp2
      go_ret
      exact ⟨_, rfl, hO.out, hB.out⟩
end Go.Proofs.Ytiodlpoeifmldaa

namespace Go.Proofs.Ytiodlpoeifmldaa
open Go.RowKit
set_option linter.unusedVariables false
theorem wth_all (c d : List Int) : wth c d ↔ ∀ i, i < 5 → at5 c i ≤ at5 d i := by
  constructor
  · intro h i hi
    unfold wth at h
    have h5 : i = 0 ∨ i = 1 ∨ i = 2 ∨ i = 3 ∨ i = 4 := by omega
    rcases h5 with rfl | rfl | rfl | rfl | rfl <;> omega
  · intro h
    exact ⟨h 0 (by omega), h 1 (by omega), h 2 (by omega), h 3 (by omega), h 4 (by omega)⟩
def wthFrom (c d : List Int) (k : Nat) : Prop := ∀ i, k ≤ i → i < 5 → at5 c i ≤ at5 d i
theorem wthFrom_step {c d : List Int} {k : Nat} (hk : k < 5) : wthFrom c d k ↔ at5 c k ≤ at5 d k ∧ wthFrom c d (k + 1) := by
  constructor
  · intro h
    exact ⟨h k (Nat.le_refl _) hk, fun i h1 h2 => h i (by omega) h2⟩
  · rintro ⟨h0, h⟩ i h1 h2
    by_cases hi : i = k
    · subst hi; exact h0
    · exact h i (by omega) h2
set_option maxHeartbeats 1000000 in
theorem within_ref (a b : Option Addr) (n cap m cap' : Nat) (c d : List Int) (w : World) (hN : NS w a n c) (hM : NS w b m d) :
    Calls Try.prog 48 #[.slice a n cap, .slice b m cap'] w fun e w' => e = .returned (.bool (decide (wth c d))) ∧ w' = w := by
  obtain ⟨bb, hbb⟩ : ∃ bb, bb = decide (wth c d) := ⟨_, rfl⟩
  rw [← hbb]
  have HBB := hide hbb
  clear hbb
  have HN := hide hN
  have HM := hide hM
  clear hN hM
  have H0 : Hid (wth c d ↔ wthFrom c d 0) := by unfold Hid wthFrom; rw [wth_all]; simp
  go_enter Try.func48, Try.ntmps48
  go_wp2
  go_loop [5] (fun i => ∃ k : Nat, k ≤ 5 ∧ i = .int .i64 (k + 1) ∧ Hid (wth c d ↔ wthFrom c d k)) (fun i => 6 - (intOf i).toNat)
  case atStart => exact ⟨0, by omega, rfl, H0⟩
  case round =>
    clear H0
    obtain ⟨k, hk, rfl, hH⟩ := hrel
    by_cases hlt : k < 5
    · have hle : ((k : Int) + 1 ≤ 5) := by omega
      have hst : Hid (wth c d ↔ at5 c k ≤ at5 d k ∧ wthFrom c d (k + 1)) := by have h := hH.out; rw [wthFrom_step hlt] at h; exact h
      have HG := hide (get_ref a n cap c (k + 1) w HN.out k rfl)
      have HK := hide (get_ref b m cap' d (k + 1) w HM.out k rfl)
      generalize at5 c k = x at *
      generalize at5 d k = y at *
      clear hH
      by_cases hxy : x > y
      · have HE : Hid (false = bb) := by unfold Hid; rw [HBB.out]; symm; rw [decide_eq_false_iff_not, hst.out]; omega
        go_wp2_with (first
          | (go_at_call_of 31 a; refine HG.out.mono ?_; rintro e w' ⟨rfl, rfl⟩)
          | (go_at_call 31; refine HK.out.mono ?_; rintro e w' ⟨rfl, rfl⟩))
        go_ret
        exact ⟨retB HE.out, rfl⟩
      · have hst2 : Hid (wth c d ↔ wthFrom c d (k + 1)) := by unfold Hid; rw [hst.out]; constructor <;> intro h <;> first | exact h.2 | exact ⟨by omega, h⟩
        go_wp2_with (first
          | (go_at_call_of 31 a; refine HG.out.mono ?_; rintro e w' ⟨rfl, rfl⟩)
          | (go_at_call 31; refine HK.out.mono ?_; rintro e w' ⟨rfl, rfl⟩))
        go_round
        case rel => exact ⟨k + 1, by omega, by go_num, hst2⟩
        case measure => simp [intOf]; omega
    · have hkl : k = 5 := by omega
      subst hkl
      have HE : Hid (true = bb) := by unfold Hid; rw [HBB.out]; symm; rw [decide_eq_true_iff, hH.out]; intro i h1 h2; omega
      clear hH
      go_wp2
      go_ret
      exact ⟨retB HE.out, rfl⟩
theorem take_snoc {L : List Int} {k : Nat} {x : Int} (hk : k < L.length) (hx : L.getD k 0 = x) : L.take (k + 1) = L.take k ++ [x] := by
  rw [List.take_add_one]
  have e : L[k]? = some x := by rw [← hx]; simp [List.getD_eq_getElem?_getD, hk]
  rw [e]; rfl
theorem meetL_getD (c d : List Int) (k : Nat) (hk : k < 5) : (meetL c d).getD k 0 = min (at5 c k) (at5 d k) := by
  rcases k with _ | _ | _ | _ | _ | k
  · rfl
  · rfl
  · rfl
  · rfl
  · rfl
  · omega
set_option maxHeartbeats 2000000 in
theorem meet_ref (a b : Option Addr) (n cap m cap' : Nat) (c d : List Int) (w : World) (hN : NS w a n c) (hM : NS w b m d) :
    Calls Try.prog 51 #[.slice a n cap, .slice b m cap'] w fun e w' => ∃ v, e = .returned v ∧ OwnN w.heap.size w' v (pln (meetL c d)) ∧ Below w.heap.size w w' := by
  have HN := hide hN
  have HM := hide hM
  clear hN hM
  go_enter Try.func51, Try.ntmps51
  go_wp2
  go_loopw [5, 6] (fun v i wr => ∃ k : Nat, k ≤ 5 ∧ i = .int .i64 (k + 1) ∧ Hid (OwnN w.heap.size wr v ((meetL c d).take k)) ∧ Hid (Below w.heap.size w wr)) (fun _ i _ => 6 - (intOf i).toNat)
  case atStart => exact ⟨0, by omega, rfl, OwnN.made _ _ _ rfl (Nat.le_refl _), bel1 _ _⟩
  case round =>
    obtain ⟨k, hk, rfl, hO, hB⟩ := hrel
    have hsz := hB.out.size
    by_cases hlt : k < 5
    · have hle : ((k : Int) + 1 ≤ 5) := by omega
      obtain ⟨p0, c0, hv, _, _⟩ := hO.out.open
      subst hv
      have HG := hide (get_ref a n cap c (k + 1) wr (HN.out.below hB.out) k rfl)
      have HK := hide (get_ref b m cap' d (k + 1) wr (HM.out.below hB.out) k rfl)
      have HT := hide (take_snoc (L := meetL c d) (k := k) hlt (meetL_getD c d k hlt))
      have HLn : Hid (((meetL c d).take k).length ≤ 5) := by unfold Hid; rw [List.length_take]; exact Nat.min_le_right _ _
      generalize at5 c k = x at *
      generalize at5 d k = y at *
      generalize (meetL c d).take k = T at *
      by_cases hxy : x < y
      · have hm : min x y = x := by omega
        rw [hm] at HT
        clear hm
        go_wp2_with (first
          | (go_at_call_of 31 (Value.slice a n cap); refine HG.out.mono ?_; rintro e w' ⟨rfl, rfl⟩)
          | (go_at_call 31; refine HK.out.mono ?_; rintro e w' ⟨rfl, rfl⟩)
          | (at_builtin; refine Stop.at ?_))
        unfold Stop
        refine append_one rfl _ _ rfl w.heap.size (.slice p0 T.length c0) T x _ rfl rfl hO.out rfl (by have := HLn.out; omega) hsz ?_
        intro v' w' h1 h2
        have HO3 := hide h1
        have HB3 := hide (h2 _ hB.out)
        clear h1 h2 hO hB
        go_wp2
        go_roundw
        case rel => exact ⟨k + 1, by omega, by go_num, by unfold Hid; rw [HT.out]; exact HO3.out, HB3⟩
        case measure => simp [intOf]; omega
      · have hm : min x y = y := by omega
        rw [hm] at HT
        clear hm
        go_wp2_with (first
          | (go_at_call_of 31 (Value.slice a n cap); refine HG.out.mono ?_; rintro e w' ⟨rfl, rfl⟩)
          | (go_at_call 31; refine HK.out.mono ?_; rintro e w' ⟨rfl, rfl⟩)
          | (at_builtin; refine Stop.at ?_))
        unfold Stop
        refine append_one rfl _ _ rfl w.heap.size (.slice p0 T.length c0) T y _ rfl rfl hO.out rfl (by have := HLn.out; omega) hsz ?_
        intro v' w' h1 h2
        have HO3 := hide h1
        have HB3 := hide (h2 _ hB.out)
        clear h1 h2 hO hB
        go_wp2
        go_roundw
        case rel => exact ⟨k + 1, by omega, by go_num, by unfold Hid; rw [HT.out]; exact HO3.out, HB3⟩
        case measure => simp [intOf]; omega
    · have hkl : k = 5 := by omega
      subst hkl
      have hO5 : OwnN w.heap.size wr _ (meetL c d) := hO.out
      obtain ⟨p, cp, hv, hns, hcp⟩ := hO5.open
      subst hv
      have HNS := hide hns
      clear hns hcp hO hO5
      go_wp2_with (go_at_call 70; refine (plain_ref _ _ _ _ _ HNS.out).mono ?_; rintro e w3 ⟨v, rfl, hown, hb3⟩; have HO := hide hown; have HB3 := hide hb3; clear hown hb3)
      go_ret
      refine ⟨_, rfl, ?_, bel_next hB.out HB3.out⟩
      have h1 := HO.out.mono hB.out.size
      rw [vec_five (meetL c d) (rfl) (meetL_bd c d)] at h1
      exact h1
theorem setL_len (c : List Int) (r : Nat) (x : Int) : (setL c r x).length = 5 := by simp [setL, vec_len]
theorem setL_getD (c : List Int) (r k : Nat) (x : Int) (hk : k < 5) : (setL c r x).getD k 0 = if k = r then x else at5 c k := by
  unfold setL
  rw [List.getD_eq_getElem?_getD, List.getElem?_set]
  by_cases h : r = k
  · subst h; simp [vec_len, hk]
  · rw [if_neg h, if_neg (fun e => h e.symm), ← vec_getD c k hk, List.getD_eq_getElem?_getD]
set_option maxHeartbeats 2000000 in
theorem set_ref (a : Option Addr) (n cap : Nat) (c : List Int) (rep x : Int) (r : Nat) (hrep : rep = r + 1) (hr5 : r < 5) (hx0 : 0 ≤ x) (hx1 : x ≤ 1048576) (w : World) (hN : NS w a n c) :
    Calls Try.prog 49 #[.slice a n cap, .int .i64 rep, .int .i64 x] w fun e w' => ∃ v, e = .returned v ∧ OwnN w.heap.size w' v (pln (setL c r x)) ∧ Below w.heap.size w w' := by
  have HN := hide hN
  clear hN
  subst hrep
  go_enter Try.func49, Try.ntmps49
  go_wp2
  go_loopw [7, 8] (fun v i wr => ∃ k : Nat, k ≤ 5 ∧ i = .int .i64 (k + 1) ∧ Hid (OwnN w.heap.size wr v ((setL c r x).take k)) ∧ Hid (Below w.heap.size w wr)) (fun _ i _ => 6 - (intOf i).toNat)
  case atStart => exact ⟨0, by omega, rfl, OwnN.made _ _ _ rfl (Nat.le_refl _), bel1 _ _⟩
  case round =>
    obtain ⟨k, hk, rfl, hO, hB⟩ := hrel
    have hsz := hB.out.size
    by_cases hlt : k < 5
    · have hle : ((k : Int) + 1 ≤ 5) := by omega
      obtain ⟨p0, c0, hv, _, _⟩ := hO.out.open
      subst hv
      have HG := hide (get_ref a n cap c (k + 1) wr (HN.out.below hB.out) k rfl)
      have HT := hide (take_snoc (L := setL c r x) (k := k) (by rw [setL_len]; exact hlt) (setL_getD c r k x hlt))
      have HLn : Hid (((setL c r x).take k).length ≤ 5) := by unfold Hid; rw [List.length_take, setL_len]; exact Nat.min_le_right _ _
      generalize at5 c k = y at *
      generalize (setL c r x).take k = T at *
      by_cases hkr : k = r
      · rw [if_pos hkr] at HT
        have hkr1 : ((k : Int) + 1 == (r : Int) + 1) = true := by simp; omega
        have HKR := hide hkr
        clear hkr
        go_wp2_with (at_builtin; refine Stop.at ?_)
        unfold Stop
        refine append_one rfl _ _ rfl w.heap.size (.slice p0 T.length c0) T x _ rfl rfl hO.out rfl (by have := HLn.out; omega) hsz ?_
        intro v' w' h1 h2
        have HO3 := hide h1
        have HB3 := hide (h2 _ hB.out)
        clear h1 h2 hO hB
        go_wp2
        go_roundw
        case rel => exact ⟨k + 1, by omega, by go_num, by unfold Hid; rw [HT.out]; exact HO3.out, HB3⟩
        case measure => simp [intOf]; omega
      · rw [if_neg hkr] at HT
        have hkr1 : ((k : Int) + 1 == (r : Int) + 1) = false := by simp; omega
        have hkr2 : ¬ ((k : Int) + 1 = (r : Int) + 1) := by omega
        go_wp2_with (first
          | (go_at_call 31; refine HG.out.mono ?_; rintro e w' ⟨rfl, rfl⟩)
          | (at_builtin; refine Stop.at ?_))
        unfold Stop
        refine append_one rfl _ _ rfl w.heap.size (.slice p0 T.length c0) T y _ rfl rfl hO.out rfl (by have := HLn.out; omega) hsz ?_
        intro v' w' h1 h2
        have HO3 := hide h1
        have HB3 := hide (h2 _ hB.out)
        clear h1 h2 hO hB
        go_wp2
        go_roundw
        case rel => exact ⟨k + 1, by omega, by go_num, by unfold Hid; rw [HT.out]; exact HO3.out, HB3⟩
        case measure => simp [intOf]; omega
    · have hkl : k = 5 := by omega
      subst hkl
      have hO5 := hO.out
      rw [List.take_of_length_le (by rw [setL_len]; exact Nat.le_refl _)] at hO5
      obtain ⟨p, cp, hv, hns, hcp⟩ := hO5.open
      subst hv
      have HNS := hide hns
      clear hns hcp hO hO5
      go_wp2_with (go_at_call 70; refine (plain_ref _ _ _ _ _ HNS.out).mono ?_; rintro e w3 ⟨v, rfl, hown, hb3⟩; have HO := hide hown; have HB3 := hide hb3; clear hown hb3)
      go_ret
      refine ⟨_, rfl, ?_, bel_next hB.out HB3.out⟩
      have h1 := HO.out.mono hB.out.size
      rw [vec_five (setL c r x) (setL_len c r x) (setL_bd c r x hx0 hx1)] at h1
      exact h1
end Go.Proofs.Ytiodlpoeifmldaa

namespace Go.Proofs.Ytiodlpoeifmldaa
open Go.RowKit
set_option linter.unusedVariables false
theorem getZ_out (c : List Int) (k : Nat) (hk : 5 ≤ k) : at5 c k = 0 := by
  unfold at5
  split
  · next h =>
    have := (mayC_iff.1 h).1
    simp [List.getD_eq_getElem?_getD, List.getElem?_eq_none (show c.length ≤ k by omega)]
  · rfl
set_option maxHeartbeats 400000 in
/-- The document's 'Get', of any replica. -/
theorem get_refZ (a : Option Addr) (n cap : Nat) (c : List Int) (r : Int) (w : World) (hN : NS w a n c) :
    Calls Try.prog 31 #[.slice a n cap, .int .i64 r] w fun e w' => e = .returned (.int .i64 (getZ c r)) ∧ w' = w := by
  by_cases h1 : r < 1
  · have hz : getZ c r = 0 := by unfold getZ; rw [if_neg (by omega)]
    rw [hz]
    have mb := may_ref a n cap c w hN
    clear hN hz
    rcases hm : mayC c with _ | _
    · rw [hm] at mb
      go_enter Try.func31, Try.ntmps31
      go_wp2_with (go_at_call 14; refine mb.mono ?_; rintro e w' ⟨rfl, rfl⟩)
      go_ret
      exact ⟨rfl, rfl⟩
    · rw [hm] at mb
      go_enter Try.func31, Try.ntmps31
      go_wp2_with (go_at_call 14; refine mb.mono ?_; rintro e w' ⟨rfl, rfl⟩)
      go_ret
      exact ⟨rfl, rfl⟩
  · refine get_ref_as a n cap c r _ w hN (r.toNat - 1) (by omega) ?_
    unfold getZ
    split
    · rfl
    · exact getZ_out c _ (by omega)
end Go.Proofs.Ytiodlpoeifmldaa

namespace Go.Proofs.Ytiodlpoeifmldaa
def cmpD (a b : Dot) : Int := if lessD a b = true then -1 else if lessD b a = true then 1 else 0
theorem cmpD_lt {a b : Dot} : cmpD a b < 0 ↔ lessD a b = true := by
  unfold cmpD
  split
  · simp [*]
  · split <;> simp [*]
theorem putD_len {d : Dot} : ∀ {l : List Dot}, (putD l d).length ≤ l.length + 1
  | [] => by simp [putD]
  | y :: r => by
    unfold putD
    split
    · have := putD_len (l := r) (d := d); simp; omega
    · split <;> simp
theorem foldl_putD_len (l : List Dot) : ∀ m, (l.foldl putD m).length ≤ m.length + l.length := by
  induction l with
  | nil => intro m; simp
  | cons d r ih => intro m; have := ih (putD m d); have := putD_len (l := m) (d := d); simp; omega
/-- 'Put', as the document does it. -/
theorem putD_at {d : Dot} : ∀ (k : Nat) {l : List Dot}, k ≤ l.length → (∀ i, i < k → lessD (l.getD i (0, 0)) d = true) → (k = l.length ∨ lessD (l.getD k (0, 0)) d = false) →
    putD l d = if k < l.length ∧ l.getD k (0, 0) = d then l else l.take k ++ d :: l.drop k
  | 0, [], _, _, _ => by simp [putD]
  | 0, x :: r, _, _, h => by
    have h' : lessD x d = false := by simpa using h
    unfold putD
    simp [h']
  | k + 1, [], h, _, _ => by simp at h
  | k + 1, x :: r, hk, hl, h => by
    have h0 : lessD x d = true := by simpa using hl 0 (by omega)
    have ih := putD_at (d := d) k (l := r) (by simpa using hk) (fun i hi => by simpa using hl (i + 1) (by omega)) (by simpa using h)
    unfold putD
    rw [if_pos h0, ih]
    simp only [List.length_cons, Nat.add_lt_add_iff_right, List.getD_cons_succ, List.take_succ_cons, List.drop_succ_cons, List.cons_append]
    split <;> rfl
end Go.Proofs.Ytiodlpoeifmldaa

namespace Go.Proofs.Ytiodlpoeifmldaa
open Go.RowKit
set_option linter.unusedVariables false
theorem mayTrue {r s : Int} (h1 : r ≥ 1) (h2 : r ≤ 5) (h3 : s ≥ 1) (h4 : s ≤ 1048576) : true = mayD (r, s) := (mayD_iff.2 ⟨h1, h2, h3, h4⟩).symm
theorem mayFalse {r s : Int} (h : ¬ (1 ≤ r ∧ r ≤ 5 ∧ 1 ≤ s ∧ s ≤ 1048576)) : false = mayD (r, s) := by
  symm; rw [← Bool.not_eq_true, mayD_iff]; exact h
end Go.Proofs.Ytiodlpoeifmldaa

namespace Go.Proofs.Ytiodlpoeifmldaa
open Go.RowKit
set_option linter.unusedVariables false
/-- A dot's box. -/
abbrev bxD (r s : Int) : Obj := .cells #[.int .i64 r, .int .i64 s] 24
set_option maxHeartbeats 400000 in
theorem May_any (r s : Int) (w : World) : Calls Try.prog 54 #[.agg #[.int .i64 r, .int .i64 s]] w fun e w' => e = .returned (.bool (mayD (r, s))) ∧ Gr w w' := by
  by_cases h1 : r ≥ 1
  · by_cases h2 : r ≤ 5
    · by_cases h3 : s ≥ 1
      · by_cases h4 : s ≤ 1048576
        · go_enter Try.func54, Try.ntmps54
          go_wp2
          go_ret
          exact ⟨retB (mayTrue h1 h2 h3 h4), (Gr.refl w).alloc _⟩
        · go_enter Try.func54, Try.ntmps54
          go_wp2
          go_ret
          exact ⟨retB (mayFalse (by omega)), (Gr.refl w).alloc _⟩
      · go_enter Try.func54, Try.ntmps54
        go_wp2
        go_ret
        exact ⟨retB (mayFalse (by omega)), (Gr.refl w).alloc _⟩
    · go_enter Try.func54, Try.ntmps54
      go_wp2
      go_ret
      exact ⟨retB (mayFalse (by omega)), (Gr.refl w).alloc _⟩
  · go_enter Try.func54, Try.ntmps54
    go_wp2
    go_ret
    exact ⟨retB (mayFalse (by omega)), (Gr.refl w).alloc _⟩
set_option maxHeartbeats 400000 in
theorem MayR_any (r s : Int) (w : World) : Calls Try.prog 15 #[.agg #[.int .i64 r, .int .i64 s]] w fun e w' => e = .returned (.bool (mayD (r, s))) ∧ Gr w w' := by
  by_cases h1 : r ≥ 1
  · by_cases h2 : r ≤ 5
    · by_cases h3 : s ≥ 1
      · by_cases h4 : s ≤ 1048576
        · go_enter Try.func15, Try.ntmps15
          go_wp2
          go_ret
          exact ⟨retB (mayTrue h1 h2 h3 h4), (Gr.refl w).alloc _⟩
        · go_enter Try.func15, Try.ntmps15
          go_wp2
          go_ret
          exact ⟨retB (mayFalse (by omega)), (Gr.refl w).alloc _⟩
      · go_enter Try.func15, Try.ntmps15
        go_wp2
        go_ret
        exact ⟨retB (mayFalse (by omega)), (Gr.refl w).alloc _⟩
    · go_enter Try.func15, Try.ntmps15
      go_wp2
      go_ret
      exact ⟨retB (mayFalse (by omega)), (Gr.refl w).alloc _⟩
  · go_enter Try.func15, Try.ntmps15
    go_wp2
    go_ret
    exact ⟨retB (mayFalse (by omega)), (Gr.refl w).alloc _⟩
set_option maxHeartbeats 400000 in
theorem LessR_any (r s r' s' : Int) (w : World) : Calls Try.prog 65 #[.agg #[.int .i64 r, .int .i64 s], .agg #[.int .i64 r', .int .i64 s']] w fun e w' => e = .returned (.bool (lessD (r, s) (r', s'))) ∧ Gr w w' := by
  by_cases h1 : r = r'
  · subst h1
    have HE : Hid (decide (s < s') = lessD (r, s) (r, s')) := by unfold Hid lessD; simp
    go_enter Try.func65, Try.ntmps65
    go_wp2
    go_ret
    exact ⟨retB HE.out, ((Gr.refl w).alloc _).alloc _⟩
  · have HE : Hid (decide (r < r') = lessD (r, s) (r', s')) := by unfold Hid lessD; simp [h1]
    go_enter Try.func65, Try.ntmps65
    go_wp2
    go_ret
    exact ⟨retB HE.out, ((Gr.refl w).alloc _).alloc _⟩
/-- 'cmp.Compare' of two numbers. -/
def cmpI (x y : Int) : Int := if x < y then -1 else if x > y then 1 else 0
theorem nan_any (x : Int) (w : World) : Calls Try.prog 102 #[.int .i64 x] w fun e w' => e = .returned (.bool false) ∧ w' = w := by
  go_enter Try.func102, Try.ntmps102
  go_wp2
  go_ret
  exact ⟨retB (by simp), rfl⟩
theorem cmpI_any (x y : Int) (w : World) : Calls Try.prog 89 #[.int .i64 x, .int .i64 y] w fun e w' => e = .returned (.int .i64 (cmpI x y)) ∧ w' = w := by
  by_cases h1 : x < y
  · have HE : Hid (-1 = cmpI x y) := by unfold Hid cmpI; rw [if_pos h1]
    go_enter Try.func89, Try.ntmps89
    go_wp2_with (go_at_call 102; refine (nan_any _ _).mono ?_; rintro e w' ⟨rfl, rfl⟩)
    go_ret
    exact ⟨ret_int HE.out, rfl⟩
  · by_cases h2 : x > y
    · have HE : Hid (1 = cmpI x y) := by unfold Hid cmpI; rw [if_neg h1, if_pos h2]
      go_enter Try.func89, Try.ntmps89
      go_wp2_with (go_at_call 102; refine (nan_any _ _).mono ?_; rintro e w' ⟨rfl, rfl⟩)
      go_ret
      exact ⟨ret_int HE.out, rfl⟩
    · have HE : Hid (0 = cmpI x y) := by unfold Hid cmpI; rw [if_neg h1, if_neg h2]
      go_enter Try.func89, Try.ntmps89
      go_wp2_with (go_at_call 102; refine (nan_any _ _).mono ?_; rintro e w' ⟨rfl, rfl⟩)
      go_ret
      exact ⟨ret_int HE.out, rfl⟩
def orI (x y : Int) : Int := if x = 0 then y else x
set_option maxHeartbeats 400000 in
theorem or_any (w : World) (g : Nat) (x y : Int) (c0 : w.cell? ⟨g, 0, none⟩ = some (.int .i64 x)) (c1 : w.cell? ⟨g, 1, none⟩ = some (.int .i64 y)) :
    Calls Try.prog 88 #[.slice (some ⟨g, 0, none⟩) 2 2] w fun e w' => e = .returned (.int .i64 (orI x y)) ∧ w' = w := by
  by_cases h1 : x = 0
  · by_cases h2 : y = 0
    · have HE : Hid (0 = orI x y) := by unfold Hid orI; rw [if_pos h1, h2]
      go_enter Try.func88, Try.ntmps88
      go_wp2
      refine wp_loop_rounds 3 ?_
      rw [rounds_succ]
      go_wp2
      rw [rounds_succ]
      go_wp2
      rw [rounds_succ]
      go_wp2
      go_ret
      exact ⟨ret_int HE.out, rfl⟩
    · have HE : Hid (y = orI x y) := by unfold Hid orI; rw [if_pos h1]
      go_enter Try.func88, Try.ntmps88
      go_wp2
      refine wp_loop_rounds 3 ?_
      rw [rounds_succ]
      go_wp2
      rw [rounds_succ]
      go_wp2
      go_ret
      exact ⟨ret_int HE.out, rfl⟩
  · have HE : Hid (x = orI x y) := by unfold Hid orI; rw [if_neg h1]
    go_enter Try.func88, Try.ntmps88
    go_wp2
    refine wp_loop_rounds 3 ?_
    rw [rounds_succ]
    go_wp2
    go_ret
    exact ⟨ret_int HE.out, rfl⟩
theorem orI_is (a b : Dot) : orI (cmpI a.1 b.1) (cmpI a.2 b.2) = cmpD a b := by
  obtain ⟨a1, a2⟩ := a
  obtain ⟨b1, b2⟩ := b
  unfold orI cmpI cmpD lessD
  simp only [decide_eq_true_iff]
  split <;> split <;> (try split) <;> (try split) <;> (try split) <;> omega
set_option maxHeartbeats 1000000 in
theorem compare_any (x y : Dot) (w : World) : Calls Try.prog 78 #[.agg #[.int .i64 x.1, .int .i64 x.2], .agg #[.int .i64 y.1, .int .i64 y.2]] w fun e w' => e = .returned (.int .i64 (cmpD x y)) ∧ Gr w w' := by
  have HE := hide (orI_is x y)
  obtain ⟨r, s⟩ := x
  obtain ⟨r', s'⟩ := y
  have HU := hide (((Gr.refl w).alloc (bxD r s)).alloc (bxD r' s'))
  go_enter Try.func78, Try.ntmps78
  go_wp2
  have c0 : ((w.alloc (bxD r s)).alloc (bxD r' s')).cell? ⟨w.heap.size, 0, none⟩ = some (.int .i64 r) := cell_old _ (cell_new w _ _ _ rfl 0 _ rfl)
  have c1 : ((w.alloc (bxD r s)).alloc (bxD r' s')).cell? ⟨w.heap.size, 1, none⟩ = some (.int .i64 s) := cell_old _ (cell_new w _ _ _ rfl 1 _ rfl)
  have c2 : ((w.alloc (bxD r s)).alloc (bxD r' s')).cell? ⟨w.heap.size + 1, 0, none⟩ = some (.int .i64 r') := cell_new _ _ _ _ (by simp) 0 _ rfl
  have c3 : ((w.alloc (bxD r s)).alloc (bxD r' s')).cell? ⟨w.heap.size + 1, 1, none⟩ = some (.int .i64 s') := cell_new _ _ _ _ (by simp) 1 _ rfl
  generalize ((w.alloc (bxD r s)).alloc (bxD r' s')) = u at *
  refine wp_region_held_drew (S := fun W => Gr u W) (by kernel_rfl) ((Gr.refl u).drew) (fun hS0 => ?_)
  refine takeInH 0 5 ?v1 rfl rfl (by kernel_rfl) (by kernel_rfl) (by kernel_rfl) (fun _ _ _ h => h) (by kernel_rfl) hS0 ?hy1 ?_
  case hy1 => (intro W hW; clear hW; go_simp; try rfl)
  simp only [Act.put, List.setIfInBounds_toArray, List.set_cons_zero, List.set_cons_succ]
  refine takeInH 1 6 ?v2 rfl rfl (by kernel_rfl) (by kernel_rfl) (by kernel_rfl) (fun _ _ _ h => h) (by kernel_rfl) hS0 ?hy2 ?_
  case hy2 => (intro W hW; have e0 := bcell hW.bel c0; have e1 := bcell hW.bel c1; have e2 := bcell hW.bel c2; have e3 := bcell hW.bel c3; clear hW; go_simp; try rfl)
  simp only [Act.put, List.setIfInBounds_toArray, List.set_cons_zero, List.set_cons_succ]
  refine takeInH 2 7 ?v3 rfl rfl (by kernel_rfl) (by kernel_rfl) (by kernel_rfl) (fun _ _ _ h => h) (by kernel_rfl) hS0 ?hy3 ?_
  case hy3 => (intro W hW; clear hW; go_simp; try rfl)
  simp only [Act.put, List.setIfInBounds_toArray, List.set_cons_zero, List.set_cons_succ]
  refine takeInH 3 8 ?v4 rfl rfl (by kernel_rfl) (by kernel_rfl) (by kernel_rfl) (fun _ _ _ h => h) (by kernel_rfl) hS0 ?hy4 ?_
  case hy4 => (intro W hW; have e0 := bcell hW.bel c0; have e1 := bcell hW.bel c1; have e2 := bcell hW.bel c2; have e3 := bcell hW.bel c3; clear hW; go_simp; try rfl)
  simp only [Act.put, List.setIfInBounds_toArray, List.set_cons_zero, List.set_cons_succ]
  refine takeInH 5 10 ?v5 rfl rfl (by kernel_rfl) (by kernel_rfl) (by kernel_rfl) (fun _ _ _ h => h) (by kernel_rfl) hS0 ?hy5 ?_
  case hy5 => (intro W hW; clear hW; go_simp; try rfl)
  simp only [Act.put, List.setIfInBounds_toArray, List.set_cons_zero, List.set_cons_succ]
  refine takeInH 6 11 ?v6 rfl rfl (by kernel_rfl) (by kernel_rfl) (by kernel_rfl) (fun _ _ _ h => h) (by kernel_rfl) hS0 ?hy6 ?_
  case hy6 => (intro W hW; have e0 := bcell hW.bel c0; have e1 := bcell hW.bel c1; have e2 := bcell hW.bel c2; have e3 := bcell hW.bel c3; clear hW; go_simp; try rfl)
  simp only [Act.put, List.setIfInBounds_toArray, List.set_cons_zero, List.set_cons_succ]
  refine takeInH 7 12 ?v7 rfl rfl (by kernel_rfl) (by kernel_rfl) (by kernel_rfl) (fun _ _ _ h => h) (by kernel_rfl) hS0 ?hy7 ?_
  case hy7 => (intro W hW; clear hW; go_simp; try rfl)
  simp only [Act.put, List.setIfInBounds_toArray, List.set_cons_zero, List.set_cons_succ]
  refine takeInH 8 13 ?v8 rfl rfl (by kernel_rfl) (by kernel_rfl) (by kernel_rfl) (fun _ _ _ h => h) (by kernel_rfl) hS0 ?hy8 ?_
  case hy8 => (intro W hW; have e0 := bcell hW.bel c0; have e1 := bcell hW.bel c1; have e2 := bcell hW.bel c2; have e3 := bcell hW.bel c3; clear hW; go_simp; try rfl)
  simp only [Act.put, List.setIfInBounds_toArray, List.set_cons_zero, List.set_cons_succ]
  refine wpAnyH_ready (rs := [4]) (by kernel_rfl) (by simp) ?_
  refine AllReadyH.cons rfl (fun K hK => ?_) AllReadyH.nil
  go_simp
  refine (cmpI_any _ _ _).mono ?_
  rintro e w' ⟨rfl, hw⟩
  subst hw
  try go_wp2_with fail
  refine hK.out _ _ ?hs9 (fun hS1 => ?_)
  case hs9 => exact hS0
  clear hK K
  try simp only [Act.put, List.setIfInBounds_toArray, List.set_cons_zero, List.set_cons_succ]
  refine wpAnyH_ready (rs := [9]) (by kernel_rfl) (by simp) ?_
  refine AllReadyH.cons rfl (fun K hK => ?_) AllReadyH.nil
  go_simp
  refine (cmpI_any _ _ _).mono ?_
  rintro e w' ⟨rfl, hw⟩
  subst hw
  try go_wp2_with fail
  refine hK.out _ _ ?hs10 (fun hS2 => ?_)
  case hs10 => exact hS1
  clear hK K
  try simp only [Act.put, List.setIfInBounds_toArray, List.set_cons_zero, List.set_cons_succ]
  refine wpAnyH_ready (rs := [10]) (by kernel_rfl) (by simp) ?_
  refine AllReadyH.cons rfl (fun K hK => ?_) AllReadyH.nil
  go_simp
  refine hK.out _ _ ?hs11 (fun hS3 => ?_)
  case hs11 => exact hS2.alloc _
  clear hK K
  try simp only [Act.put, List.setIfInBounds_toArray, List.set_cons_zero, List.set_cons_succ]
  refine wpAnyH_ready (rs := [11]) (by kernel_rfl) (by simp) ?_
  refine AllReadyH.cons rfl (fun K hK => ?_) AllReadyH.nil
  go_simp
  refine Calls.mono (or_any _ _ (cmpI r r') (cmpI s s') ?_ ?_) ?_
  · exact cell_new _ _ _ _ rfl 0 _ rfl
  · exact cell_new _ _ _ _ rfl 1 _ rfl
  rintro e w' ⟨rfl, hw⟩
  subst hw
  try go_wp2_with fail
  refine hK.out _ _ ?hs12 (fun hS4 => ?_)
  case hs12 => exact hS3
  clear hK K
  try simp only [Act.put, List.setIfInBounds_toArray, List.set_cons_zero, List.set_cons_succ]
  refine takeInH 12 4 ?v13 rfl rfl (by kernel_rfl) (by kernel_rfl) (by kernel_rfl) (fun _ _ _ h => h) (by kernel_rfl) hS4 ?hy13 ?_
  case hy13 => (intro W hW; clear hW; go_simp; try rfl)
  simp only [Act.put, List.setIfInBounds_toArray, List.set_cons_zero, List.set_cons_succ]
  refine wpAnyH_done (by kernel_rfl) ?_ _
  go_wp2
  go_ret
  exact ⟨ret_int HE.out, HU.out.trans (by assumption)⟩
set_option maxHeartbeats 400000 in
theorem Less_any (x y : Dot) (w : World) : Calls Try.prog 82 #[.agg #[.int .i64 x.1, .int .i64 x.2], .agg #[.int .i64 y.1, .int .i64 y.2]] w fun e w' => e = .returned (.bool (lessD x y)) ∧ Gr w w' := by
  have HC := hide (fun W => compare_any x y W)
  have HE : Hid (decide (cmpD x y < 0) = lessD x y) := by unfold Hid; rw [Bool.eq_iff_iff, decide_eq_true_iff]; exact cmpD_lt
  obtain ⟨r, s⟩ := x
  obtain ⟨r', s'⟩ := y
  have HU := hide (((Gr.refl w).alloc (bxD r s)).alloc (bxD r' s'))
  generalize cmpD (r, s) (r', s') = c at HC HE
  go_enter Try.func82, Try.ntmps82
  go_wp2_with (go_at_call 78; refine (HC.out _).mono ?_; rintro e w' ⟨rfl, hg⟩)
  go_ret
  exact ⟨retB HE.out, HU.out.trans hg⟩
end Go.Proofs.Ytiodlpoeifmldaa

namespace Go.Proofs.Ytiodlpoeifmldaa
open Go.RowKit
set_option linter.unusedVariables false
theorem eqD (r s r' s' : Int) (b : Bool) (hb : b = decide (r = r' ∧ s = s')) (w : World) : (Op.equalIn 10000 24 (.agg #[.int .i64 r, .int .i64 s]) (.agg #[.int .i64 r', .int .i64 s'])).run Try.prog w = .ok b w := by
  have u3 := Try.underlying3
  have a3 := Try.isAgg3
  have z3 := Try.sizeOf3
  have hS : Try.prog.underlying 24 = some (.struct (Try.prog.fieldsOf 24)) := by kernel_rfl
  have hp : Try.prog.stoodInHeld 24 = false := by kernel_rfl
  rw [show (10000 : Nat) = 9999 + 1 from rfl, run_equalIn_agg w 9999 24 _ _ hS hp]
  simp only [Program.fieldsOf, Try.underlying24]
  subst hb
  by_cases h1 : r = r' <;> by_cases h2 : s = s'
  · subst h1 h2; go_simp
  · subst h1
    have h2' : (s == s') = false := by simpa using h2
    simp only [h2, and_false, decide_false]
    go_simp
  · have h1' : (r == r') = false := by simpa using h1
    simp only [h1, false_and, decide_false]
    go_simp
  · have h1' : (r == r') = false := by simpa using h1
    simp only [h1, false_and, decide_false]
    go_simp
theorem eqD_drop {l m : List Dot} {k : Nat} (h : k < l.length) (h2 : k < m.length) : (l.drop k = m.drop k) ↔ (l.getD k (0, 0) = m.getD k (0, 0) ∧ l.drop (k + 1) = m.drop (k + 1)) := by
  rw [List.drop_eq_getElem_cons h, List.drop_eq_getElem_cons h2, List.cons.injEq]
  simp [List.getD_eq_getElem?_getD, h, h2]
theorem allD_drop {l : List Dot} {k : Nat} (h : k < l.length) : (l.drop k).all mayD = (mayD (l.getD k (0, 0)) && (l.drop (k + 1)).all mayD) := by
  rw [List.drop_eq_getElem_cons h, List.all_cons]
  simp [List.getD_eq_getElem?_getD, h]
set_option maxHeartbeats 400000 in
/-- The document's 'All'. -/
theorem All_any (a : Option Addr) (n cap : Nat) (l : List Dot) (w : World) (hD : DS w a n l) :
    Calls Try.prog 63 #[.slice a n cap] w fun e w' => e = .returned (.bool (l.all mayD)) ∧ Below w.heap.size w w' := by
  obtain ⟨hlen, hmax, hcells⟩ := hD
  unfold maxLen at hmax
  have HL := hide hlen
  have HC := hide hcells
  clear hlen hcells
  go_enter Try.func63, Try.ntmps63
  go_wp2
  go_loopw [3] (fun i wr => ∃ k : Nat, k ≤ n ∧ i = .int .i64 k ∧ Below w.heap.size w wr ∧ Hid (l.all mayD = (l.drop k).all mayD)) (fun i _ => n - (intOf i).toNat)
  case atStart => exact ⟨0, by omega, rfl, Below.refl _ _, by unfold Hid; simp⟩
  case round =>
    obtain ⟨k, hk, rfl, hbel, hH⟩ := hrel
    by_cases hlt : k < n
    · rcases HC.out with h0 | ⟨b, off, rfl, hc⟩
      · omega
      · have c0 := bcell hbel (hc k hlt).1
        have c1 := bcell hbel (hc k hlt).2
        have hst : Hid (l.all mayD = (mayD (l.getD k (0, 0)) && (l.drop (k + 1)).all mayD)) := by
          have h2 := hH.out
          rw [allD_drop (by rw [HL.out]; exact hlt)] at h2
          exact h2
        clear hc hH
        generalize l.getD k (0, 0) = x at c0 c1 hst
        obtain ⟨r, s⟩ := x
        have HM := hide (fun W => MayR_any r s W)
        rcases hm : mayD (r, s) with _ | _
        · have HE : Hid (false = l.all mayD) := by have h2 := hst.out; rw [hm] at h2; unfold Hid; simpa using h2.symm
          rw [hm] at HM
          clear hst hm
          go_wp2_with (go_at_call 15; refine (HM.out _).mono ?_; rintro e w' ⟨rfl, hg⟩)
          go_ret
          exact ⟨retB HE.out, bel_next hbel hg.bel⟩
        · have hst2 : Hid (l.all mayD = (l.drop (k + 1)).all mayD) := by have h2 := hst.out; rw [hm] at h2; unfold Hid; simpa using h2
          rw [hm] at HM
          clear hst hm
          go_wp2_with (go_at_call 15; refine (HM.out _).mono ?_; rintro e w' ⟨rfl, hg⟩)
          go_roundw
          case rel => exact ⟨k + 1, by omega, by go_num, bel_next hbel hg.bel, hst2⟩
          case measure => simp [intOf]; omega
    · have hkl : k = n := by omega
      subst hkl
      have HE : Hid (true = l.all mayD) := by
        have h2 := hH.out
        rw [List.drop_of_length_le (by rw [HL.out]; exact Nat.le_refl _)] at h2
        unfold Hid; rw [h2]; rfl
      clear hH
      go_wp2
      go_ret
      exact ⟨retB HE.out, hbel⟩
set_option maxHeartbeats 1000000 in
/-- The document's 'Dots'. -/
theorem Dots_any (a a' : Option Addr) (n cap n' cap' : Nat) (c d : List Dot) (w : World) (hN : DS w a n c) (hN' : DS w a' n' d) :
    Calls Try.prog 39 #[.slice a n cap, .slice a' n' cap'] w fun e w' => e = .returned (.bool (decide (c = d))) ∧ Below w.heap.size w w' := by
  obtain ⟨hlen, hmax, hcells⟩ := hN
  obtain ⟨hlen', hmax', hcells'⟩ := hN'
  unfold maxLen at hmax hmax'
  by_cases hnn : n = n'
  · subst hnn
    have HL := hide hlen
    have HL' := hide hlen'
    have HC := hide hcells
    have HC' := hide hcells'
    clear hlen hlen' hcells hcells'
    go_enter Try.func39, Try.ntmps39
    go_wp2
    go_loopw [5] (fun i wr => ∃ k : Nat, k ≤ n ∧ i = .int .i64 k ∧ Below w.heap.size w wr ∧ Hid ((c = d) ↔ (c.drop k = d.drop k))) (fun i _ => n - (intOf i).toNat)
    case atStart => exact ⟨0, by omega, rfl, Below.refl _ _, by unfold Hid; simp⟩
    case round =>
      obtain ⟨k, hk, rfl, hbel, hH⟩ := hrel
      by_cases hlt : k < n
      · rcases HC.out with h0 | ⟨b, off, rfl, hc⟩
        · omega
        · rcases HC'.out with h0 | ⟨b', off', rfl, hc'⟩
          · omega
          · have c0 := bcell hbel (hc k hlt).1
            have c1 := bcell hbel (hc k hlt).2
            have c2 := bcell hbel (hc' k hlt).1
            have c3 := bcell hbel (hc' k hlt).2
            have hst : Hid ((c = d) ↔ (c.getD k (0, 0) = d.getD k (0, 0) ∧ c.drop (k + 1) = d.drop (k + 1))) := by
              have h2 := hH.out
              rw [eqD_drop (by rw [HL.out]; exact hlt) (by rw [HL'.out]; exact hlt)] at h2
              exact h2
            have HBel := hide hbel
            clear hc hc' hH hbel
            generalize c.getD k (0, 0) = x at c0 c1 hst
            generalize d.getD k (0, 0) = y at c2 c3 hst
            obtain ⟨r, s⟩ := x
            obtain ⟨p, q⟩ := y
            by_cases hxy : r = p ∧ s = q
            · have hst2 : Hid ((c = d) ↔ (c.drop (k + 1) = d.drop (k + 1))) := by have h2 := hst.out; unfold Hid; rw [h2]; simp [hxy]
              have hq := fun w => eqD r s p q true (by symm; exact decide_eq_true hxy) w
              clear hst hxy
              go_wp2
              refine wp_region_held_drew (S := fun W => Below wr.heap.size wr W) (by kernel_rfl) ((Below.refl _ wr).drew) (fun hS0 => ?_)
              refine takeInH 0 17 ?v13 rfl rfl (by kernel_rfl) (by kernel_rfl) (by kernel_rfl) (fun _ _ _ h => h) (by kernel_rfl) hS0 ?hy13 ?_
              case hy13 => (intro W hW; clear hW; go_simp; try rfl)
              simp only [Act.put, List.setIfInBounds_toArray, List.set_cons_zero, List.set_cons_succ]
              refine takeInH 1 18 ?v14 rfl rfl (by kernel_rfl) (by kernel_rfl) (by kernel_rfl) (fun _ _ _ h => h) (by kernel_rfl) hS0 ?hy14 ?_
              case hy14 => (intro W hW; clear hW; go_simp; try rfl)
              simp only [Act.put, List.setIfInBounds_toArray, List.set_cons_zero, List.set_cons_succ]
              refine takeInH 2 19 ?v15 rfl rfl (by kernel_rfl) (by kernel_rfl) (by kernel_rfl) (fun _ _ _ h => h) (by kernel_rfl) hS0 ?hy15 ?_
              case hy15 => (intro W hW; clear hW; go_simp; try rfl)
              simp only [Act.put, List.setIfInBounds_toArray, List.set_cons_zero, List.set_cons_succ]
              refine takeInH 3 20 ?v16 rfl rfl (by kernel_rfl) (by kernel_rfl) (by kernel_rfl) (fun _ _ _ h => h) (by kernel_rfl) hS0 ?hy16 ?_
              case hy16 => (intro W hW; have e0 := bcell hW c0; have e1 := bcell hW c1; have e2 := bcell hW c2; have e3 := bcell hW c3; clear hW; go_simp; try rfl)
              simp only [Act.put, List.setIfInBounds_toArray, List.set_cons_zero, List.set_cons_succ]
              refine takeInH 4 21 ?v17 rfl rfl (by kernel_rfl) (by kernel_rfl) (by kernel_rfl) (fun _ _ _ h => h) (by kernel_rfl) hS0 ?hy17 ?_
              case hy17 => (intro W hW; clear hW; go_simp; try rfl)
              simp only [Act.put, List.setIfInBounds_toArray, List.set_cons_zero, List.set_cons_succ]
              refine takeInH 5 22 ?v18 rfl rfl (by kernel_rfl) (by kernel_rfl) (by kernel_rfl) (fun _ _ _ h => h) (by kernel_rfl) hS0 ?hy18 ?_
              case hy18 => (intro W hW; clear hW; go_simp; try rfl)
              simp only [Act.put, List.setIfInBounds_toArray, List.set_cons_zero, List.set_cons_succ]
              refine takeInH 6 23 ?v19 rfl rfl (by kernel_rfl) (by kernel_rfl) (by kernel_rfl) (fun _ _ _ h => h) (by kernel_rfl) hS0 ?hy19 ?_
              case hy19 => (intro W hW; clear hW; go_simp; try rfl)
              simp only [Act.put, List.setIfInBounds_toArray, List.set_cons_zero, List.set_cons_succ]
              refine takeInH 7 24 ?v20 rfl rfl (by kernel_rfl) (by kernel_rfl) (by kernel_rfl) (fun _ _ _ h => h) (by kernel_rfl) hS0 ?hy20 ?_
              case hy20 => (intro W hW; have e0 := bcell hW c0; have e1 := bcell hW c1; have e2 := bcell hW c2; have e3 := bcell hW c3; clear hW; go_simp; try rfl)
              simp only [Act.put, List.setIfInBounds_toArray, List.set_cons_zero, List.set_cons_succ]
              refine takeInH 8 25 ?v21 rfl rfl (by kernel_rfl) (by kernel_rfl) (by kernel_rfl) (fun _ _ _ h => h) (by kernel_rfl) hS0 ?hy21 ?_
              case hy21 => (intro W hW; clear hW; go_simp; try rfl)
              simp only [Act.put, List.setIfInBounds_toArray, List.set_cons_zero, List.set_cons_succ]
              refine wpAnyH_done (by kernel_rfl) ?_ _
              go_wp2
              go_roundw
              case rel => exact ⟨k + 1, by omega, by go_num, bel_next HBel.out (by assumption), hst2⟩
              case measure => simp [intOf]; omega
            · have HE : Hid (false = decide (c = d)) := by have h2 := hst.out; unfold Hid; symm; rw [decide_eq_false_iff_not, h2]; rintro ⟨h, _⟩; exact hxy ⟨congrArg Prod.fst h, congrArg Prod.snd h⟩
              have hq := fun w => eqD r s p q false (by symm; exact decide_eq_false hxy) w
              clear hst hxy
              go_wp2
              refine wp_region_held_drew (S := fun W => Below wr.heap.size wr W) (by kernel_rfl) ((Below.refl _ wr).drew) (fun hS0 => ?_)
              refine takeInH 0 17 ?v22 rfl rfl (by kernel_rfl) (by kernel_rfl) (by kernel_rfl) (fun _ _ _ h => h) (by kernel_rfl) hS0 ?hy22 ?_
              case hy22 => (intro W hW; clear hW; go_simp; try rfl)
              simp only [Act.put, List.setIfInBounds_toArray, List.set_cons_zero, List.set_cons_succ]
              refine takeInH 1 18 ?v23 rfl rfl (by kernel_rfl) (by kernel_rfl) (by kernel_rfl) (fun _ _ _ h => h) (by kernel_rfl) hS0 ?hy23 ?_
              case hy23 => (intro W hW; clear hW; go_simp; try rfl)
              simp only [Act.put, List.setIfInBounds_toArray, List.set_cons_zero, List.set_cons_succ]
              refine takeInH 2 19 ?v24 rfl rfl (by kernel_rfl) (by kernel_rfl) (by kernel_rfl) (fun _ _ _ h => h) (by kernel_rfl) hS0 ?hy24 ?_
              case hy24 => (intro W hW; clear hW; go_simp; try rfl)
              simp only [Act.put, List.setIfInBounds_toArray, List.set_cons_zero, List.set_cons_succ]
              refine takeInH 3 20 ?v25 rfl rfl (by kernel_rfl) (by kernel_rfl) (by kernel_rfl) (fun _ _ _ h => h) (by kernel_rfl) hS0 ?hy25 ?_
              case hy25 => (intro W hW; have e0 := bcell hW c0; have e1 := bcell hW c1; have e2 := bcell hW c2; have e3 := bcell hW c3; clear hW; go_simp; try rfl)
              simp only [Act.put, List.setIfInBounds_toArray, List.set_cons_zero, List.set_cons_succ]
              refine takeInH 4 21 ?v26 rfl rfl (by kernel_rfl) (by kernel_rfl) (by kernel_rfl) (fun _ _ _ h => h) (by kernel_rfl) hS0 ?hy26 ?_
              case hy26 => (intro W hW; clear hW; go_simp; try rfl)
              simp only [Act.put, List.setIfInBounds_toArray, List.set_cons_zero, List.set_cons_succ]
              refine takeInH 5 22 ?v27 rfl rfl (by kernel_rfl) (by kernel_rfl) (by kernel_rfl) (fun _ _ _ h => h) (by kernel_rfl) hS0 ?hy27 ?_
              case hy27 => (intro W hW; clear hW; go_simp; try rfl)
              simp only [Act.put, List.setIfInBounds_toArray, List.set_cons_zero, List.set_cons_succ]
              refine takeInH 6 23 ?v28 rfl rfl (by kernel_rfl) (by kernel_rfl) (by kernel_rfl) (fun _ _ _ h => h) (by kernel_rfl) hS0 ?hy28 ?_
              case hy28 => (intro W hW; clear hW; go_simp; try rfl)
              simp only [Act.put, List.setIfInBounds_toArray, List.set_cons_zero, List.set_cons_succ]
              refine takeInH 7 24 ?v29 rfl rfl (by kernel_rfl) (by kernel_rfl) (by kernel_rfl) (fun _ _ _ h => h) (by kernel_rfl) hS0 ?hy29 ?_
              case hy29 => (intro W hW; have e0 := bcell hW c0; have e1 := bcell hW c1; have e2 := bcell hW c2; have e3 := bcell hW c3; clear hW; go_simp; try rfl)
              simp only [Act.put, List.setIfInBounds_toArray, List.set_cons_zero, List.set_cons_succ]
              refine takeInH 8 25 ?v30 rfl rfl (by kernel_rfl) (by kernel_rfl) (by kernel_rfl) (fun _ _ _ h => h) (by kernel_rfl) hS0 ?hy30 ?_
              case hy30 => (intro W hW; clear hW; go_simp; try rfl)
              simp only [Act.put, List.setIfInBounds_toArray, List.set_cons_zero, List.set_cons_succ]
              refine wpAnyH_done (by kernel_rfl) ?_ _
              go_wp2
              go_ret
              exact ⟨retB HE.out, bel_next HBel.out (by assumption)⟩
      · have hkl : k = n := by omega
        subst hkl
        have HE : Hid (true = decide (c = d)) := by
          have h2 := hH.out
          rw [List.drop_of_length_le (by rw [HL.out]; exact Nat.le_refl _), List.drop_of_length_le (by rw [HL'.out]; exact Nat.le_refl _)] at h2
          unfold Hid; simp [h2]
        clear hH
        go_wp2
        go_ret
        exact ⟨retB HE.out, hbel⟩
  · have HE : Hid (false = decide (c = d)) := by
      unfold Hid; symm; rw [decide_eq_false_iff_not]; intro hh; subst hh; omega
    have hnn' : ¬ ((n : Int) = n') := by omega
    clear hlen hlen' hcells hcells'
    go_enter Try.func39, Try.ntmps39
    go_wp2
    go_ret
    exact ⟨retB HE.out, Below.refl _ _⟩
end Go.Proofs.Ytiodlpoeifmldaa

namespace Go.Proofs.Ytiodlpoeifmldaa
open Go.RowKit
set_option linter.unusedVariables false
/-- 'append(s, x...)', 's' full: a new row. -/
theorem append_full_wp {w : World} {o : Oper} {a : Act} {K : Act → World → Prop} {Q : Exit → Act → World → Prop} (s x : Operand)
    (ho : o.op = .call { callee := .builtin .append, args := #[s, x], argTypes := #[46, 46] })
    (g n : Nat) (l m : List Dot) (hs : a.eval s = .slice (some ⟨g, 0, none⟩) n n) (hS : DS w (some ⟨g, 0, none⟩) n l) (p : Addr) (len cap : Nat) (hx : a.eval x = .slice (some p) len cap) (hB : DS w (some p) len m) (hlen : 0 < len)
    (hbig : l.length + m.length ≤ 1000000)
    (h : ∀ v' w', OwnD w.heap.size w' v' (l ++ m) → Below w.heap.size w w' → K (a.put o.dst v') w') : Oper.wp Try.prog o a w K Q := by
  obtain ⟨i0, hi, hz0, hz1, hz2⟩ := info_parts Try.infoDot
  have hcells : ∀ (q : Addr) (k : Nat) (l : List Dot), DS w (some q) k l → ∀ j u, (flatD l)[j]? = some u → w.cell? (q.add j) = some u := by
    intro q k l hD j u hj
    obtain ⟨g1, g2, g4⟩ := hD
    have hjl : j < (flatD l).length := (List.getElem?_eq_some_iff.1 hj).1
    rw [flatD_len] at hjl
    rcases g4 with h0 | ⟨b, off, hh, hc⟩
    · omega
    · cases hh
      have k := hc (j / 2) (by omega)
      have f := flatD_get l (j / 2) (by omega)
      have h3 : (⟨b, off, none⟩ : Addr).add j = ⟨b, off + j, none⟩ := by
        by_cases hj0 : j = 0
        · subst hj0; simp [Addr.add]
        · simp [Addr.add, hj0]
      rw [h3]
      rcases Nat.mod_two_eq_zero_or_one j with e | e
      · have e2 : j = j / 2 * 2 := by omega
        rw [e2, f.1] at hj
        rw [show (⟨b, off + j, none⟩ : Addr) = ⟨b, off + j / 2 * 2, none⟩ by rw [← e2], k.1]
        exact hj
      · have e2 : j = j / 2 * 2 + 1 := by omega
        rw [e2, f.2] at hj
        rw [show (⟨b, off + j, none⟩ : Addr) = ⟨b, off + j / 2 * 2 + 1, none⟩ by rw [Nat.add_assoc, ← e2], k.2]
        exact hj
  obtain ⟨v', w', hr, h2, h3⟩ := run_append_arg_grows (P := Try.prog) (w := w) 46 o.type 24 i0 (.agg #[.int .i64 0, .int .i64 0]) 2 16 Try.underlying46 hi hz0 hz1 hz2 rfl (by decide) ⟨g, 0, none⟩ n n (flatD l) (by rw [flatD_len, hS.1]) (hcells _ _ _ hS) p len cap (flatD m) (by rw [flatD_len, hB.1]) (hcells _ _ _ hB) (by omega) (by unfold maxLen; have := hS.1; have := hB.1; omega) (by have := hS.1; have := hB.1; omega)
  have e : n + len = (l ++ m).length := by rw [List.length_append, hS.1, hB.1]
  rw [e, ← flatD_app] at h2
  have hk := h v' w' h2 ((Below.refl _ w).grown h3 (Nat.le_refl _) (fun j hj => by cases hj))
  unfold Oper.wp execOp
  simp only [ho, resolve, invoke, builtin, Sem.run_bind, Sem.run_pure, Result.andThen_ok, List.map_toArray, List.map_cons, List.map_nil, hs, hx, hr]
  exact hk
set_option maxHeartbeats 4000000 in
set_option maxRecDepth 100000 in
/-- The document's 'Put'. -/
theorem PutR_any (N : Nat) (v : Value) (l : List Dot) (d : Dot) (w : World) (hO : OwnD N w v l) (hN : N ≤ w.heap.size) (hn : l.length ≤ 100000) :
    Calls Try.prog 41 #[v, .agg #[.int .i64 d.1, .int .i64 d.2]] w fun e w' => ∃ v', e = .returned v' ∧ OwnD N w' v' (putD l d) ∧ Below w.heap.size w w' := by
  obtain ⟨p, q⟩ := d
  have hu0 : (w.alloc (bxD p q)).cell? ⟨w.heap.size, 0, none⟩ = some (.int .i64 p) := cell_new w _ _ _ rfl 0 _ rfl
  have hu1 : (w.alloc (bxD p q)).cell? ⟨w.heap.size, 1, none⟩ = some (.int .i64 q) := cell_new w _ _ _ rfl 1 _ rfl
  have HU := hide (bel1 w (bxD p q))
  rcases hO.row with ⟨rfl, rfl⟩ | ⟨g, cap, rfl, hNg, hg, hlc, hcm, _⟩
  · obtain ⟨l, hl⟩ : ∃ l : List Dot, l = [] := ⟨_, rfl⟩
    obtain ⟨k, hk⟩ : ∃ k : Nat, k = 0 := ⟨_, rfl⟩
    have HLk : Hid (l.length ≤ 100000 ∧ k ≤ l.length) := by unfold Hid; rw [hl, hk]; simp
    have HT : Hid (l.take k ++ [(p, q)] = [] ++ [(p, q)]) := by unfold Hid; rw [hl, hk]; rfl
    have HE : Hid (l.take k ++ [(p, q)] ++ l.drop k = putD [] (p, q)) := by unfold Hid; rw [hl, hk]; rfl
    have HDl : Hid (l.drop k = []) := by unfold Hid; rw [hl, hk]; rfl
    clear hO hn hl hk
    go_enter Try.func41, Try.ntmps41
    go_wp2
    refine wp_loop_rounds 1 ?_
    rw [rounds_succ]
    go_wp2
    generalize w.alloc (bxD p q) = u at *
    refine wp_region_held_drew (S := fun W => Below u.heap.size u W) (by kernel_rfl) ((Below.refl _ u).drew) (fun hS0 => ?_)
    refine takeInH 0 7 ?v41 rfl rfl (by kernel_rfl) (by kernel_rfl) (by kernel_rfl) (fun _ _ _ h => h) (by kernel_rfl) hS0 ?hy41 ?_
    case hy41 => (intro W hW; clear hW; go_simp; try rfl)
    simp only [Act.put, List.setIfInBounds_toArray, List.set_cons_zero, List.set_cons_succ]
    refine takeInH 1 8 ?v42 rfl rfl (by kernel_rfl) (by kernel_rfl) (by kernel_rfl) (fun _ _ _ h => h) (by kernel_rfl) hS0 ?hy42 ?_
    case hy42 => (intro W hW; clear hW; go_simp; try rfl)
    simp only [Act.put, List.setIfInBounds_toArray, List.set_cons_zero, List.set_cons_succ]
    refine takeInH 2 9 ?v43 rfl rfl (by kernel_rfl) (by kernel_rfl) (by kernel_rfl) (fun _ _ _ h => h) (by kernel_rfl) hS0 ?hy43 ?_
    case hy43 => (intro W hW; clear hW; go_simp; try rfl)
    simp only [Act.put, List.setIfInBounds_toArray, List.set_cons_zero, List.set_cons_succ]
    refine takeInH 3 10 ?v44 rfl rfl (by kernel_rfl) (by kernel_rfl) (by kernel_rfl) (fun _ _ _ h => h) (by kernel_rfl) hS0 ?hy44 ?_
    case hy44 => (intro W hW; clear hW; go_simp; try rfl)
    simp only [Act.put, List.setIfInBounds_toArray, List.set_cons_zero, List.set_cons_succ]
    refine takeInH 4 11 ?v45 rfl rfl (by kernel_rfl) (by kernel_rfl) (by kernel_rfl) (fun _ _ _ h => h) (by kernel_rfl) hS0 ?hy45 ?_
    case hy45 => (intro W hW; clear hW; go_simp; try rfl)
    simp only [Act.put, List.setIfInBounds_toArray, List.set_cons_zero, List.set_cons_succ]
    refine takeNoH 5 12 rfl rfl (by kernel_rfl) (by kernel_rfl) (by kernel_rfl) (fun _ _ _ h => h) (by kernel_rfl) hS0 ?_
    simp only [Act.put, List.setIfInBounds_toArray, List.set_cons_zero, List.set_cons_succ]
    refine takeNoH 6 13 rfl rfl (by kernel_rfl) (by kernel_rfl) (by kernel_rfl) (fun _ _ _ h => h) (by kernel_rfl) hS0 ?_
    simp only [Act.put, List.setIfInBounds_toArray, List.set_cons_zero, List.set_cons_succ]
    refine takeNoH 7 14 rfl rfl (by kernel_rfl) (by kernel_rfl) (by kernel_rfl) (fun _ _ _ h => h) (by kernel_rfl) hS0 ?_
    simp only [Act.put, List.setIfInBounds_toArray, List.set_cons_zero, List.set_cons_succ]
    refine takeNoH 8 15 rfl rfl (by kernel_rfl) (by kernel_rfl) (by kernel_rfl) (fun _ _ _ h => h) (by kernel_rfl) hS0 ?_
    simp only [Act.put, List.setIfInBounds_toArray, List.set_cons_zero, List.set_cons_succ]
    refine takeNoH 9 16 rfl rfl (by kernel_rfl) (by kernel_rfl) (by kernel_rfl) (fun _ _ _ h => h) (by kernel_rfl) hS0 ?_
    simp only [Act.put, List.setIfInBounds_toArray, List.set_cons_zero, List.set_cons_succ]
    refine takeNoH 10 17 rfl rfl (by kernel_rfl) (by kernel_rfl) (by kernel_rfl) (fun _ _ _ h => h) (by kernel_rfl) hS0 ?_
    simp only [Act.put, List.setIfInBounds_toArray, List.set_cons_zero, List.set_cons_succ]
    refine takeInH 11 18 ?v46 rfl rfl (by kernel_rfl) (by kernel_rfl) (by kernel_rfl) (fun _ _ _ h => h) (by kernel_rfl) hS0 ?hy46 ?_
    case hy46 => (intro W hW; clear hW; go_simp; try rfl)
    simp only [Act.put, List.setIfInBounds_toArray, List.set_cons_zero, List.set_cons_succ]
    refine wpAnyH_done (by kernel_rfl) ?_ _
    go_wp2
    replace hu0 := bcell hS0 hu0
    replace hu1 := bcell hS0 hu1
    replace HU := hide (bel_next HU.out hS0)
    clear hS0
    generalize u.drew = u2 at *
    refine wp_region_held_drew (S := fun W => Below u2.heap.size u2 W) (by kernel_rfl) ((Below.refl _ u2).drew) (fun hS0 => ?_)
    refine takeInH 0 21 ?v47 rfl rfl (by kernel_rfl) (by kernel_rfl) (by kernel_rfl) (fun _ _ _ h => h) (by kernel_rfl) hS0 ?hy47 ?_
    case hy47 => (intro W hW; clear hW; go_simp; try rfl)
    simp only [Act.put, List.setIfInBounds_toArray, List.set_cons_zero, List.set_cons_succ]
    refine takeInH 1 22 ?v48 rfl rfl (by kernel_rfl) (by kernel_rfl) (by kernel_rfl) (fun _ _ _ h => h) (by kernel_rfl) hS0 ?hy48 ?_
    case hy48 => (intro W hW; clear hW; go_simp; try rfl)
    simp only [Act.put, List.setIfInBounds_toArray, List.set_cons_zero, List.set_cons_succ]
    refine takeInH 2 23 ?v49 rfl rfl (by kernel_rfl) (by kernel_rfl) (by kernel_rfl) (fun _ _ _ h => h) (by kernel_rfl) hS0 ?hy49 ?_
    case hy49 => (intro W hW; clear hW; go_simp; try rfl)
    simp only [Act.put, List.setIfInBounds_toArray, List.set_cons_zero, List.set_cons_succ]
    refine takeInH 3 24 ?v50 rfl rfl (by kernel_rfl) (by kernel_rfl) (by kernel_rfl) (fun _ _ _ h => h) (by kernel_rfl) hS0 ?hy50 ?_
    case hy50 => (intro W hW; clear hW; go_simp; try rfl)
    simp only [Act.put, List.setIfInBounds_toArray, List.set_cons_zero, List.set_cons_succ]
    refine takeInH 4 25 ?v51 rfl rfl (by kernel_rfl) (by kernel_rfl) (by kernel_rfl) (fun _ _ _ h => h) (by kernel_rfl) hS0 ?hy51 ?_
    case hy51 => (intro W hW; clear hW; go_simp; try rfl)
    simp only [Act.put, List.setIfInBounds_toArray, List.set_cons_zero, List.set_cons_succ]
    refine takeNoH 5 26 rfl rfl (by kernel_rfl) (by kernel_rfl) (by kernel_rfl) (fun _ _ _ h => h) (by kernel_rfl) hS0 ?_
    simp only [Act.put, List.setIfInBounds_toArray, List.set_cons_zero, List.set_cons_succ]
    refine takeNoH 6 27 rfl rfl (by kernel_rfl) (by kernel_rfl) (by kernel_rfl) (fun _ _ _ h => h) (by kernel_rfl) hS0 ?_
    simp only [Act.put, List.setIfInBounds_toArray, List.set_cons_zero, List.set_cons_succ]
    refine takeNoH 7 28 rfl rfl (by kernel_rfl) (by kernel_rfl) (by kernel_rfl) (fun _ _ _ h => h) (by kernel_rfl) hS0 ?_
    simp only [Act.put, List.setIfInBounds_toArray, List.set_cons_zero, List.set_cons_succ]
    refine takeNoH 8 29 rfl rfl (by kernel_rfl) (by kernel_rfl) (by kernel_rfl) (fun _ _ _ h => h) (by kernel_rfl) hS0 ?_
    simp only [Act.put, List.setIfInBounds_toArray, List.set_cons_zero, List.set_cons_succ]
    refine takeNoH 9 30 rfl rfl (by kernel_rfl) (by kernel_rfl) (by kernel_rfl) (fun _ _ _ h => h) (by kernel_rfl) hS0 ?_
    simp only [Act.put, List.setIfInBounds_toArray, List.set_cons_zero, List.set_cons_succ]
    refine takeNoH 10 31 rfl rfl (by kernel_rfl) (by kernel_rfl) (by kernel_rfl) (fun _ _ _ h => h) (by kernel_rfl) hS0 ?_
    simp only [Act.put, List.setIfInBounds_toArray, List.set_cons_zero, List.set_cons_succ]
    refine takeInH 11 32 ?v52 rfl rfl (by kernel_rfl) (by kernel_rfl) (by kernel_rfl) (fun _ _ _ h => h) (by kernel_rfl) hS0 ?hy52 ?_
    case hy52 => (intro W hW; clear hW; go_simp; try rfl)
    simp only [Act.put, List.setIfInBounds_toArray, List.set_cons_zero, List.set_cons_succ]
    refine wpAnyH_done (by kernel_rfl) ?_ _
    replace hu0 := bcell hS0 hu0
    replace hu1 := bcell hS0 hu1
    replace HU := hide (bel_next HU.out hS0)
    clear hS0
    generalize u2.drew = u4 at *
    go_wp2_with (at_builtin; refine Stop.at ?_)
    unfold Stop
    refine append_dots rfl _ _ rfl u4.heap.size _ [] [] rfl (OwnD.made u4 u4.heap.size _ rfl (Nat.le_refl _)) none 0 0 rfl (fun _ => rfl) (DS.nil _ _) (by simp) (by simp) ?_
    intro vr u3 hor hbr
    have hB3 := hbr _ (bel1 u4 _)
    obtain ⟨pr, cr, hvr, hdr, hcr⟩ := hor.open
    obtain ⟨nr, hnr⟩ : ∃ nr, nr = (([] : List Dot) ++ []).length := ⟨_, rfl⟩
    rw [← hnr] at hvr hdr
    subst hvr
    have HDr : Hid (DS u3 pr nr (l.drop k)) := by unfold Hid; rw [HDl.out]; exact hdr
    have hpr := hcr.2.2
    have c2 := bcell hB3 hu0
    have c3 := bcell hB3 hu1
    replace HU := hide (bel_next HU.out hB3)
    clear hor hbr hB3 hdr hcr hu0 hu1 hnr
    go_wp2
    refine wp_region_held_drew (S := fun W => Below u3.heap.size u3 W) (by kernel_rfl) ((Below.refl _ u3).drew) (fun hS0 => ?_)
    refine takeInH 0 39 ?v1 rfl rfl (by kernel_rfl) (by kernel_rfl) (by kernel_rfl) (fun _ _ _ h => h) (by kernel_rfl) hS0 ?hy1 ?_
    case hy1 => (intro W hW; clear hW; go_simp; try rfl)
    simp only [Act.put, List.setIfInBounds_toArray, List.set_cons_zero, List.set_cons_succ]
    refine takeInH 1 40 ?v2 rfl rfl (by kernel_rfl) (by kernel_rfl) (by kernel_rfl) (fun _ _ _ h => h) (by kernel_rfl) hS0 ?hy2 ?_
    case hy2 => (intro W hW; clear hW; go_simp; try rfl)
    simp only [Act.put, List.setIfInBounds_toArray, List.set_cons_zero, List.set_cons_succ]
    refine takeInH 2 41 ?v3 rfl rfl (by kernel_rfl) (by kernel_rfl) (by kernel_rfl) (fun _ _ _ h => h) (by kernel_rfl) hS0 ?hy3 ?_
    case hy3 => (intro W hW; clear hW; go_simp; try rfl)
    simp only [Act.put, List.setIfInBounds_toArray, List.set_cons_zero, List.set_cons_succ]
    refine takeInH 3 42 ?v4 rfl rfl (by kernel_rfl) (by kernel_rfl) (by kernel_rfl) (fun _ _ _ h => h) (by kernel_rfl) hS0 ?hy4 ?_
    case hy4 => (intro W hW; clear hW; go_simp; try rfl)
    simp only [Act.put, List.setIfInBounds_toArray, List.set_cons_zero, List.set_cons_succ]
    refine takeInH 4 43 ?v5 rfl rfl (by kernel_rfl) (by kernel_rfl) (by kernel_rfl) (fun _ _ _ h => h) (by kernel_rfl) hS0 ?hy5 ?_
    case hy5 => (intro W hW; have e0 := bcell hW c2; have e1 := bcell hW c3; clear hW; go_simp; try rfl)
    simp only [Act.put, List.setIfInBounds_toArray, List.set_cons_zero, List.set_cons_succ]
    refine takeInH 7 46 ?v6 rfl rfl (by kernel_rfl) (by kernel_rfl) (by kernel_rfl) (fun _ _ _ h => h) (by kernel_rfl) hS0 ?hy6 ?_
    case hy6 => (intro W hW; clear hW; go_simp; try rfl)
    simp only [Act.put, List.setIfInBounds_toArray, List.set_cons_zero, List.set_cons_succ]
    refine wpAnyH_ready (rs := [5]) (by kernel_rfl) (by simp) ?_
    refine AllReadyH.cons rfl (fun K hK => ?_) AllReadyH.nil
    go_simp
    have b0 := DS.new u3 u3.heap.size rfl [(p, q)] #[.int .i64 p, .int .i64 q] rfl 24 (0, 0) 1 rfl (by decide)
    have hSn : Below u3.heap.size u3 (u3.alloc (.cells #[.int .i64 p, .int .i64 q] 24)).drew := ((Below.refl _ u3).alloc (Nat.le_refl _) _).drew
    have b1 : DS (u3.alloc (.cells #[.int .i64 p, .int .i64 q] 24)).drew (some ⟨u3.heap.size, 0, none⟩) 1 [(p, q)] := b0
    clear b0
    generalize (u3.alloc (.cells #[.int .i64 p, .int .i64 q] 24)).drew = W1 at *
    refine hK.out _ _ ?hs7 (fun hS1 => ?_)
    case hs7 => exact hSn
    clear hK K
    try simp only [Act.put, List.setIfInBounds_toArray, List.set_cons_zero, List.set_cons_succ]
    refine wpAnyH_ready (rs := [6]) (by kernel_rfl) (by simp) ?_
    refine AllReadyH.cons rfl (fun K hK => ?_) AllReadyH.nil
    rw [if_pos (by kernel_rfl)]
    refine append_wp _ _ rfl u3.heap.size _ [] [(p, q)] rfl (OwnD.nil _ _) (some ⟨u3.heap.size, 0, none⟩) 1 1 rfl (fun h => by cases h) b1 (by simp) hS1.size ?_
    intro v1 w1 ho1 hb1
    have HO1 : Hid (OwnD u3.heap.size w1 v1 (l.take k ++ [(p, q)])) := by unfold Hid; rw [HT.out]; exact ho1
    have hSk := hb1 _ hS1
    clear ho1 hb1 b1
    change K (Act.put _ (some 45) _) _
    refine hK.out _ _ ?hs8 (fun hS2 => ?_)
    case hs8 => exact hSk
    clear hK K
    try simp only [Act.put, List.setIfInBounds_toArray, List.set_cons_zero, List.set_cons_succ]
    refine wpAnyH_ready (rs := [8]) (by kernel_rfl) (by simp) ?_
    refine AllReadyH.cons rfl (fun K hK => ?_) AllReadyH.nil
    rw [if_pos (by kernel_rfl)]
    refine append_wp _ _ rfl u3.heap.size _ (l.take k ++ [(p, q)]) (l.drop k) rfl HO1.out pr nr cr rfl hpr (HDr.out.below hS2) (by have := HLk.out; rw [List.length_append, List.length_take, List.length_drop]; simp; omega) hS2.size ?_
    intro v2 w2 ho2 hb2
    have HO2 := hide ho2
    have hSm := hb2 _ hS2
    clear ho2 hb2
    change K (Act.put _ (some 47) _) _
    refine hK.out _ _ ?hs9 (fun hS3 => ?_)
    case hs9 => exact hSm
    clear hK K
    try simp only [Act.put, List.setIfInBounds_toArray, List.set_cons_zero, List.set_cons_succ]
    refine takeInH 9 4 ?v10 rfl rfl (by kernel_rfl) (by kernel_rfl) (by kernel_rfl) (fun _ _ _ h => h) (by kernel_rfl) hS3 ?hy10 ?_
    case hy10 => (intro W hW; clear hW; go_simp; try rfl)
    simp only [Act.put, List.setIfInBounds_toArray, List.set_cons_zero, List.set_cons_succ]
    refine wpAnyH_done (by kernel_rfl) ?_ _
    go_wp2
    go_ret
    refine ⟨_, rfl, ?_, bel_next HU.out (by assumption)⟩
    rw [← HE.out]
    exact HO2.out.mono (Nat.le_trans hN HU.out.size)
  · obtain ⟨n, hln⟩ : ∃ n, l.length = n := ⟨_, rfl⟩
    rw [hln] at hO hlc hn ⊢
    obtain ⟨hds, hcp⟩ := hO.ds
    have HO := hide hO
    have HD := hide hds
    have hmax := hds.2.1
    unfold maxLen at hmax hcm
    have HL := hide hln
    have HC : Hid (∀ i, i < n → w.cell? ⟨g, i * 2, none⟩ = some (.int .i64 (l.getD i (0, 0)).1) ∧ w.cell? ⟨g, i * 2 + 1, none⟩ = some (.int .i64 (l.getD i (0, 0)).2)) := by
      rcases hds.2.2 with h0 | ⟨b, off, hh, hc⟩
      · exact fun i hi => by omega
      · cases hh
        intro i hi
        have z := hc i hi
        rw [Nat.zero_add] at z
        exact z
    have HLs0 := hide (fun (x : Dot) W => LessR_any x.1 x.2 p q W)
    clear hO hds hcp hln
    go_enter Try.func41, Try.ntmps41
    go_wp2
    go_loopw [5] (fun i wr => ∃ k : Nat, k ≤ n ∧ i = .int .i64 k ∧ Below (w.alloc (bxD p q)).heap.size (w.alloc (bxD p q)) wr ∧ Hid (∀ i, i < k → lessD (l.getD i (0, 0)) (p, q) = true)) (fun i _ => n - (intOf i).toNat)
    case atStart => exact ⟨0, by omega, rfl, Below.refl _ _, fun i hi => absurd hi (Nat.not_lt_zero _)⟩
    case round =>
      obtain ⟨k, hk, rfl, hbel, H1⟩ := hrel
      have HB := hide (bel_next HU.out hbel)
      have c2 := bcell hbel hu0
      have c3 := bcell hbel hu1
      have HBel := hide hbel
      clear hbel
      by_cases hgo : k < n ∧ lessD (l.getD k (0, 0)) (p, q) = true
      · have hlt := hgo.1
        have c0 := bcell HB.out (HC.out k hlt).1
        have c1 := bcell HB.out (HC.out k hlt).2
        have HLs := hide (fun W => HLs0.out (l.getD k (0, 0)) W)
        rw [show ((l.getD k (0, 0)).1, (l.getD k (0, 0)).2) = l.getD k (0, 0) from rfl, hgo.2] at HLs
        have H2 : Hid (∀ i, i < k + 1 → lessD (l.getD i (0, 0)) (p, q) = true) := fun i hi => by
          by_cases e : i = k
          · subst e; exact hgo.2
          · exact H1.out i (by omega)
        clear hgo
        generalize l.getD k (0, 0) = x at c0 c1 HLs
        obtain ⟨r, s⟩ := x
        go_wp2
        refine wp_region_held_drew (S := fun W => Below wr.heap.size wr W) (by kernel_rfl) ((Below.refl _ wr).drew) (fun hS0 => ?_)
        refine takeInH 0 7 ?v53 rfl rfl (by kernel_rfl) (by kernel_rfl) (by kernel_rfl) (fun _ _ _ h => h) (by kernel_rfl) hS0 ?hy53 ?_
        case hy53 => (intro W hW; clear hW; go_simp; try rfl)
        simp only [Act.put, List.setIfInBounds_toArray, List.set_cons_zero, List.set_cons_succ]
        refine takeInH 1 8 ?v54 rfl rfl (by kernel_rfl) (by kernel_rfl) (by kernel_rfl) (fun _ _ _ h => h) (by kernel_rfl) hS0 ?hy54 ?_
        case hy54 => (intro W hW; clear hW; go_simp; try rfl)
        simp only [Act.put, List.setIfInBounds_toArray, List.set_cons_zero, List.set_cons_succ]
        refine takeInH 2 9 ?v55 rfl rfl (by kernel_rfl) (by kernel_rfl) (by kernel_rfl) (fun _ _ _ h => h) (by kernel_rfl) hS0 ?hy55 ?_
        case hy55 => (intro W hW; clear hW; go_simp; try rfl)
        simp only [Act.put, List.setIfInBounds_toArray, List.set_cons_zero, List.set_cons_succ]
        refine takeInH 3 10 ?v56 rfl rfl (by kernel_rfl) (by kernel_rfl) (by kernel_rfl) (fun _ _ _ h => h) (by kernel_rfl) hS0 ?hy56 ?_
        case hy56 => (intro W hW; clear hW; go_simp; try rfl)
        simp only [Act.put, List.setIfInBounds_toArray, List.set_cons_zero, List.set_cons_succ]
        refine takeInH 4 11 ?v57 rfl rfl (by kernel_rfl) (by kernel_rfl) (by kernel_rfl) (fun _ _ _ h => h) (by kernel_rfl) hS0 ?hy57 ?_
        case hy57 => (intro W hW; clear hW; go_simp; try rfl)
        simp only [Act.put, List.setIfInBounds_toArray, List.set_cons_zero, List.set_cons_succ]
        refine takeInH 5 12 ?v58 rfl rfl (by kernel_rfl) (by kernel_rfl) (by kernel_rfl) (fun _ _ _ h => h) (by kernel_rfl) hS0 ?hy58 ?_
        case hy58 => (intro W hW; clear hW; go_simp; try rfl)
        simp only [Act.put, List.setIfInBounds_toArray, List.set_cons_zero, List.set_cons_succ]
        refine takeInH 6 13 ?v59 rfl rfl (by kernel_rfl) (by kernel_rfl) (by kernel_rfl) (fun _ _ _ h => h) (by kernel_rfl) hS0 ?hy59 ?_
        case hy59 => (intro W hW; clear hW; go_simp; try rfl)
        simp only [Act.put, List.setIfInBounds_toArray, List.set_cons_zero, List.set_cons_succ]
        refine takeInH 7 14 ?v60 rfl rfl (by kernel_rfl) (by kernel_rfl) (by kernel_rfl) (fun _ _ _ h => h) (by kernel_rfl) hS0 ?hy60 ?_
        case hy60 => (intro W hW; clear hW; go_simp; try rfl)
        simp only [Act.put, List.setIfInBounds_toArray, List.set_cons_zero, List.set_cons_succ]
        refine takeInH 8 15 ?v61 rfl rfl (by kernel_rfl) (by kernel_rfl) (by kernel_rfl) (fun _ _ _ h => h) (by kernel_rfl) hS0 ?hy61 ?_
        case hy61 => (intro W hW; have e0 := bcell hW c0; have e1 := bcell hW c1; have e2 := bcell hW c2; have e3 := bcell hW c3; clear hW; go_simp; try rfl)
        simp only [Act.put, List.setIfInBounds_toArray, List.set_cons_zero, List.set_cons_succ]
        refine takeInH 9 16 ?v62 rfl rfl (by kernel_rfl) (by kernel_rfl) (by kernel_rfl) (fun _ _ _ h => h) (by kernel_rfl) hS0 ?hy62 ?_
        case hy62 => (intro W hW; have e0 := bcell hW c0; have e1 := bcell hW c1; have e2 := bcell hW c2; have e3 := bcell hW c3; clear hW; go_simp; try rfl)
        simp only [Act.put, List.setIfInBounds_toArray, List.set_cons_zero, List.set_cons_succ]
        refine wpAnyH_ready (rs := [10]) (by kernel_rfl) (by simp) ?_
        refine AllReadyH.cons rfl (fun K hK => ?_) AllReadyH.nil
        go_simp
        refine (HLs.out _).mono ?_
        rintro e w' ⟨rfl, hg⟩
        have hb := hg.bel
        clear hg
        try go_wp2_with fail
        refine hK.out _ _ ?hs63 (fun hS1 => ?_)
        case hs63 => exact bel_next hS0 hb
        clear hK K hb
        try simp only [Act.put, List.setIfInBounds_toArray, List.set_cons_zero, List.set_cons_succ]
        refine takeInH 11 18 ?v64 rfl rfl (by kernel_rfl) (by kernel_rfl) (by kernel_rfl) (fun _ _ _ h => h) (by kernel_rfl) hS1 ?hy64 ?_
        case hy64 => (intro W hW; clear hW; go_simp; try rfl)
        simp only [Act.put, List.setIfInBounds_toArray, List.set_cons_zero, List.set_cons_succ]
        refine wpAnyH_done (by kernel_rfl) ?_ _
        go_wp2
        go_roundw
        case rel => exact ⟨k + 1, by omega, by go_num, bel_next HBel.out (by assumption), H2⟩
        case measure => simp [intOf]; omega
      · have hno : k = n ∨ lessD (l.getD k (0, 0)) (p, q) = false := by
          rcases Nat.lt_or_ge k n with z | z
          · right; rw [← Bool.not_eq_true]; exact fun y => hgo ⟨z, y⟩
          · left; omega
        have HP := hide (putD_at (d := (p, q)) k (l := l) (by rw [HL.out]; exact hk) H1.out (by rw [HL.out]; exact hno))
        have HLk : Hid (l.length ≤ 100000 ∧ k ≤ l.length) := by unfold Hid; rw [HL.out]; exact ⟨hn, hk⟩
        clear hgo H1
        by_cases hlt : k < n
        · have c0 := bcell HB.out (HC.out k hlt).1
          have c1 := bcell HB.out (HC.out k hlt).2
          have HLs := hide (fun W => HLs0.out (l.getD k (0, 0)) W)
          have hnl : lessD (l.getD k (0, 0)) (p, q) = false := by
            rcases hno with z | z
            · omega
            · exact z
          rw [show ((l.getD k (0, 0)).1, (l.getD k (0, 0)).2) = l.getD k (0, 0) from rfl, hnl] at HLs
          clear hno hnl
          obtain ⟨x, hx⟩ : ∃ x, l.getD k (0, 0) = x := ⟨_, rfl⟩
          rw [hx] at c0 c1 HLs
          have HX := hide hx
          clear hx
          obtain ⟨r, s⟩ := x
          by_cases hxy : r = p ∧ s = q
          · have hq := fun w => eqD r s p q true (by symm; exact decide_eq_true hxy) w
            have HE : Hid (l = putD l (p, q)) := by
              have z := HP.out
              unfold Hid
              rw [if_pos ⟨by rw [HL.out]; exact hlt, by rw [HX.out]; exact Prod.ext hxy.1 hxy.2⟩] at z
              exact z.symm
            clear hxy HP
            go_wp2
            refine wp_region_held_drew (S := fun W => Below wr.heap.size wr W) (by kernel_rfl) ((Below.refl _ wr).drew) (fun hS0 => ?_)
            refine takeInH 0 7 ?v65 rfl rfl (by kernel_rfl) (by kernel_rfl) (by kernel_rfl) (fun _ _ _ h => h) (by kernel_rfl) hS0 ?hy65 ?_
            case hy65 => (intro W hW; clear hW; go_simp; try rfl)
            simp only [Act.put, List.setIfInBounds_toArray, List.set_cons_zero, List.set_cons_succ]
            refine takeInH 1 8 ?v66 rfl rfl (by kernel_rfl) (by kernel_rfl) (by kernel_rfl) (fun _ _ _ h => h) (by kernel_rfl) hS0 ?hy66 ?_
            case hy66 => (intro W hW; clear hW; go_simp; try rfl)
            simp only [Act.put, List.setIfInBounds_toArray, List.set_cons_zero, List.set_cons_succ]
            refine takeInH 2 9 ?v67 rfl rfl (by kernel_rfl) (by kernel_rfl) (by kernel_rfl) (fun _ _ _ h => h) (by kernel_rfl) hS0 ?hy67 ?_
            case hy67 => (intro W hW; clear hW; go_simp; try rfl)
            simp only [Act.put, List.setIfInBounds_toArray, List.set_cons_zero, List.set_cons_succ]
            refine takeInH 3 10 ?v68 rfl rfl (by kernel_rfl) (by kernel_rfl) (by kernel_rfl) (fun _ _ _ h => h) (by kernel_rfl) hS0 ?hy68 ?_
            case hy68 => (intro W hW; clear hW; go_simp; try rfl)
            simp only [Act.put, List.setIfInBounds_toArray, List.set_cons_zero, List.set_cons_succ]
            refine takeInH 4 11 ?v69 rfl rfl (by kernel_rfl) (by kernel_rfl) (by kernel_rfl) (fun _ _ _ h => h) (by kernel_rfl) hS0 ?hy69 ?_
            case hy69 => (intro W hW; clear hW; go_simp; try rfl)
            simp only [Act.put, List.setIfInBounds_toArray, List.set_cons_zero, List.set_cons_succ]
            refine takeInH 5 12 ?v70 rfl rfl (by kernel_rfl) (by kernel_rfl) (by kernel_rfl) (fun _ _ _ h => h) (by kernel_rfl) hS0 ?hy70 ?_
            case hy70 => (intro W hW; clear hW; go_simp; try rfl)
            simp only [Act.put, List.setIfInBounds_toArray, List.set_cons_zero, List.set_cons_succ]
            refine takeInH 6 13 ?v71 rfl rfl (by kernel_rfl) (by kernel_rfl) (by kernel_rfl) (fun _ _ _ h => h) (by kernel_rfl) hS0 ?hy71 ?_
            case hy71 => (intro W hW; clear hW; go_simp; try rfl)
            simp only [Act.put, List.setIfInBounds_toArray, List.set_cons_zero, List.set_cons_succ]
            refine takeInH 7 14 ?v72 rfl rfl (by kernel_rfl) (by kernel_rfl) (by kernel_rfl) (fun _ _ _ h => h) (by kernel_rfl) hS0 ?hy72 ?_
            case hy72 => (intro W hW; clear hW; go_simp; try rfl)
            simp only [Act.put, List.setIfInBounds_toArray, List.set_cons_zero, List.set_cons_succ]
            refine takeInH 8 15 ?v73 rfl rfl (by kernel_rfl) (by kernel_rfl) (by kernel_rfl) (fun _ _ _ h => h) (by kernel_rfl) hS0 ?hy73 ?_
            case hy73 => (intro W hW; have e0 := bcell hW c0; have e1 := bcell hW c1; have e2 := bcell hW c2; have e3 := bcell hW c3; clear hW; go_simp; try rfl)
            simp only [Act.put, List.setIfInBounds_toArray, List.set_cons_zero, List.set_cons_succ]
            refine takeInH 9 16 ?v74 rfl rfl (by kernel_rfl) (by kernel_rfl) (by kernel_rfl) (fun _ _ _ h => h) (by kernel_rfl) hS0 ?hy74 ?_
            case hy74 => (intro W hW; have e0 := bcell hW c0; have e1 := bcell hW c1; have e2 := bcell hW c2; have e3 := bcell hW c3; clear hW; go_simp; try rfl)
            simp only [Act.put, List.setIfInBounds_toArray, List.set_cons_zero, List.set_cons_succ]
            refine wpAnyH_ready (rs := [10]) (by kernel_rfl) (by simp) ?_
            refine AllReadyH.cons rfl (fun K hK => ?_) AllReadyH.nil
            go_simp
            refine (HLs.out _).mono ?_
            rintro e w' ⟨rfl, hg⟩
            have hb := hg.bel
            clear hg
            try go_wp2_with fail
            refine hK.out _ _ ?hs75 (fun hS1 => ?_)
            case hs75 => exact bel_next hS0 hb
            clear hK K hb
            try simp only [Act.put, List.setIfInBounds_toArray, List.set_cons_zero, List.set_cons_succ]
            refine takeInH 11 18 ?v76 rfl rfl (by kernel_rfl) (by kernel_rfl) (by kernel_rfl) (fun _ _ _ h => h) (by kernel_rfl) hS1 ?hy76 ?_
            case hy76 => (intro W hW; clear hW; go_simp; try rfl)
            simp only [Act.put, List.setIfInBounds_toArray, List.set_cons_zero, List.set_cons_succ]
            refine wpAnyH_done (by kernel_rfl) ?_ _
            go_wp2
            replace c0 := bcell hS1 c0
            replace c1 := bcell hS1 c1
            replace c2 := bcell hS1 c2
            replace c3 := bcell hS1 c3
            replace HB := hide (bel_next HB.out hS1)
            clear hS0 hS1 HBel
            generalize w' = u2 at *
            refine wp_region_held_drew (S := fun W => Below u2.heap.size u2 W) (by kernel_rfl) ((Below.refl _ u2).drew) (fun hS0 => ?_)
            refine takeInH 0 21 ?v77 rfl rfl (by kernel_rfl) (by kernel_rfl) (by kernel_rfl) (fun _ _ _ h => h) (by kernel_rfl) hS0 ?hy77 ?_
            case hy77 => (intro W hW; clear hW; go_simp; try rfl)
            simp only [Act.put, List.setIfInBounds_toArray, List.set_cons_zero, List.set_cons_succ]
            refine takeInH 1 22 ?v78 rfl rfl (by kernel_rfl) (by kernel_rfl) (by kernel_rfl) (fun _ _ _ h => h) (by kernel_rfl) hS0 ?hy78 ?_
            case hy78 => (intro W hW; clear hW; go_simp; try rfl)
            simp only [Act.put, List.setIfInBounds_toArray, List.set_cons_zero, List.set_cons_succ]
            refine takeInH 2 23 ?v79 rfl rfl (by kernel_rfl) (by kernel_rfl) (by kernel_rfl) (fun _ _ _ h => h) (by kernel_rfl) hS0 ?hy79 ?_
            case hy79 => (intro W hW; clear hW; go_simp; try rfl)
            simp only [Act.put, List.setIfInBounds_toArray, List.set_cons_zero, List.set_cons_succ]
            refine takeInH 3 24 ?v80 rfl rfl (by kernel_rfl) (by kernel_rfl) (by kernel_rfl) (fun _ _ _ h => h) (by kernel_rfl) hS0 ?hy80 ?_
            case hy80 => (intro W hW; clear hW; go_simp; try rfl)
            simp only [Act.put, List.setIfInBounds_toArray, List.set_cons_zero, List.set_cons_succ]
            refine takeInH 4 25 ?v81 rfl rfl (by kernel_rfl) (by kernel_rfl) (by kernel_rfl) (fun _ _ _ h => h) (by kernel_rfl) hS0 ?hy81 ?_
            case hy81 => (intro W hW; clear hW; go_simp; try rfl)
            simp only [Act.put, List.setIfInBounds_toArray, List.set_cons_zero, List.set_cons_succ]
            refine takeInH 5 26 ?v82 rfl rfl (by kernel_rfl) (by kernel_rfl) (by kernel_rfl) (fun _ _ _ h => h) (by kernel_rfl) hS0 ?hy82 ?_
            case hy82 => (intro W hW; clear hW; go_simp; try rfl)
            simp only [Act.put, List.setIfInBounds_toArray, List.set_cons_zero, List.set_cons_succ]
            refine takeInH 6 27 ?v83 rfl rfl (by kernel_rfl) (by kernel_rfl) (by kernel_rfl) (fun _ _ _ h => h) (by kernel_rfl) hS0 ?hy83 ?_
            case hy83 => (intro W hW; clear hW; go_simp; try rfl)
            simp only [Act.put, List.setIfInBounds_toArray, List.set_cons_zero, List.set_cons_succ]
            refine takeInH 7 28 ?v84 rfl rfl (by kernel_rfl) (by kernel_rfl) (by kernel_rfl) (fun _ _ _ h => h) (by kernel_rfl) hS0 ?hy84 ?_
            case hy84 => (intro W hW; clear hW; go_simp; try rfl)
            simp only [Act.put, List.setIfInBounds_toArray, List.set_cons_zero, List.set_cons_succ]
            refine takeInH 8 29 ?v85 rfl rfl (by kernel_rfl) (by kernel_rfl) (by kernel_rfl) (fun _ _ _ h => h) (by kernel_rfl) hS0 ?hy85 ?_
            case hy85 => (intro W hW; have e0 := bcell hW c0; have e1 := bcell hW c1; have e2 := bcell hW c2; have e3 := bcell hW c3; clear hW; go_simp; try rfl)
            simp only [Act.put, List.setIfInBounds_toArray, List.set_cons_zero, List.set_cons_succ]
            refine takeInH 9 30 ?v86 rfl rfl (by kernel_rfl) (by kernel_rfl) (by kernel_rfl) (fun _ _ _ h => h) (by kernel_rfl) hS0 ?hy86 ?_
            case hy86 => (intro W hW; have e0 := bcell hW c0; have e1 := bcell hW c1; have e2 := bcell hW c2; have e3 := bcell hW c3; clear hW; go_simp; try rfl)
            simp only [Act.put, List.setIfInBounds_toArray, List.set_cons_zero, List.set_cons_succ]
            refine takeInH 10 31 ?v87 rfl rfl (by kernel_rfl) (by kernel_rfl) (by kernel_rfl) (fun _ _ _ h => h) (by kernel_rfl) hS0 ?hy87 ?_
            case hy87 => (intro W hW; clear hW; go_simp; try rfl)
            simp only [Act.put, List.setIfInBounds_toArray, List.set_cons_zero, List.set_cons_succ]
            refine takeInH 11 32 ?v88 rfl rfl (by kernel_rfl) (by kernel_rfl) (by kernel_rfl) (fun _ _ _ h => h) (by kernel_rfl) hS0 ?hy88 ?_
            case hy88 => (intro W hW; clear hW; go_simp; try rfl)
            simp only [Act.put, List.setIfInBounds_toArray, List.set_cons_zero, List.set_cons_succ]
            refine wpAnyH_done (by kernel_rfl) ?_ _
            go_wp2
            go_ret
            refine ⟨_, rfl, ?_, bel_next HB.out (by assumption)⟩
            rw [← HE.out]
            exact HO.out.below (bel_next HB.out (by assumption))
          · have hq := fun w => eqD r s p q false (by symm; exact decide_eq_false hxy) w
            have HE : Hid (l.take k ++ [(p, q)] ++ l.drop k = putD l (p, q)) := by
              have z := HP.out
              unfold Hid
              rw [if_neg (fun y => hxy ⟨by have e := y.2; rw [HX.out] at e; exact congrArg Prod.fst e, by have e := y.2; rw [HX.out] at e; exact congrArg Prod.snd e⟩)] at z
              rw [z]; simp
            clear hxy HP
            go_wp2
            refine wp_region_held_drew (S := fun W => Below wr.heap.size wr W) (by kernel_rfl) ((Below.refl _ wr).drew) (fun hS0 => ?_)
            refine takeInH 0 7 ?v89 rfl rfl (by kernel_rfl) (by kernel_rfl) (by kernel_rfl) (fun _ _ _ h => h) (by kernel_rfl) hS0 ?hy89 ?_
            case hy89 => (intro W hW; clear hW; go_simp; try rfl)
            simp only [Act.put, List.setIfInBounds_toArray, List.set_cons_zero, List.set_cons_succ]
            refine takeInH 1 8 ?v90 rfl rfl (by kernel_rfl) (by kernel_rfl) (by kernel_rfl) (fun _ _ _ h => h) (by kernel_rfl) hS0 ?hy90 ?_
            case hy90 => (intro W hW; clear hW; go_simp; try rfl)
            simp only [Act.put, List.setIfInBounds_toArray, List.set_cons_zero, List.set_cons_succ]
            refine takeInH 2 9 ?v91 rfl rfl (by kernel_rfl) (by kernel_rfl) (by kernel_rfl) (fun _ _ _ h => h) (by kernel_rfl) hS0 ?hy91 ?_
            case hy91 => (intro W hW; clear hW; go_simp; try rfl)
            simp only [Act.put, List.setIfInBounds_toArray, List.set_cons_zero, List.set_cons_succ]
            refine takeInH 3 10 ?v92 rfl rfl (by kernel_rfl) (by kernel_rfl) (by kernel_rfl) (fun _ _ _ h => h) (by kernel_rfl) hS0 ?hy92 ?_
            case hy92 => (intro W hW; clear hW; go_simp; try rfl)
            simp only [Act.put, List.setIfInBounds_toArray, List.set_cons_zero, List.set_cons_succ]
            refine takeInH 4 11 ?v93 rfl rfl (by kernel_rfl) (by kernel_rfl) (by kernel_rfl) (fun _ _ _ h => h) (by kernel_rfl) hS0 ?hy93 ?_
            case hy93 => (intro W hW; clear hW; go_simp; try rfl)
            simp only [Act.put, List.setIfInBounds_toArray, List.set_cons_zero, List.set_cons_succ]
            refine takeInH 5 12 ?v94 rfl rfl (by kernel_rfl) (by kernel_rfl) (by kernel_rfl) (fun _ _ _ h => h) (by kernel_rfl) hS0 ?hy94 ?_
            case hy94 => (intro W hW; clear hW; go_simp; try rfl)
            simp only [Act.put, List.setIfInBounds_toArray, List.set_cons_zero, List.set_cons_succ]
            refine takeInH 6 13 ?v95 rfl rfl (by kernel_rfl) (by kernel_rfl) (by kernel_rfl) (fun _ _ _ h => h) (by kernel_rfl) hS0 ?hy95 ?_
            case hy95 => (intro W hW; clear hW; go_simp; try rfl)
            simp only [Act.put, List.setIfInBounds_toArray, List.set_cons_zero, List.set_cons_succ]
            refine takeInH 7 14 ?v96 rfl rfl (by kernel_rfl) (by kernel_rfl) (by kernel_rfl) (fun _ _ _ h => h) (by kernel_rfl) hS0 ?hy96 ?_
            case hy96 => (intro W hW; clear hW; go_simp; try rfl)
            simp only [Act.put, List.setIfInBounds_toArray, List.set_cons_zero, List.set_cons_succ]
            refine takeInH 8 15 ?v97 rfl rfl (by kernel_rfl) (by kernel_rfl) (by kernel_rfl) (fun _ _ _ h => h) (by kernel_rfl) hS0 ?hy97 ?_
            case hy97 => (intro W hW; have e0 := bcell hW c0; have e1 := bcell hW c1; have e2 := bcell hW c2; have e3 := bcell hW c3; clear hW; go_simp; try rfl)
            simp only [Act.put, List.setIfInBounds_toArray, List.set_cons_zero, List.set_cons_succ]
            refine takeInH 9 16 ?v98 rfl rfl (by kernel_rfl) (by kernel_rfl) (by kernel_rfl) (fun _ _ _ h => h) (by kernel_rfl) hS0 ?hy98 ?_
            case hy98 => (intro W hW; have e0 := bcell hW c0; have e1 := bcell hW c1; have e2 := bcell hW c2; have e3 := bcell hW c3; clear hW; go_simp; try rfl)
            simp only [Act.put, List.setIfInBounds_toArray, List.set_cons_zero, List.set_cons_succ]
            refine wpAnyH_ready (rs := [10]) (by kernel_rfl) (by simp) ?_
            refine AllReadyH.cons rfl (fun K hK => ?_) AllReadyH.nil
            go_simp
            refine (HLs.out _).mono ?_
            rintro e w' ⟨rfl, hg⟩
            have hb := hg.bel
            clear hg
            try go_wp2_with fail
            refine hK.out _ _ ?hs99 (fun hS1 => ?_)
            case hs99 => exact bel_next hS0 hb
            clear hK K hb
            try simp only [Act.put, List.setIfInBounds_toArray, List.set_cons_zero, List.set_cons_succ]
            refine takeInH 11 18 ?v100 rfl rfl (by kernel_rfl) (by kernel_rfl) (by kernel_rfl) (fun _ _ _ h => h) (by kernel_rfl) hS1 ?hy100 ?_
            case hy100 => (intro W hW; clear hW; go_simp; try rfl)
            simp only [Act.put, List.setIfInBounds_toArray, List.set_cons_zero, List.set_cons_succ]
            refine wpAnyH_done (by kernel_rfl) ?_ _
            go_wp2
            replace c0 := bcell hS1 c0
            replace c1 := bcell hS1 c1
            replace c2 := bcell hS1 c2
            replace c3 := bcell hS1 c3
            replace HB := hide (bel_next HB.out hS1)
            clear hS0 hS1 HBel
            generalize w' = u2 at *
            refine wp_region_held_drew (S := fun W => Below u2.heap.size u2 W) (by kernel_rfl) ((Below.refl _ u2).drew) (fun hS0 => ?_)
            refine takeInH 0 21 ?v101 rfl rfl (by kernel_rfl) (by kernel_rfl) (by kernel_rfl) (fun _ _ _ h => h) (by kernel_rfl) hS0 ?hy101 ?_
            case hy101 => (intro W hW; clear hW; go_simp; try rfl)
            simp only [Act.put, List.setIfInBounds_toArray, List.set_cons_zero, List.set_cons_succ]
            refine takeInH 1 22 ?v102 rfl rfl (by kernel_rfl) (by kernel_rfl) (by kernel_rfl) (fun _ _ _ h => h) (by kernel_rfl) hS0 ?hy102 ?_
            case hy102 => (intro W hW; clear hW; go_simp; try rfl)
            simp only [Act.put, List.setIfInBounds_toArray, List.set_cons_zero, List.set_cons_succ]
            refine takeInH 2 23 ?v103 rfl rfl (by kernel_rfl) (by kernel_rfl) (by kernel_rfl) (fun _ _ _ h => h) (by kernel_rfl) hS0 ?hy103 ?_
            case hy103 => (intro W hW; clear hW; go_simp; try rfl)
            simp only [Act.put, List.setIfInBounds_toArray, List.set_cons_zero, List.set_cons_succ]
            refine takeInH 3 24 ?v104 rfl rfl (by kernel_rfl) (by kernel_rfl) (by kernel_rfl) (fun _ _ _ h => h) (by kernel_rfl) hS0 ?hy104 ?_
            case hy104 => (intro W hW; clear hW; go_simp; try rfl)
            simp only [Act.put, List.setIfInBounds_toArray, List.set_cons_zero, List.set_cons_succ]
            refine takeInH 4 25 ?v105 rfl rfl (by kernel_rfl) (by kernel_rfl) (by kernel_rfl) (fun _ _ _ h => h) (by kernel_rfl) hS0 ?hy105 ?_
            case hy105 => (intro W hW; clear hW; go_simp; try rfl)
            simp only [Act.put, List.setIfInBounds_toArray, List.set_cons_zero, List.set_cons_succ]
            refine takeInH 5 26 ?v106 rfl rfl (by kernel_rfl) (by kernel_rfl) (by kernel_rfl) (fun _ _ _ h => h) (by kernel_rfl) hS0 ?hy106 ?_
            case hy106 => (intro W hW; clear hW; go_simp; try rfl)
            simp only [Act.put, List.setIfInBounds_toArray, List.set_cons_zero, List.set_cons_succ]
            refine takeInH 6 27 ?v107 rfl rfl (by kernel_rfl) (by kernel_rfl) (by kernel_rfl) (fun _ _ _ h => h) (by kernel_rfl) hS0 ?hy107 ?_
            case hy107 => (intro W hW; clear hW; go_simp; try rfl)
            simp only [Act.put, List.setIfInBounds_toArray, List.set_cons_zero, List.set_cons_succ]
            refine takeInH 7 28 ?v108 rfl rfl (by kernel_rfl) (by kernel_rfl) (by kernel_rfl) (fun _ _ _ h => h) (by kernel_rfl) hS0 ?hy108 ?_
            case hy108 => (intro W hW; clear hW; go_simp; try rfl)
            simp only [Act.put, List.setIfInBounds_toArray, List.set_cons_zero, List.set_cons_succ]
            refine takeInH 8 29 ?v109 rfl rfl (by kernel_rfl) (by kernel_rfl) (by kernel_rfl) (fun _ _ _ h => h) (by kernel_rfl) hS0 ?hy109 ?_
            case hy109 => (intro W hW; have e0 := bcell hW c0; have e1 := bcell hW c1; have e2 := bcell hW c2; have e3 := bcell hW c3; clear hW; go_simp; try rfl)
            simp only [Act.put, List.setIfInBounds_toArray, List.set_cons_zero, List.set_cons_succ]
            refine takeInH 9 30 ?v110 rfl rfl (by kernel_rfl) (by kernel_rfl) (by kernel_rfl) (fun _ _ _ h => h) (by kernel_rfl) hS0 ?hy110 ?_
            case hy110 => (intro W hW; have e0 := bcell hW c0; have e1 := bcell hW c1; have e2 := bcell hW c2; have e3 := bcell hW c3; clear hW; go_simp; try rfl)
            simp only [Act.put, List.setIfInBounds_toArray, List.set_cons_zero, List.set_cons_succ]
            refine takeInH 10 31 ?v111 rfl rfl (by kernel_rfl) (by kernel_rfl) (by kernel_rfl) (fun _ _ _ h => h) (by kernel_rfl) hS0 ?hy111 ?_
            case hy111 => (intro W hW; clear hW; go_simp; try rfl)
            simp only [Act.put, List.setIfInBounds_toArray, List.set_cons_zero, List.set_cons_succ]
            refine takeInH 11 32 ?v112 rfl rfl (by kernel_rfl) (by kernel_rfl) (by kernel_rfl) (fun _ _ _ h => h) (by kernel_rfl) hS0 ?hy112 ?_
            case hy112 => (intro W hW; clear hW; go_simp; try rfl)
            simp only [Act.put, List.setIfInBounds_toArray, List.set_cons_zero, List.set_cons_succ]
            refine wpAnyH_done (by kernel_rfl) ?_ _
            replace c2 := bcell hS0 c2
            replace c3 := bcell hS0 c3
            replace HB := hide (bel_next HB.out hS0)
            clear hS0 c0 c1 hq
            generalize u2.drew = u4 at *
            have hck : ¬ (cap = k) := by omega
            have hck2 : (k : Int) ≤ (n : Int) := by omega
            have hck3 : (k : Int) ≤ (cap : Int) := by omega
            have hck4 : ¬ ((cap : Int) = (k : Int)) := by omega
            go_wp2_with (at_builtin; refine Stop.at ?_)
            unfold Stop
            refine append_dots rfl _ _ rfl u4.heap.size _ [] (l.drop k) rfl (OwnD.made u4 u4.heap.size _ rfl (Nat.le_refl _)) (some ⟨g, k * 2, none⟩) (n - k) (cap - k) rfl (fun h => by cases h) (((HD.out.below HB.out).tail k hlt).alloc _) (by have := HLk.out; rw [List.length_drop]; simp; omega) (by simp) ?_
            intro vr u3 hor hbr
            have hB3 := hbr _ (bel1 u4 _)
            rw [List.nil_append] at hor
            obtain ⟨pr, cr, hvr, hdr, hcr⟩ := hor.open
            obtain ⟨nr, hnr⟩ : ∃ nr, nr = (l.drop k).length := ⟨_, rfl⟩
            rw [← hnr] at hvr hdr
            subst hvr
            have HDr := hide hdr
            have hpr := hcr.2.2
            replace c2 := bcell hB3 c2
            replace c3 := bcell hB3 c3
            replace HB := hide (bel_next HB.out hB3)
            have HDk := hide ((HD.out.below HB.out).head k (by omega))
            clear hor hbr hB3 hdr hcr hnr
            go_wp2
            refine wp_region_held_drew (S := fun W => Below u3.heap.size u3 W) (by kernel_rfl) ((Below.refl _ u3).drew) (fun hS0 => ?_)
            refine takeInH 0 39 ?v11 rfl rfl (by kernel_rfl) (by kernel_rfl) (by kernel_rfl) (fun _ _ _ h => h) (by kernel_rfl) hS0 ?hy11 ?_
            case hy11 => (intro W hW; clear hW; go_simp; try rfl)
            simp only [Act.put, List.setIfInBounds_toArray, List.set_cons_zero, List.set_cons_succ]
            refine takeInH 1 40 ?v12 rfl rfl (by kernel_rfl) (by kernel_rfl) (by kernel_rfl) (fun _ _ _ h => h) (by kernel_rfl) hS0 ?hy12 ?_
            case hy12 => (intro W hW; clear hW; go_simp; try rfl)
            simp only [Act.put, List.setIfInBounds_toArray, List.set_cons_zero, List.set_cons_succ]
            refine takeInH 2 41 ?v13 rfl rfl (by kernel_rfl) (by kernel_rfl) (by kernel_rfl) (fun _ _ _ h => h) (by kernel_rfl) hS0 ?hy13 ?_
            case hy13 => (intro W hW; clear hW; go_simp; try rfl)
            simp only [Act.put, List.setIfInBounds_toArray, List.set_cons_zero, List.set_cons_succ]
            refine takeInH 3 42 ?v14 rfl rfl (by kernel_rfl) (by kernel_rfl) (by kernel_rfl) (fun _ _ _ h => h) (by kernel_rfl) hS0 ?hy14 ?_
            case hy14 => (intro W hW; clear hW; go_simp; try rfl)
            simp only [Act.put, List.setIfInBounds_toArray, List.set_cons_zero, List.set_cons_succ]
            refine takeInH 4 43 ?v15 rfl rfl (by kernel_rfl) (by kernel_rfl) (by kernel_rfl) (fun _ _ _ h => h) (by kernel_rfl) hS0 ?hy15 ?_
            case hy15 => (intro W hW; have e0 := bcell hW c2; have e1 := bcell hW c3; clear hW; go_simp; try rfl)
            simp only [Act.put, List.setIfInBounds_toArray, List.set_cons_zero, List.set_cons_succ]
            refine takeInH 7 46 ?v16 rfl rfl (by kernel_rfl) (by kernel_rfl) (by kernel_rfl) (fun _ _ _ h => h) (by kernel_rfl) hS0 ?hy16 ?_
            case hy16 => (intro W hW; clear hW; go_simp; try rfl)
            simp only [Act.put, List.setIfInBounds_toArray, List.set_cons_zero, List.set_cons_succ]
            refine wpAnyH_ready (rs := [5]) (by kernel_rfl) (by simp) ?_
            refine AllReadyH.cons rfl (fun K hK => ?_) AllReadyH.nil
            go_simp
            have b0 := DS.new u3 u3.heap.size rfl [(p, q)] #[.int .i64 p, .int .i64 q] rfl 24 (0, 0) 1 rfl (by decide)
            have hSn : Below u3.heap.size u3 (u3.alloc (.cells #[.int .i64 p, .int .i64 q] 24)).drew := ((Below.refl _ u3).alloc (Nat.le_refl _) _).drew
            have b1 : DS (u3.alloc (.cells #[.int .i64 p, .int .i64 q] 24)).drew (some ⟨u3.heap.size, 0, none⟩) 1 [(p, q)] := b0
            clear b0
            generalize (u3.alloc (.cells #[.int .i64 p, .int .i64 q] 24)).drew = W1 at *
            refine hK.out _ _ ?hs17 (fun hS1 => ?_)
            case hs17 => exact hSn
            clear hK K
            try simp only [Act.put, List.setIfInBounds_toArray, List.set_cons_zero, List.set_cons_succ]
            refine wpAnyH_ready (rs := [6]) (by kernel_rfl) (by simp) ?_
            refine AllReadyH.cons rfl (fun K hK => ?_) AllReadyH.nil
            rw [if_pos (by kernel_rfl)]
            refine append_full_wp _ _ rfl g k (l.take k) [(p, q)] rfl (HDk.out.below hS1) ⟨u3.heap.size, 0, none⟩ 1 1 rfl b1 (by decide) (by have := HLk.out; rw [List.length_take]; simp; omega) ?_
            intro v1 w1 ho1 hb1
            have HO1 := hide (ho1.mono hS1.size)
            have hSk := bel_next hS1 hb1
            clear ho1 hb1 b1
            change K (Act.put _ (some 45) _) _
            refine hK.out _ _ ?hs18 (fun hS2 => ?_)
            case hs18 => exact hSk
            clear hK K
            try simp only [Act.put, List.setIfInBounds_toArray, List.set_cons_zero, List.set_cons_succ]
            refine wpAnyH_ready (rs := [8]) (by kernel_rfl) (by simp) ?_
            refine AllReadyH.cons rfl (fun K hK => ?_) AllReadyH.nil
            rw [if_pos (by kernel_rfl)]
            refine append_wp _ _ rfl u3.heap.size _ (l.take k ++ [(p, q)]) (l.drop k) rfl HO1.out pr nr cr rfl hpr (HDr.out.below hS2) (by have := HLk.out; rw [List.length_append, List.length_take, List.length_drop]; simp; omega) hS2.size ?_
            intro v2 w2 ho2 hb2
            have HO2 := hide ho2
            have hSm := hb2 _ hS2
            clear ho2 hb2
            change K (Act.put _ (some 47) _) _
            refine hK.out _ _ ?hs19 (fun hS3 => ?_)
            case hs19 => exact hSm
            clear hK K
            try simp only [Act.put, List.setIfInBounds_toArray, List.set_cons_zero, List.set_cons_succ]
            refine takeInH 9 4 ?v20 rfl rfl (by kernel_rfl) (by kernel_rfl) (by kernel_rfl) (fun _ _ _ h => h) (by kernel_rfl) hS3 ?hy20 ?_
            case hy20 => (intro W hW; clear hW; go_simp; try rfl)
            simp only [Act.put, List.setIfInBounds_toArray, List.set_cons_zero, List.set_cons_succ]
            refine wpAnyH_done (by kernel_rfl) ?_ _
            go_wp2
            go_ret
            refine ⟨_, rfl, ?_, bel_next HB.out (by assumption)⟩
            rw [← HE.out]
            exact HO2.out.mono (Nat.le_trans hN HB.out.size)
        · have hkn : k = n := by omega
          subst hkn
          have HE : Hid (l.take k ++ [(p, q)] ++ l.drop k = putD l (p, q)) := by
            have z := HP.out
            unfold Hid
            rw [if_neg (fun y => by have e := y.1; rw [HL.out] at e; omega)] at z
            rw [z]; simp
          have HDl : Hid (l.drop k = []) := List.drop_of_length_le (by rw [HL.out]; omega)
          have hck3 : (k : Int) ≤ (cap : Int) := by omega
          clear HP hno
          go_wp2
          refine wp_region_held_drew (S := fun W => Below wr.heap.size wr W) (by kernel_rfl) ((Below.refl _ wr).drew) (fun hS0 => ?_)
          refine takeInH 0 7 ?v113 rfl rfl (by kernel_rfl) (by kernel_rfl) (by kernel_rfl) (fun _ _ _ h => h) (by kernel_rfl) hS0 ?hy113 ?_
          case hy113 => (intro W hW; clear hW; go_simp; try rfl)
          simp only [Act.put, List.setIfInBounds_toArray, List.set_cons_zero, List.set_cons_succ]
          refine takeInH 1 8 ?v114 rfl rfl (by kernel_rfl) (by kernel_rfl) (by kernel_rfl) (fun _ _ _ h => h) (by kernel_rfl) hS0 ?hy114 ?_
          case hy114 => (intro W hW; clear hW; go_simp; try rfl)
          simp only [Act.put, List.setIfInBounds_toArray, List.set_cons_zero, List.set_cons_succ]
          refine takeInH 2 9 ?v115 rfl rfl (by kernel_rfl) (by kernel_rfl) (by kernel_rfl) (fun _ _ _ h => h) (by kernel_rfl) hS0 ?hy115 ?_
          case hy115 => (intro W hW; clear hW; go_simp; try rfl)
          simp only [Act.put, List.setIfInBounds_toArray, List.set_cons_zero, List.set_cons_succ]
          refine takeInH 3 10 ?v116 rfl rfl (by kernel_rfl) (by kernel_rfl) (by kernel_rfl) (fun _ _ _ h => h) (by kernel_rfl) hS0 ?hy116 ?_
          case hy116 => (intro W hW; clear hW; go_simp; try rfl)
          simp only [Act.put, List.setIfInBounds_toArray, List.set_cons_zero, List.set_cons_succ]
          refine takeInH 4 11 ?v117 rfl rfl (by kernel_rfl) (by kernel_rfl) (by kernel_rfl) (fun _ _ _ h => h) (by kernel_rfl) hS0 ?hy117 ?_
          case hy117 => (intro W hW; clear hW; go_simp; try rfl)
          simp only [Act.put, List.setIfInBounds_toArray, List.set_cons_zero, List.set_cons_succ]
          refine takeNoH 5 12 rfl rfl (by kernel_rfl) (by kernel_rfl) (by kernel_rfl) (fun _ _ _ h => h) (by kernel_rfl) hS0 ?_
          simp only [Act.put, List.setIfInBounds_toArray, List.set_cons_zero, List.set_cons_succ]
          refine takeNoH 6 13 rfl rfl (by kernel_rfl) (by kernel_rfl) (by kernel_rfl) (fun _ _ _ h => h) (by kernel_rfl) hS0 ?_
          simp only [Act.put, List.setIfInBounds_toArray, List.set_cons_zero, List.set_cons_succ]
          refine takeNoH 7 14 rfl rfl (by kernel_rfl) (by kernel_rfl) (by kernel_rfl) (fun _ _ _ h => h) (by kernel_rfl) hS0 ?_
          simp only [Act.put, List.setIfInBounds_toArray, List.set_cons_zero, List.set_cons_succ]
          refine takeNoH 8 15 rfl rfl (by kernel_rfl) (by kernel_rfl) (by kernel_rfl) (fun _ _ _ h => h) (by kernel_rfl) hS0 ?_
          simp only [Act.put, List.setIfInBounds_toArray, List.set_cons_zero, List.set_cons_succ]
          refine takeNoH 9 16 rfl rfl (by kernel_rfl) (by kernel_rfl) (by kernel_rfl) (fun _ _ _ h => h) (by kernel_rfl) hS0 ?_
          simp only [Act.put, List.setIfInBounds_toArray, List.set_cons_zero, List.set_cons_succ]
          refine takeNoH 10 17 rfl rfl (by kernel_rfl) (by kernel_rfl) (by kernel_rfl) (fun _ _ _ h => h) (by kernel_rfl) hS0 ?_
          simp only [Act.put, List.setIfInBounds_toArray, List.set_cons_zero, List.set_cons_succ]
          refine takeInH 11 18 ?v118 rfl rfl (by kernel_rfl) (by kernel_rfl) (by kernel_rfl) (fun _ _ _ h => h) (by kernel_rfl) hS0 ?hy118 ?_
          case hy118 => (intro W hW; clear hW; go_simp; try rfl)
          simp only [Act.put, List.setIfInBounds_toArray, List.set_cons_zero, List.set_cons_succ]
          refine wpAnyH_done (by kernel_rfl) ?_ _
          go_wp2
          replace c2 := bcell hS0 c2
          replace c3 := bcell hS0 c3
          replace HB := hide (bel_next HB.out hS0)
          clear hS0 HBel
          generalize wr.drew = u2 at *
          refine wp_region_held_drew (S := fun W => Below u2.heap.size u2 W) (by kernel_rfl) ((Below.refl _ u2).drew) (fun hS0 => ?_)
          refine takeInH 0 21 ?v119 rfl rfl (by kernel_rfl) (by kernel_rfl) (by kernel_rfl) (fun _ _ _ h => h) (by kernel_rfl) hS0 ?hy119 ?_
          case hy119 => (intro W hW; clear hW; go_simp; try rfl)
          simp only [Act.put, List.setIfInBounds_toArray, List.set_cons_zero, List.set_cons_succ]
          refine takeInH 1 22 ?v120 rfl rfl (by kernel_rfl) (by kernel_rfl) (by kernel_rfl) (fun _ _ _ h => h) (by kernel_rfl) hS0 ?hy120 ?_
          case hy120 => (intro W hW; clear hW; go_simp; try rfl)
          simp only [Act.put, List.setIfInBounds_toArray, List.set_cons_zero, List.set_cons_succ]
          refine takeInH 2 23 ?v121 rfl rfl (by kernel_rfl) (by kernel_rfl) (by kernel_rfl) (fun _ _ _ h => h) (by kernel_rfl) hS0 ?hy121 ?_
          case hy121 => (intro W hW; clear hW; go_simp; try rfl)
          simp only [Act.put, List.setIfInBounds_toArray, List.set_cons_zero, List.set_cons_succ]
          refine takeInH 3 24 ?v122 rfl rfl (by kernel_rfl) (by kernel_rfl) (by kernel_rfl) (fun _ _ _ h => h) (by kernel_rfl) hS0 ?hy122 ?_
          case hy122 => (intro W hW; clear hW; go_simp; try rfl)
          simp only [Act.put, List.setIfInBounds_toArray, List.set_cons_zero, List.set_cons_succ]
          refine takeInH 4 25 ?v123 rfl rfl (by kernel_rfl) (by kernel_rfl) (by kernel_rfl) (fun _ _ _ h => h) (by kernel_rfl) hS0 ?hy123 ?_
          case hy123 => (intro W hW; clear hW; go_simp; try rfl)
          simp only [Act.put, List.setIfInBounds_toArray, List.set_cons_zero, List.set_cons_succ]
          refine takeNoH 5 26 rfl rfl (by kernel_rfl) (by kernel_rfl) (by kernel_rfl) (fun _ _ _ h => h) (by kernel_rfl) hS0 ?_
          simp only [Act.put, List.setIfInBounds_toArray, List.set_cons_zero, List.set_cons_succ]
          refine takeNoH 6 27 rfl rfl (by kernel_rfl) (by kernel_rfl) (by kernel_rfl) (fun _ _ _ h => h) (by kernel_rfl) hS0 ?_
          simp only [Act.put, List.setIfInBounds_toArray, List.set_cons_zero, List.set_cons_succ]
          refine takeNoH 7 28 rfl rfl (by kernel_rfl) (by kernel_rfl) (by kernel_rfl) (fun _ _ _ h => h) (by kernel_rfl) hS0 ?_
          simp only [Act.put, List.setIfInBounds_toArray, List.set_cons_zero, List.set_cons_succ]
          refine takeNoH 8 29 rfl rfl (by kernel_rfl) (by kernel_rfl) (by kernel_rfl) (fun _ _ _ h => h) (by kernel_rfl) hS0 ?_
          simp only [Act.put, List.setIfInBounds_toArray, List.set_cons_zero, List.set_cons_succ]
          refine takeNoH 9 30 rfl rfl (by kernel_rfl) (by kernel_rfl) (by kernel_rfl) (fun _ _ _ h => h) (by kernel_rfl) hS0 ?_
          simp only [Act.put, List.setIfInBounds_toArray, List.set_cons_zero, List.set_cons_succ]
          refine takeNoH 10 31 rfl rfl (by kernel_rfl) (by kernel_rfl) (by kernel_rfl) (fun _ _ _ h => h) (by kernel_rfl) hS0 ?_
          simp only [Act.put, List.setIfInBounds_toArray, List.set_cons_zero, List.set_cons_succ]
          refine takeInH 11 32 ?v124 rfl rfl (by kernel_rfl) (by kernel_rfl) (by kernel_rfl) (fun _ _ _ h => h) (by kernel_rfl) hS0 ?hy124 ?_
          case hy124 => (intro W hW; clear hW; go_simp; try rfl)
          simp only [Act.put, List.setIfInBounds_toArray, List.set_cons_zero, List.set_cons_succ]
          refine wpAnyH_done (by kernel_rfl) ?_ _
          replace c2 := bcell hS0 c2
          replace c3 := bcell hS0 c3
          replace HB := hide (bel_next HB.out hS0)
          clear hS0
          generalize u2.drew = u4 at *
          by_cases hcn : cap = k
          · have hcn' : k = cap := hcn.symm
            subst hcn'
            clear hcn
            go_wp2_with (at_builtin; refine Stop.at ?_)
            unfold Stop
            refine append_dots rfl _ _ rfl u4.heap.size _ [] (l.drop k) rfl (OwnD.made u4 u4.heap.size _ rfl (Nat.le_refl _)) (some ⟨g, 0, none⟩) _ _ rfl (fun h => by cases h) (by rw [HDl.out]; exact DS.some0 _) (by have := HLk.out; rw [List.length_drop]; simp; omega) (by simp) ?_
            intro vr u3 hor hbr
            have hB3 := hbr _ (bel1 u4 _)
            rw [List.nil_append] at hor
            obtain ⟨pr, cr, hvr, hdr, hcr⟩ := hor.open
            obtain ⟨nr, hnr⟩ : ∃ nr, nr = (l.drop k).length := ⟨_, rfl⟩
            rw [← hnr] at hvr hdr
            subst hvr
            have HDr := hide hdr
            have hpr := hcr.2.2
            replace c2 := bcell hB3 c2
            replace c3 := bcell hB3 c3
            replace HB := hide (bel_next HB.out hB3)
            have HDk := hide ((HD.out.below HB.out).head k (by omega))
            clear hor hbr hB3 hdr hcr hnr
            go_wp2
            refine wp_region_held_drew (S := fun W => Below u3.heap.size u3 W) (by kernel_rfl) ((Below.refl _ u3).drew) (fun hS0 => ?_)
            refine takeInH 0 39 ?v21 rfl rfl (by kernel_rfl) (by kernel_rfl) (by kernel_rfl) (fun _ _ _ h => h) (by kernel_rfl) hS0 ?hy21 ?_
            case hy21 => (intro W hW; clear hW; go_simp; try rfl)
            simp only [Act.put, List.setIfInBounds_toArray, List.set_cons_zero, List.set_cons_succ]
            refine takeInH 1 40 ?v22 rfl rfl (by kernel_rfl) (by kernel_rfl) (by kernel_rfl) (fun _ _ _ h => h) (by kernel_rfl) hS0 ?hy22 ?_
            case hy22 => (intro W hW; clear hW; go_simp; try rfl)
            simp only [Act.put, List.setIfInBounds_toArray, List.set_cons_zero, List.set_cons_succ]
            refine takeInH 2 41 ?v23 rfl rfl (by kernel_rfl) (by kernel_rfl) (by kernel_rfl) (fun _ _ _ h => h) (by kernel_rfl) hS0 ?hy23 ?_
            case hy23 => (intro W hW; clear hW; go_simp; try rfl)
            simp only [Act.put, List.setIfInBounds_toArray, List.set_cons_zero, List.set_cons_succ]
            refine takeInH 3 42 ?v24 rfl rfl (by kernel_rfl) (by kernel_rfl) (by kernel_rfl) (fun _ _ _ h => h) (by kernel_rfl) hS0 ?hy24 ?_
            case hy24 => (intro W hW; clear hW; go_simp; try rfl)
            simp only [Act.put, List.setIfInBounds_toArray, List.set_cons_zero, List.set_cons_succ]
            refine takeInH 4 43 ?v25 rfl rfl (by kernel_rfl) (by kernel_rfl) (by kernel_rfl) (fun _ _ _ h => h) (by kernel_rfl) hS0 ?hy25 ?_
            case hy25 => (intro W hW; have e0 := bcell hW c2; have e1 := bcell hW c3; clear hW; go_simp; try rfl)
            simp only [Act.put, List.setIfInBounds_toArray, List.set_cons_zero, List.set_cons_succ]
            refine takeInH 7 46 ?v26 rfl rfl (by kernel_rfl) (by kernel_rfl) (by kernel_rfl) (fun _ _ _ h => h) (by kernel_rfl) hS0 ?hy26 ?_
            case hy26 => (intro W hW; clear hW; go_simp; try rfl)
            simp only [Act.put, List.setIfInBounds_toArray, List.set_cons_zero, List.set_cons_succ]
            refine wpAnyH_ready (rs := [5]) (by kernel_rfl) (by simp) ?_
            refine AllReadyH.cons rfl (fun K hK => ?_) AllReadyH.nil
            go_simp
            have b0 := DS.new u3 u3.heap.size rfl [(p, q)] #[.int .i64 p, .int .i64 q] rfl 24 (0, 0) 1 rfl (by decide)
            have hSn : Below u3.heap.size u3 (u3.alloc (.cells #[.int .i64 p, .int .i64 q] 24)).drew := ((Below.refl _ u3).alloc (Nat.le_refl _) _).drew
            have b1 : DS (u3.alloc (.cells #[.int .i64 p, .int .i64 q] 24)).drew (some ⟨u3.heap.size, 0, none⟩) 1 [(p, q)] := b0
            clear b0
            generalize (u3.alloc (.cells #[.int .i64 p, .int .i64 q] 24)).drew = W1 at *
            refine hK.out _ _ ?hs27 (fun hS1 => ?_)
            case hs27 => exact hSn
            clear hK K
            try simp only [Act.put, List.setIfInBounds_toArray, List.set_cons_zero, List.set_cons_succ]
            refine wpAnyH_ready (rs := [6]) (by kernel_rfl) (by simp) ?_
            refine AllReadyH.cons rfl (fun K hK => ?_) AllReadyH.nil
            rw [if_pos (by kernel_rfl)]
            refine append_full_wp _ _ rfl g k (l.take k) [(p, q)] rfl (HDk.out.below hS1) ⟨u3.heap.size, 0, none⟩ 1 1 rfl b1 (by decide) (by have := HLk.out; rw [List.length_take]; simp; omega) ?_
            intro v1 w1 ho1 hb1
            have HO1 := hide (ho1.mono hS1.size)
            have hSk := bel_next hS1 hb1
            clear ho1 hb1 b1
            change K (Act.put _ (some 45) _) _
            refine hK.out _ _ ?hs28 (fun hS2 => ?_)
            case hs28 => exact hSk
            clear hK K
            try simp only [Act.put, List.setIfInBounds_toArray, List.set_cons_zero, List.set_cons_succ]
            refine wpAnyH_ready (rs := [8]) (by kernel_rfl) (by simp) ?_
            refine AllReadyH.cons rfl (fun K hK => ?_) AllReadyH.nil
            rw [if_pos (by kernel_rfl)]
            refine append_wp _ _ rfl u3.heap.size _ (l.take k ++ [(p, q)]) (l.drop k) rfl HO1.out pr nr cr rfl hpr (HDr.out.below hS2) (by have := HLk.out; rw [List.length_append, List.length_take, List.length_drop]; simp; omega) hS2.size ?_
            intro v2 w2 ho2 hb2
            have HO2 := hide ho2
            have hSm := hb2 _ hS2
            clear ho2 hb2
            change K (Act.put _ (some 47) _) _
            refine hK.out _ _ ?hs29 (fun hS3 => ?_)
            case hs29 => exact hSm
            clear hK K
            try simp only [Act.put, List.setIfInBounds_toArray, List.set_cons_zero, List.set_cons_succ]
            refine takeInH 9 4 ?v30 rfl rfl (by kernel_rfl) (by kernel_rfl) (by kernel_rfl) (fun _ _ _ h => h) (by kernel_rfl) hS3 ?hy30 ?_
            case hy30 => (intro W hW; clear hW; go_simp; try rfl)
            simp only [Act.put, List.setIfInBounds_toArray, List.set_cons_zero, List.set_cons_succ]
            refine wpAnyH_done (by kernel_rfl) ?_ _
            go_wp2
            go_ret
            refine ⟨_, rfl, ?_, bel_next HB.out (by assumption)⟩
            rw [← HE.out]
            exact HO2.out.mono (Nat.le_trans hN HB.out.size)
          · have hcn2 : ¬ ((cap : Int) = (k : Int)) := by omega
            go_wp2_with (at_builtin; refine Stop.at ?_)
            unfold Stop
            refine append_dots rfl _ _ rfl u4.heap.size _ [] (l.drop k) rfl (OwnD.made u4 u4.heap.size _ rfl (Nat.le_refl _)) (some ⟨g, k * 2, none⟩) _ _ rfl (fun h => by cases h) (by rw [HDl.out]; exact DS.some0 _) (by have := HLk.out; rw [List.length_drop]; simp; omega) (by simp) ?_
            intro vr u3 hor hbr
            have hB3 := hbr _ (bel1 u4 _)
            rw [List.nil_append] at hor
            obtain ⟨pr, cr, hvr, hdr, hcr⟩ := hor.open
            obtain ⟨nr, hnr⟩ : ∃ nr, nr = (l.drop k).length := ⟨_, rfl⟩
            rw [← hnr] at hvr hdr
            subst hvr
            have HDr := hide hdr
            have hpr := hcr.2.2
            replace c2 := bcell hB3 c2
            replace c3 := bcell hB3 c3
            replace HB := hide (bel_next HB.out hB3)
            have HDk := hide ((HD.out.below HB.out).head k (by omega))
            clear hor hbr hB3 hdr hcr hnr
            go_wp2
            refine wp_region_held_drew (S := fun W => Below u3.heap.size u3 W) (by kernel_rfl) ((Below.refl _ u3).drew) (fun hS0 => ?_)
            refine takeInH 0 39 ?v31 rfl rfl (by kernel_rfl) (by kernel_rfl) (by kernel_rfl) (fun _ _ _ h => h) (by kernel_rfl) hS0 ?hy31 ?_
            case hy31 => (intro W hW; clear hW; go_simp; try rfl)
            simp only [Act.put, List.setIfInBounds_toArray, List.set_cons_zero, List.set_cons_succ]
            refine takeInH 1 40 ?v32 rfl rfl (by kernel_rfl) (by kernel_rfl) (by kernel_rfl) (fun _ _ _ h => h) (by kernel_rfl) hS0 ?hy32 ?_
            case hy32 => (intro W hW; clear hW; go_simp; try rfl)
            simp only [Act.put, List.setIfInBounds_toArray, List.set_cons_zero, List.set_cons_succ]
            refine takeInH 2 41 ?v33 rfl rfl (by kernel_rfl) (by kernel_rfl) (by kernel_rfl) (fun _ _ _ h => h) (by kernel_rfl) hS0 ?hy33 ?_
            case hy33 => (intro W hW; clear hW; go_simp; try rfl)
            simp only [Act.put, List.setIfInBounds_toArray, List.set_cons_zero, List.set_cons_succ]
            refine takeInH 3 42 ?v34 rfl rfl (by kernel_rfl) (by kernel_rfl) (by kernel_rfl) (fun _ _ _ h => h) (by kernel_rfl) hS0 ?hy34 ?_
            case hy34 => (intro W hW; clear hW; go_simp; try rfl)
            simp only [Act.put, List.setIfInBounds_toArray, List.set_cons_zero, List.set_cons_succ]
            refine takeInH 4 43 ?v35 rfl rfl (by kernel_rfl) (by kernel_rfl) (by kernel_rfl) (fun _ _ _ h => h) (by kernel_rfl) hS0 ?hy35 ?_
            case hy35 => (intro W hW; have e0 := bcell hW c2; have e1 := bcell hW c3; clear hW; go_simp; try rfl)
            simp only [Act.put, List.setIfInBounds_toArray, List.set_cons_zero, List.set_cons_succ]
            refine takeInH 7 46 ?v36 rfl rfl (by kernel_rfl) (by kernel_rfl) (by kernel_rfl) (fun _ _ _ h => h) (by kernel_rfl) hS0 ?hy36 ?_
            case hy36 => (intro W hW; clear hW; go_simp; try rfl)
            simp only [Act.put, List.setIfInBounds_toArray, List.set_cons_zero, List.set_cons_succ]
            refine wpAnyH_ready (rs := [5]) (by kernel_rfl) (by simp) ?_
            refine AllReadyH.cons rfl (fun K hK => ?_) AllReadyH.nil
            go_simp
            have b0 := DS.new u3 u3.heap.size rfl [(p, q)] #[.int .i64 p, .int .i64 q] rfl 24 (0, 0) 1 rfl (by decide)
            have hSn : Below u3.heap.size u3 (u3.alloc (.cells #[.int .i64 p, .int .i64 q] 24)).drew := ((Below.refl _ u3).alloc (Nat.le_refl _) _).drew
            have b1 : DS (u3.alloc (.cells #[.int .i64 p, .int .i64 q] 24)).drew (some ⟨u3.heap.size, 0, none⟩) 1 [(p, q)] := b0
            clear b0
            generalize (u3.alloc (.cells #[.int .i64 p, .int .i64 q] 24)).drew = W1 at *
            refine hK.out _ _ ?hs37 (fun hS1 => ?_)
            case hs37 => exact hSn
            clear hK K
            try simp only [Act.put, List.setIfInBounds_toArray, List.set_cons_zero, List.set_cons_succ]
            refine wpAnyH_ready (rs := [6]) (by kernel_rfl) (by simp) ?_
            refine AllReadyH.cons rfl (fun K hK => ?_) AllReadyH.nil
            rw [if_pos (by kernel_rfl)]
            refine append_full_wp _ _ rfl g k (l.take k) [(p, q)] rfl (HDk.out.below hS1) ⟨u3.heap.size, 0, none⟩ 1 1 rfl b1 (by decide) (by have := HLk.out; rw [List.length_take]; simp; omega) ?_
            intro v1 w1 ho1 hb1
            have HO1 := hide (ho1.mono hS1.size)
            have hSk := bel_next hS1 hb1
            clear ho1 hb1 b1
            change K (Act.put _ (some 45) _) _
            refine hK.out _ _ ?hs38 (fun hS2 => ?_)
            case hs38 => exact hSk
            clear hK K
            try simp only [Act.put, List.setIfInBounds_toArray, List.set_cons_zero, List.set_cons_succ]
            refine wpAnyH_ready (rs := [8]) (by kernel_rfl) (by simp) ?_
            refine AllReadyH.cons rfl (fun K hK => ?_) AllReadyH.nil
            rw [if_pos (by kernel_rfl)]
            refine append_wp _ _ rfl u3.heap.size _ (l.take k ++ [(p, q)]) (l.drop k) rfl HO1.out pr nr cr rfl hpr (HDr.out.below hS2) (by have := HLk.out; rw [List.length_append, List.length_take, List.length_drop]; simp; omega) hS2.size ?_
            intro v2 w2 ho2 hb2
            have HO2 := hide ho2
            have hSm := hb2 _ hS2
            clear ho2 hb2
            change K (Act.put _ (some 47) _) _
            refine hK.out _ _ ?hs39 (fun hS3 => ?_)
            case hs39 => exact hSm
            clear hK K
            try simp only [Act.put, List.setIfInBounds_toArray, List.set_cons_zero, List.set_cons_succ]
            refine takeInH 9 4 ?v40 rfl rfl (by kernel_rfl) (by kernel_rfl) (by kernel_rfl) (fun _ _ _ h => h) (by kernel_rfl) hS3 ?hy40 ?_
            case hy40 => (intro W hW; clear hW; go_simp; try rfl)
            simp only [Act.put, List.setIfInBounds_toArray, List.set_cons_zero, List.set_cons_succ]
            refine wpAnyH_done (by kernel_rfl) ?_ _
            go_wp2
            go_ret
            refine ⟨_, rfl, ?_, bel_next HB.out (by assumption)⟩
            rw [← HE.out]
            exact HO2.out.mono (Nat.le_trans hN HB.out.size)
end Go.Proofs.Ytiodlpoeifmldaa

namespace Go.Proofs.Ytiodlpoeifmldaa
open Go.RowKit
set_option linter.unusedVariables false
theorem put_next {l : List Dot} {k : Nat} (h : k < l.length) : (l.take (k + 1)).foldl putD [] = putD ((l.take k).foldl putD []) (l.getD k (0, 0)) := by
  rw [List.take_add_one, List.foldl_append]
  simp [List.getD_eq_getElem?_getD, h]
set_option maxHeartbeats 1000000 in
/-- The document's 'Order'. -/
theorem OrderR_any (a : Option Addr) (n cap : Nat) (l : List Dot) (w : World) (hD : DS w a n l) (hn : n ≤ 100000) :
    Calls Try.prog 64 #[.slice a n cap] w fun e w' => ∃ v, e = .returned v ∧ OwnD w.heap.size w' v (ordD l) ∧ Below w.heap.size w w' := by
  obtain ⟨hlen, hmax, hcells⟩ := hD
  unfold maxLen at hmax
  have HL := hide hlen
  have HC := hide hcells
  clear hlen hcells
  go_enter Try.func64, Try.ntmps64
  go_wp2
  go_loopw [3, 4] (fun v i wr => ∃ k : Nat, k ≤ n ∧ i = .int .i64 k ∧ Hid (OwnD w.heap.size wr v ((l.take k).foldl putD [])) ∧ Hid (Below w.heap.size w wr)) (fun _ i _ => n - (intOf i).toNat)
  case atStart => exact ⟨0, by omega, rfl, OwnD.made w w.heap.size _ rfl (Nat.le_refl _), bel1 _ _⟩
  case round =>
    obtain ⟨k, hk, rfl, HO, HB⟩ := hrel
    by_cases hlt : k < n
    · rcases HC.out with h0 | ⟨b, off, rfl, hc⟩
      · omega
      · have x0 := bcell HB.out (hc k hlt).1
        have x1 := bcell HB.out (hc k hlt).2
        have HN := hide (put_next (show k < l.length by rw [HL.out]; exact hlt))
        have hll : ((l.take k).foldl putD []).length ≤ 100000 := by
          have z := foldl_putD_len (l.take k) []
          rw [List.length_take] at z
          simp at z
          omega
        clear hc
        have HP := hide (PutR_any w.heap.size _ _ (l.getD k (0, 0)) wr HO.out HB.out.size hll)
        rw [← HN.out] at HP
        generalize l.getD k (0, 0) = x at x0 x1 HP
        obtain ⟨r, s⟩ := x
        clear HN hll
        go_wp2_with (go_at_call 41; refine HP.out.mono ?_; rintro e w' ⟨v', rfl, hO2, hb⟩)
        go_roundw
        case rel => exact ⟨k + 1, by omega, by go_num, hO2, bel_next HB.out hb⟩
        case measure => simp [intOf]; omega
    · have hkl : k = n := by omega
      subst hkl
      rw [List.take_of_length_le (by rw [HL.out]; exact Nat.le_refl _)] at HO
      go_wp2
      go_ret
      exact ⟨_, rfl, HO.out, HB.out⟩
end Go.Proofs.Ytiodlpoeifmldaa

namespace Go.Proofs.Ytiodlpoeifmldaa
set_option linter.unusedVariables false
/-- The byte at 'i' of the number that 'within' tries. -/
def fl (q : List Int) (i : Nat) : Int := if i < q.length then q.getD i 0 else if i = 0 then 1 else 0
def fill (c : Nat) (q : List Int) : List Int := (List.range c).map (fl q)
def within : List Int → Bool
  | [] => true
  | c :: q => if 8 < c ∨ c.toNat < q.length + 1 then false else decide (val (fill c.toNat q) ≤ 65536 ∧ q.length + 1 ≤ (num (val (fill c.toNat q))).length ∧ (num (val (fill c.toNat q))).take (q.length + 1) = c :: q)
end Go.Proofs.Ytiodlpoeifmldaa

