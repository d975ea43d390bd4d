/- The program's disk: bytes copied, a new one, what is read. -/
import Derived.Test.YtofalfaiamaapaaP1
namespace Go.Proofs.Ytofalfaiamaapaa
open Go.RowKit
set_option linter.unusedVariables false
theorem make_len (c : Nat) (hc : c ≤ 1048576) : ∃ C : Array Value, C.size = c ∧ ∀ w : World, (Instr.makeSlice 22 (.int .i64 (c : Int)) (.int .i64 (c : Int))).run Try.prog w = .ok (.slice (some ⟨w.heap.size, 0, none⟩) c c) (w.alloc (.cells C 5)) := by
  obtain ⟨i0, hi, hz0, hz1, hz2⟩ := info_parts Try.infoU8
  refine ⟨madeCells (Value.int .u8 0).cells (c * i0.size), ?_, fun w => ?_⟩
  · rw [size_madeCells, hz1]; simp
  · have h := run_make (P := Try.prog) w 22 5 i0 (.int .u8 0) Try.underlying22 hi hz0 .i64 .i64 (c : Int) (c : Int) (by omega) (by omega) (by rw [hz2]; omega) (by omega)
    simpa using h
theorem BS.cells {w : World} {p : Option Addr} {n : Nat} {l : List Int} (h : BS w p n l) (hn : 0 < n) : ∃ ad, p = some ad ∧ ∀ j v, (l.map (Value.int .u8))[j]? = some v → w.cell? (ad.add j) = some v := by
  obtain ⟨h1, h2, h3, h4⟩ := h
  rcases h4 with h4 | ⟨b, off, rfl, h4⟩
  · omega
  · refine ⟨_, rfl, fun j v hj => ?_⟩
    obtain ⟨hj1, hj2⟩ := List.getElem?_eq_some_iff.1 hj
    rw [List.length_map] at hj1
    rw [addr_add, h4 j (by omega), ← hj2]
    simp [List.getD_eq_getElem?_getD, List.getElem?_eq_getElem hj1]
theorem copy_all (w : World) (p : Option Addr) (n c : Nat) (l : List Int) (C : Array Value) (hB : BS w p n l) (hC : C.size = n) : ∃ w', (Builtin.copy_ #[22, 22] 3 #[.slice (some ⟨w.heap.size, 0, none⟩) n n, .slice p n c]).run Try.prog (w.alloc (.cells C 5)) = .ok (.int .i64 n) w' ∧ Own w.heap.size w' (.slice (some ⟨w.heap.size, 0, none⟩) n n) l ∧ Below w.heap.size w w' := by
  have hsz : (Try.prog.info? 5).map (·.size) = some 1 := by kernel_rfl
  have hnl := hB.1
  rcases Nat.eq_zero_or_pos n with h0 | hp
  · subst h0
    have h := run_copy_none (P := Try.prog) (w.alloc (.cells C 5)) 22 22 3 5 (some ⟨w.heap.size, 0, none⟩) p 0 0 0 c Try.underlying22 hsz (by simp)
    refine ⟨_, h, ?_, bel1 w _⟩
    have hl0 : l = [] := List.eq_nil_of_length_eq_zero hnl
    subst hl0
    exact Own.madeN w w.heap.size _ rfl (Nat.le_refl _) C 0 hC (by decide)
  · obtain ⟨ad, rfl, hsrc⟩ := (hB.alloc (.cells C 5)).cells hp
    have hb := BX.new w w.heap.size rfl C 5
    have h := run_copy_row (P := Try.prog) (w.alloc (.cells C 5)) 22 22 3 5 w.heap.size 0 n n ad n c C 5 (l.map (Value.int .u8)) Try.underlying22 hsz hb (by simp [hnl]) hsrc (by simp [hnl, hC]) (by simp [Value.oneCell'])
    have hl : C.toList.take 0 ++ l.map (Value.int .u8) ++ C.toList.drop (0 + (l.map (Value.int .u8)).length) = l.map (Value.int .u8) := by
      rw [List.drop_of_length_le (by simp [hC, hnl])]; simp
    rw [hl] at h
    refine ⟨(w.alloc (.cells C 5)).setRow w.heap.size (l.map (Value.int .u8)).toArray, by rw [h]; simp [goInt, hnl], ⟨by simp, .inr ⟨w.heap.size, n, (l.map (Value.int .u8)).toArray, by rw [hnl], Nat.le_refl _, ?_, by omega, hB.2.1, by simp [hnl], by simp only [Nat.mul_one]; exact List.take_of_length_le (by simp)⟩⟩, below_setRow (bel1 w _) (Nat.le_refl _) _⟩
    exact setRow_heap _ _ C _ _ _ hb
set_option maxHeartbeats 1000000 in
theorem copied_any (p : Option Addr) (n c : Nat) (l : List Int) (w : World) (hB : BS w p n l) (hn : n ≤ 1048576) : Calls Try.prog 48 #[.slice p n c] w fun e w' => ∃ v, e = .returned v ∧ Own w.heap.size w' v l ∧ Below w.heap.size w w' := by
  obtain ⟨C, hC, mk⟩ := make_len n hn
  obtain ⟨w2, kc, ho, hb⟩ := copy_all w p n c l C hB hC
  have HO := hide ho
  have HB := hide hb
  clear hB ho hb
  go_enter Try.func48, Try.ntmps48
  go_wp2
  go_ret
  exact ⟨_, rfl, HO.out, HB.out⟩
set_option maxHeartbeats 1000000 in
theorem New_any (room : Int) (w : World) (h0 : 0 ≤ room) (h1 : room ≤ 1048576) : Calls Try.prog 8 #[.int .i64 room] w fun e w' => e = .returned (.tuple #[.pointer (some ⟨w.heap.size, 0, none⟩), .int .i64 0]) ∧ PD w.heap.size w.heap.size w' (.slice none 0 0) (.slice none 0 0) (newD room) ∧ Below w.heap.size w w' := by
  have HP : Hid (PD w.heap.size w.heap.size (w.alloc (.cells (DC (newD room) (.slice none 0 0) (.slice none 0 0)) 69)) (.slice none 0 0) (.slice none 0 0) (newD room)) := ⟨BX.new w _ rfl _ _, Own.none _ _, Own.none _ _, (fun b h => by cases h), Nat.le_refl _, newD_ok h0 h1⟩
  go_enter Try.func8, Try.ntmps8
  go_wp2
  refine bodyPost_ret (results_tmp2 rfl _ _ _) rfl ?_
  exact ⟨rfl, HP.out, bel1 _ _⟩
/-- What a disk reads. -/
theorem Read_any {N g : Nat} {va vb : Value} {d : Dk} (i : Int) (w : World) (h : PD N g w va vb d) (hs : d.stop ≠ 0) (hi : i = 0 ∨ i = 1) : Calls Try.prog 34 #[.pointer (some ⟨g, 0, none⟩), .int .i64 i] w fun e w' => ∃ v, e = .returned (.tuple #[v, .int .i64 0]) ∧ Own w.heap.size w' v (d.get i).l ∧ Below w.heap.size w w' := by
  obtain ⟨pa, ca, pb, cb, rfl, rfl, b1, e1, b2, e2⟩ := h.vals
  have hl := h.ok.lens
  have R := hide (refuses_any g _ d.stop i w h.1 rfl rfl)
  have hr : refD d.stop i = 0 := by unfold refD; rw [if_neg hs, if_neg (by omega)]
  rw [hr] at R
  have c2 := h.1.cell 2 _ rfl
  have c4 := h.1.cell 4 _ rfl
  have B1 := hide b1
  have B2 := hide b2
  rcases hi with rfl | rfl
  · have HG : Hid (d.get 0 = d.a) := rfl
    rw [HG.out]
    clear h hr hs b1 b2 HG
    go_enter Try.func34, Try.ntmps34
    go_wp2_with fail
    refine R.out.mono ?_
    rintro e w' ⟨rfl, rfl⟩
    go_wp2_with fail
    refine (copied_any pa _ ca d.a.l _ B1.out (by omega)).mono ?_
    rintro e w1 ⟨v, rfl, ho, hb⟩
    go_wp2
    refine bodyPost_ret (results_tmp2 rfl _ _ _) rfl ?_
    exact ⟨_, rfl, ho, hb⟩
  · have HG : Hid (d.get 1 = d.b) := rfl
    rw [HG.out]
    clear h hr hs b1 b2 HG
    go_enter Try.func34, Try.ntmps34
    go_wp2_with fail
    refine R.out.mono ?_
    rintro e w' ⟨rfl, rfl⟩
    go_wp2_with fail
    refine (copied_any pb _ cb d.b.l _ B2.out (by omega)).mono ?_
    rintro e w1 ⟨v, rfl, ho, hb⟩
    go_wp2
    refine bodyPost_ret (results_tmp2 rfl _ _ _) rfl ?_
    exact ⟨_, rfl, ho, hb⟩
end Go.Proofs.Ytofalfaiamaapaa
