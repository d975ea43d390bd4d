/- What the document's answer (package hucksterref01) does: the bits of at most 100000 bytes in new memory, and the register behind bits. Asked: the bytes lie in memory as said. -/
import Derived.Test.YtgmimneendnfgaaOf
namespace Go.Proofs.Ytgmimneendnfgaa
open Go.RowKit

def pw (j : Nat) : Int := [128, 64, 32, 16, 8, 4, 2, 1].getD j 0
def bitsOf (o : Int) : List Int := (List.range 8).map fun j => o / pw j % 2
def allBits (l : List Int) : List Int := l.flatMap bitsOf

theorem pw_step (j : Nat) (h : j < 8) : pw j / 2 = pw (j + 1) ∧ 0 < pw j ∧ pw j ≤ 128 := by
  match j, h with
  | 0, _ => decide
  | 1, _ => decide
  | 2, _ => decide
  | 3, _ => decide
  | 4, _ => decide
  | 5, _ => decide
  | 6, _ => decide
  | 7, _ => decide
theorem pw_pos (j : Nat) (h : 0 < pw j) : j < 8 := by
  rcases Nat.lt_or_ge j 8 with h' | h'
  · exact h'
  · simp [pw, List.getD_eq_getElem?_getD, List.getElem?_eq_none (l := [128, 64, 32, 16, 8, 4, 2, (1 : Int)]) (by simpa using h')] at h
theorem bits_len (o : Int) : (bitsOf o).length = 8 := by simp [bitsOf]
theorem bits_take (o : Int) (j : Nat) (h : j < 8) : (bitsOf o).take (j + 1) = (bitsOf o).take j ++ [o / pw j % 2] := by
  rw [List.take_succ_eq_append_getElem (by rw [bits_len]; exact h)]
  simp [bitsOf]
theorem all_snoc (l : List Int) (k : Nat) (h : k < l.length) : allBits (l.take (k + 1)) = allBits (l.take k) ++ bitsOf (l.getD k 0) := by
  unfold allBits
  rw [List.take_succ_eq_append_getElem h, List.flatMap_append]
  simp [List.getD_eq_getElem?_getD, h]
theorem all_len (l : List Int) : (allBits l).length = 8 * l.length := by
  unfold allBits
  induction l with
  | nil => rfl
  | cons a l ih => rw [List.flatMap_cons, List.length_append, bits_len, ih, List.length_cons]; omega

theorem Try.info3 : (Try.prog.info? 3).map (fun i => (i.zero, i.size, i.bytes)) = some (some (.int .i64 0), 1, 8) := by kernel_rfl

theorem rel_app {N n : Nat} {w wr w1 : World} {u : Value} {xs : List Value} {o : Obj} (hw : N ≤ w.heap.size) (hown : wr.ownsRow N 3 1 u n xs) (hnx : Below N w wr)
    (hgrow : (wr.alloc o).grownBy w1 u.ownBlock) : Below N w w1 :=
  (hnx.alloc (by have := hnx.size; omega) o).grown hgrow (by have := hnx.size; simp; omega) (fun j hj => by have := (hown.lt j hj).1; omega)

set_option maxHeartbeats 1000000 in
set_option maxRecDepth 100000 in
theorem bits_any (a : Option Addr) (len cap : Nat) (l : List Int) (w : World) (hB : BS w a len l) (h15 : len ≤ 100000) :
    Calls Try.prog 41 #[.slice a len cap] w fun e w' =>
      ∃ v, e = .returned v ∧ w'.ownsRow w.heap.size 3 1 v (8 * len) ((allBits l).map (Value.int .i64)) ∧ Below w.heap.size w w' := by
  obtain ⟨i0, hi, hz0, hz1, hz2⟩ := info_parts Try.info3
  obtain ⟨hlen, hmax, hby, hcells⟩ := hB
  have hlen' := hide hlen
  have hby' := hide hby
  have hcells' := hide hcells
  clear hlen hmax hby hcells
  go_enter Try.func41, Try.ntmps41
  go_wp2
  go_loopw [3, 4] (fun v i wr => ∃ k : Nat, k ≤ len ∧ i = .int .i64 k ∧ wr.ownsRow w.heap.size 3 1 v (8 * k) ((allBits (l.take k)).map (Value.int .i64)) ∧ Below w.heap.size w wr) (fun _ i _ => len - (intOf i).toNat)
  case atStart => exact ⟨0, Nat.zero_le _, rfl, World.ownsRow_made w #[] 0 (Nat.le_refl _) (by decide) rfl, (Below.refl _ _).alloc (Nat.le_refl _) _⟩
  case round =>
    obtain ⟨k, hk, rfl, hown, hnx⟩ := hrel
    by_cases hlt : k < len
    · rcases hcells'.out with h0 | ⟨b, off, rfl, hc⟩
      · omega
      · have hck : wr.cell? ⟨b, off + k, none⟩ = some (.int .u8 (l.getD k 0)) := by
          have h1 := hc k hlt
          rw [hnx.cell (World.block_lt_of_cell? w _ h1)]; exact h1
        have hb0 := (getD_byte hby'.out k).1
        have hb1 := (getD_byte hby'.out k).2
        obtain ⟨o, ho⟩ : ∃ o, o = l.getD k 0 := ⟨_, rfl⟩
        rw [← ho] at hck hb0 hb1
        have HO := hide ho
        have HS := hide (all_snoc l k (by rw [hlen'.out]; exact hlt))
        have hown0 := hide hown
        have hnx0 := hide hnx
        clear hc hcells' ho hown hnx
        go_wp2
        go_loopw [3, 6] (fun v y wi => ∃ (j : Nat) (W : Int), j ≤ 8 ∧ y = .int .i64 W ∧ 0 ≤ W ∧ W ≤ 128 ∧ Hid (W = pw j) ∧ Hid (wi.ownsRow w.heap.size 3 1 v (8 * k + j) ((allBits (l.take k) ++ (bitsOf o).take j).map (Value.int .i64))) ∧ Hid (Below w.heap.size w wi)) (fun _ y _ => (intOf y).toNat)
        case atStart => exact ⟨0, 128, by omega, rfl, by omega, by omega, rfl, by rw [List.take_zero, List.append_nil]; exact hown0.out, hnx0.out⟩
        case round =>
          obtain ⟨j, W, hj, rfl, hW0, hW1, hWj, hownj, hnxj⟩ := hrel
          by_cases hW : 0 < W
          · have hj8 : j < 8 := pw_pos j (by rw [← hWj.out]; exact hW)
            have hown := hownj.out
            have hnsz : w.heap.size ≤ wr.heap.size := hnxj.out.size
            have hln : ((allBits (l.take k) ++ (bitsOf o).take j).map (Value.int .i64)).length = 8 * k + j := by have := hown.1; omega
            have HLN := hide hln
            clear hln
            have hq : 0 ≤ o / W := Int.ediv_nonneg hb0 hW0
            go_wp2_with (first
              | (at_builtin; refine wpList_append_own _ rfl _ _ 66 rfl w.heap.size 3 i0 (.int .i64 0) 1 8 Try.underlying66 hi hz0 hz1 hz2 rfl (by decide) _ _ _ rfl (hown.alloc _) ⟨wr.heap.size, 0, none⟩ 1 1 [.int .i64 (o / W % 2)] rfl rfl ?c1 ?c2 ?c3 ?c4 ?c5 ?_)
              | go_in)
            case c1 =>
              intro j u hj
              match j, hj with
              | 0, hj => simp at hj; subst hj; simp [Addr.add]
            case c2 => intro u hu; simp at hu; subst hu; rfl
            case c3 => unfold maxLen; omega
            case c4 => omega
            case c5 => simp; omega
            intro v' w1 hown' hgrow _
            have hnx' := hide (rel_app (Nat.le_refl _) hown hnxj.out hgrow)
            have hown2 : Hid (w1.ownsRow w.heap.size 3 1 v' (8 * k + (j + 1)) ((allBits (l.take k) ++ (bitsOf o).take (j + 1)).map (Value.int .i64))) := by
              have e : (allBits (l.take k) ++ (bitsOf o).take (j + 1)).map (Value.int .i64) = (allBits (l.take k)).map (Value.int .i64) ++ (((bitsOf o).map (Value.int .i64)).take j ++ [.int .i64 (o / W % 2)]) := by
                rw [bits_take o j hj8, ← hWj.out]; simp [List.map_append, List.map_take]
              rw [e]
              exact hown'
            clear hown' hgrow hown hownj hnxj
            go_wp2
            go_roundw
            case rel => exact ⟨j + 1, W / 2, by omega, rfl, by omega, by omega, by have := (pw_step j hj8).1; rw [← hWj.out] at this; exact this, hown2, hnx'⟩
            case measure => simp [intOf]; omega
          · have hj8 : j = 8 := by
              have h1 : ¬ j < 8 := fun h => by have := (pw_step j h).2.1; rw [← hWj.out] at this; exact hW this
              omega
            subst hj8
            have hown2 : Hid (wr.ownsRow w.heap.size 3 1 u3 (8 * (k + 1)) ((allBits (l.take (k + 1))).map (Value.int .i64))) := by
              have h1 := hownj.out
              rw [List.take_of_length_le (l := bitsOf o) (by rw [bits_len]; exact Nat.le_refl _), HO.out, ← HS.out] at h1
              exact h1
            clear hownj
            go_wp2
            go_roundw
            case rel => exact ⟨k + 1, by omega, by go_num, hown2.out, hnxj.out⟩
            case measure => simp [intOf]; omega
    · have hkl : k = len := by omega
      subst hkl
      have hown2 : Hid (wr.ownsRow w.heap.size 3 1 u3 (8 * k) ((allBits l).map (Value.int .i64))) := by
        have h1 := hown
        rw [List.take_of_length_le (by rw [hlen'.out]; exact Nat.le_refl _)] at h1
        exact h1
      have hnx' := hide hnx
      clear hown hnx
      go_wp2
      go_ret
      exact ⟨_, rfl, hown2.out, hnx'.out⟩
end Go.Proofs.Ytgmimneendnfgaa
