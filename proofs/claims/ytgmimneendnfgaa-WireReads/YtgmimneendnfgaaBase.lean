/- What each function of package sum does: it answers the plain function of the same name and leaves the world as it was. Asked: the bytes lie in memory as said. -/
import Derived.Test.YtgmimneendnfgaaRows
import Derived.Test.YtgmimneendnfgaaMath
import Derived.WalkKit
import Derived.WalkSpells
import Derived.WalkLawsBesides
import Derived.Handy
namespace Go.Proofs.Ytgmimneendnfgaa
open Go.RowKit

theorem hide {p : Prop} (h : p) : Hid p := h
theorem unhide {p : Prop} (h : Hid p) : p := h
theorem ret_int {k : IntKind} {a b : Int} (h : a = b) : Ending.returned (.int k a) = .returned (.int k b) := by rw [h]

set_option maxHeartbeats 400000 in
theorem feed_any (r o : Int) (w : World) (hr0 : 0 ≤ r) (hr : r < 4294967296) (ho0 : 0 ≤ o) (ho : o < 256) :
    Calls Try.prog 43 #[.int .u32 r, .int .u8 o] w fun e w' => e = .returned (.int .u32 (feed r o)) ∧ w' = w := by
  go_enter Try.func43, Try.ntmps43
  go_wp2
  go_loop [0, 1, 6] (fun a b i => ∃ (k : Nat) (x y : Int), k ≤ 8 ∧ i = .int .i64 k ∧ 0 ≤ x ∧ x < 4294967296 ∧ 0 ≤ y ∧ y < 256 ∧ a = .int .u32 x ∧ b = .int .u8 y ∧ Hid (fd (8 - k) x y = feed r o)) (fun _ _ i => 8 - (intOf i).toNat)
  case atStart => exact ⟨0, r, o, by omega, rfl, by omega, by omega, by omega, by omega, rfl, rfl, rfl⟩
  case round =>
    obtain ⟨k, x, y, hk, rfl, hx0, hx, hy0, hy, rfl, rfl, hH⟩ := hrel
    by_cases hlt : k < 8
    · have hstep : Hid (fd (8 - (k + 1)) (stp x (y / 128)) (y * 2 % 256) = feed r o) := by
        have h1 : 8 - k = (8 - (k + 1)) + 1 := by omega
        have h2 := hH.out
        rw [h1] at h2
        exact h2
      clear hH
      by_cases ht : (x / 2147483648 != y / 128) = true
      · have hs : stp x (y / 128) = bits .xor .u32 (x * 2 % 4294967296) 79764919 := if_pos ht
        have HS := hide hs
        clear hs
        go_wp2
        go_round
        case rel =>
          have hs := unhide HS
          refine ⟨k + 1, _, _, by omega, by go_num, ?_, ?_, ?_, ?_, rfl, rfl, ?_⟩
          · exact (xor32_bd _ _).1
          · exact (xor32_bd _ _).2
          · omega
          · omega
          · rw [← hs]; exact hstep
        case measure => simp [intOf]; omega
      · have hs : stp x (y / 128) = x * 2 % 4294967296 := if_neg ht
        have HS := hide hs
        clear hs
        go_wp2
        go_round
        case rel =>
          have hs := unhide HS
          refine ⟨k + 1, _, _, by omega, by go_num, ?_, ?_, ?_, ?_, rfl, rfl, ?_⟩
          · omega
          · omega
          · omega
          · omega
          · rw [← hs]; exact hstep
        case measure => simp [intOf]; omega
    · have hk8 : k = 8 := by omega
      subst hk8
      go_wp2
      go_ret
      exact ⟨ret_int hH.out, rfl⟩

/-- A slice value's bytes: 'l', each a byte; where there is one at all, they lie in one row of cells. -/
def BS (w : World) (a : Option Addr) (len : Nat) (l : List Int) : Prop :=
  l.length = len ∧ len ≤ maxLen ∧ (∀ n ∈ l, 0 ≤ n ∧ n < 256) ∧ (len = 0 ∨ ∃ b off, a = some ⟨b, off, none⟩ ∧ ∀ i, i < len → w.cell? ⟨b, off + i, none⟩ = some (.int .u8 (l.getD i 0)))

theorem foldl_drop (f : Int → Int → Int) (l : List Int) (k : Nat) (x : Int) (h : k < l.length) : (l.drop k).foldl f x = (l.drop (k + 1)).foldl f (f x (l.getD k 0)) := by
  rw [List.drop_eq_getElem_cons h, List.foldl_cons]
  simp [List.getD_eq_getElem?_getD, h]
theorem getD_byte {l : List Int} (hl : ∀ n ∈ l, 0 ≤ n ∧ n < 256) (k : Nat) : 0 ≤ l.getD k 0 ∧ l.getD k 0 < 256 := by
  by_cases h : k < l.length
  · have : l.getD k 0 = l[k] := by simp [List.getD_eq_getElem?_getD, h]
    rw [this]; exact hl _ (List.getElem_mem h)
  · have : l.getD k 0 = 0 := by simp [List.getD_eq_getElem?_getD, Nat.not_lt.mp h]
    rw [this]; omega

set_option maxHeartbeats 400000 in
theorem on_any (s : Int) (a : Option Addr) (len cap : Nat) (l : List Int) (w : World) (hB : BS w a len l) :
    Calls Try.prog 42 #[.int .u32 s, .slice a len cap] w fun e w' => e = .returned (.int .u32 (on s l)) ∧ w' = w := by
  obtain ⟨hlen, hmax, hby, hcells⟩ := hB
  unfold maxLen at hmax
  have hlen' := hide hlen
  clear hlen
  have hsg : IntKind.u32.signed = false := rfl
  have hby' := hide hby
  have hcells' := hide hcells
  clear hby hcells
  go_enter Try.func42, Try.ntmps42
  go_wp2
  go_loop [5, 12] (fun r i => ∃ (k : Nat) (x : Int), k ≤ len ∧ i = .int .i64 k ∧ 0 ≤ x ∧ x < 4294967296 ∧ r = .int .u32 x ∧ Hid (cpl ((l.drop k).foldl feed x) = on s l)) (fun _ i => len - (intOf i).toNat)
  case atStart => exact ⟨0, cpl s, by omega, rfl, (cpl_bd _).1, (cpl_bd _).2, rfl, rfl⟩
  case round =>
    obtain ⟨k, x, hk, rfl, hx0, hx, rfl, hH⟩ := hrel
    by_cases hlt : k < len
    · have hstep : Hid (cpl ((l.drop (k + 1)).foldl feed (feed x (l.getD k 0))) = on s l) := by
        have h2 := hH.out
        rw [foldl_drop feed l k x (by rw [hlen'.out]; exact hlt)] at h2
        exact h2
      clear hH
      rcases hcells'.out with h0 | ⟨b, off, rfl, hc⟩
      · omega
      · have hck := hc k hlt
        have hb0 := (getD_byte hby'.out k).1
        have hb1 := (getD_byte hby'.out k).2
        clear hc hcells'
        go_wp2_with (go_at_call 43; refine (feed_any _ _ _ hx0 hx hb0 hb1).mono ?_; rintro e w' ⟨rfl, rfl⟩)
        go_round
        case rel => exact ⟨k + 1, feed x (l.getD k 0), by omega, by go_num, (feed_bd _ _ hx0 hx).1, (feed_bd _ _ hx0 hx).2, rfl, hstep⟩
        case measure => simp [intOf]; omega
    · have hkl : k = len := by omega
      subst hkl
      have hd : l.drop k = [] := List.drop_of_length_le (by rw [hlen'.out]; exact Nat.le_refl _)
      have hE : Hid (cpl x = on s l) := by have h2 := hH.out; rw [hd] at h2; exact h2
      clear hd hH
      go_wp2
      go_ret
      exact ⟨ret_int hE.out, rfl⟩
end Go.Proofs.Ytgmimneendnfgaa
