/- What is said of memory and of numbers, gathered (Math, Base, Of, Ref, Run, Alg, Row, Cut, WMath, WOwn, CNum, CCheck, CArr, CFun, CJoinAll, CLaw, DMem, DFun1, DFun8, DAddR, WLen, WNum, WVal, WPut, WGet, WRefGet, WText, WPack, WUnpack, EMem, EEvt, EGet1, EGet2, EGet3, EClo, EFun4, EOpen, EOrd2, ERef2, ERef3, Lay, SSort, SOrd, SRef2, Turn, WRec, WSize, WOpen, WHeld, WEq, WCutM, WGetRec, WMay, WRefRecM, WRefRec, WRefRec2). -/
import Derived.Laws.Bits64
import Derived.Test.YtofalfaiamaapaaRows
import Derived.WalkKit
import Derived.WalkSpells
import Derived.WalkLawsBesides
import Derived.Handy
import Derived.Lib.SlBytesConst
import Derived.Laws.AppendOwnNone
import Derived.Laws.BytesArg
import Derived.Deep.RegionHeld3
import Derived.Laws.CopyOwn
import Derived.Laws.Rows
import Derived.Deep.WholeRow
import Derived.SizedLaws
import Derived.OpenShut
import Derived.ProofKit
import Derived.Sort.Grow
import Derived.Deep.Draws
import Derived.Lib.Tables
import Derived.Deep.RegionWith
import Derived.Lib.ConvBytes
import Derived.Deep.SlicePairs
import Derived.Lib.SmallJoins
import Derived.Deep.Matrix
namespace Go.Proofs.Ytofalfaiamaapaa
def stp (r b : Int) : Int := if (r / 2147483648 != b) = true then bits .xor .u32 (r * 2 % 4294967296) 79764919 else r * 2 % 4294967296
def fd : Nat → Int → Int → Int
  | 0, r, _ => r
  | k + 1, r, o => fd k (stp r (o / 128)) (o * 2 % 256)
def feed (r o : Int) : Int := fd 8 r o
def cpl (r : Int) : Int := bits .xor .u32 IntKind.u32.max r
def on (s : Int) (l : List Int) : Int := cpl (l.foldl feed (cpl s))
def of (ps : List (List Int)) : Int := ps.foldl on 0
theorem u32_wrap (n : Int) : IntKind.u32.wrap n = n % 4294967296 := by simp [IntKind.wrap, IntKind.bits, IntKind.signed]
theorem xor32_bd (a b : Int) : 0 ≤ bits .xor .u32 a b ∧ bits .xor .u32 a b < 4294967296 := by
  show 0 ≤ IntKind.u32.wrap _ ∧ IntKind.u32.wrap _ < 4294967296
  rw [u32_wrap]; omega
theorem stp_bd (r b : Int) : 0 ≤ stp r b ∧ stp r b < 4294967296 := by
  unfold stp; split
  · exact xor32_bd _ _
  · omega
theorem fd_bd (k : Nat) : ∀ (r o : Int), 0 ≤ r → r < 4294967296 → 0 ≤ fd k r o ∧ fd k r o < 4294967296 := by
  induction k with
  | zero => intro r o h1 h2; exact ⟨h1, h2⟩
  | succ k ih => intro r o _ _; exact ih _ _ (stp_bd _ _).1 (stp_bd _ _).2
theorem feed_bd (r o : Int) (h1 : 0 ≤ r) (h2 : r < 4294967296) : 0 ≤ feed r o ∧ feed r o < 4294967296 := fd_bd 8 r o h1 h2
theorem cpl_bd (r : Int) : 0 ≤ cpl r ∧ cpl r < 4294967296 := xor32_bd _ _
theorem on_bd (s : Int) (l : List Int) : 0 ≤ on s l ∧ on s l < 4294967296 := cpl_bd _
theorem of_bd_from (ps : List (List Int)) : ∀ s, 0 ≤ s → s < 4294967296 → 0 ≤ ps.foldl on s ∧ ps.foldl on s < 4294967296 := by
  induction ps with
  | nil => intro r h1 h2; exact ⟨h1, h2⟩
  | cons a l ih => intro r _ _; exact ih _ (on_bd _ _).1 (on_bd _ _).2
theorem of_bd (ps : List (List Int)) : 0 ≤ of ps ∧ of ps < 4294967296 := of_bd_from ps 0 (by omega) (by omega)
end Go.Proofs.Ytofalfaiamaapaa

namespace Go.Proofs.Ytofalfaiamaapaa
open Go.RowKit
theorem hide {p : Prop} (h : p) : Hid p := h
theorem unhide {p : Prop} (h : Hid p) : p := h
theorem ret_int {k : IntKind} {a b : Int} (h : a = b) : Ending.returned (.int k a) = .returned (.int k b) := by rw [h]
set_option maxHeartbeats 400000 in
theorem feed_any (r o : Int) (w : World) (hr0 : 0 ≤ r) (hr : r < 4294967296) (ho0 : 0 ≤ o) (ho : o < 256) :
    Calls Try.prog 72 #[.int .u32 r, .int .u8 o] w fun e w' => e = .returned (.int .u32 (feed r o)) ∧ w' = w := by
  go_enter Try.func72, Try.ntmps72
  go_wp2
  go_loop [0, 1, 6] (fun a b i => ∃ (k : Nat) (x y : Int), k ≤ 8 ∧ i = .int .i64 k ∧ 0 ≤ x ∧ x < 4294967296 ∧ 0 ≤ y ∧ y < 256 ∧ a = .int .u32 x ∧ b = .int .u8 y ∧ Hid (fd (8 - k) x y = feed r o)) (fun _ _ i => 8 - (intOf i).toNat)
  case atStart => exact ⟨0, r, o, by omega, rfl, by omega, by omega, by omega, by omega, rfl, rfl, rfl⟩
  case round =>
    obtain ⟨k, x, y, hk, rfl, hx0, hx, hy0, hy, rfl, rfl, hH⟩ := hrel
    by_cases hlt : k < 8
    · have hstep : Hid (fd (8 - (k + 1)) (stp x (y / 128)) (y * 2 % 256) = feed r o) := by
        have h1 : 8 - k = (8 - (k + 1)) + 1 := by omega
        have h2 := hH.out
        rw [h1] at h2
        exact h2
      clear hH
      by_cases ht : (x / 2147483648 != y / 128) = true
      · have hs : stp x (y / 128) = bits .xor .u32 (x * 2 % 4294967296) 79764919 := if_pos ht
        have HS := hide hs
        clear hs
        go_wp2
        go_round
        case rel =>
          have hs := unhide HS
          refine ⟨k + 1, _, _, by omega, by go_num, ?_, ?_, ?_, ?_, rfl, rfl, ?_⟩
          · exact (xor32_bd _ _).1
          · exact (xor32_bd _ _).2
          · omega
          · omega
          · rw [← hs]; exact hstep
        case measure => simp [intOf]; omega
      · have hs : stp x (y / 128) = x * 2 % 4294967296 := if_neg ht
        have HS := hide hs
        clear hs
        go_wp2
        go_round
        case rel =>
          have hs := unhide HS
          refine ⟨k + 1, _, _, by omega, by go_num, ?_, ?_, ?_, ?_, rfl, rfl, ?_⟩
          · omega
          · omega
          · omega
          · omega
          · rw [← hs]; exact hstep
        case measure => simp [intOf]; omega
    · have hk8 : k = 8 := by omega
      subst hk8
      go_wp2
      go_ret
      exact ⟨ret_int hH.out, rfl⟩
/-- A slice value's bytes: 'l', each a byte; where there is one at all, they lie in one row of cells. -/
def BS (w : World) (a : Option Addr) (len : Nat) (l : List Int) : Prop :=
  l.length = len ∧ len ≤ maxLen ∧ (∀ n ∈ l, 0 ≤ n ∧ n < 256) ∧ (len = 0 ∨ ∃ b off, a = some ⟨b, off, none⟩ ∧ ∀ i, i < len → w.cell? ⟨b, off + i, none⟩ = some (.int .u8 (l.getD i 0)))
theorem foldl_drop (f : Int → Int → Int) (l : List Int) (k : Nat) (x : Int) (h : k < l.length) : (l.drop k).foldl f x = (l.drop (k + 1)).foldl f (f x (l.getD k 0)) := by
  rw [List.drop_eq_getElem_cons h, List.foldl_cons]
  simp [List.getD_eq_getElem?_getD, h]
theorem getD_byte {l : List Int} (hl : ∀ n ∈ l, 0 ≤ n ∧ n < 256) (k : Nat) : 0 ≤ l.getD k 0 ∧ l.getD k 0 < 256 := by
  by_cases h : k < l.length
  · have : l.getD k 0 = l[k] := by simp [List.getD_eq_getElem?_getD, h]
    rw [this]; exact hl _ (List.getElem_mem h)
  · have : l.getD k 0 = 0 := by simp [List.getD_eq_getElem?_getD, Nat.not_lt.mp h]
    rw [this]; omega
set_option maxHeartbeats 400000 in
theorem on_any (s : Int) (a : Option Addr) (len cap : Nat) (l : List Int) (w : World) (hB : BS w a len l) :
    Calls Try.prog 71 #[.int .u32 s, .slice a len cap] w fun e w' => e = .returned (.int .u32 (on s l)) ∧ w' = w := by
  obtain ⟨hlen, hmax, hby, hcells⟩ := hB
  unfold maxLen at hmax
  have hlen' := hide hlen
  clear hlen
  have hsg : IntKind.u32.signed = false := rfl
  have hby' := hide hby
  have hcells' := hide hcells
  clear hby hcells
  go_enter Try.func71, Try.ntmps71
  go_wp2
  go_loop [5, 12] (fun r i => ∃ (k : Nat) (x : Int), k ≤ len ∧ i = .int .i64 k ∧ 0 ≤ x ∧ x < 4294967296 ∧ r = .int .u32 x ∧ Hid (cpl ((l.drop k).foldl feed x) = on s l)) (fun _ i => len - (intOf i).toNat)
  case atStart => exact ⟨0, cpl s, by omega, rfl, (cpl_bd _).1, (cpl_bd _).2, rfl, rfl⟩
  case round =>
    obtain ⟨k, x, hk, rfl, hx0, hx, rfl, hH⟩ := hrel
    by_cases hlt : k < len
    · have hstep : Hid (cpl ((l.drop (k + 1)).foldl feed (feed x (l.getD k 0))) = on s l) := by
        have h2 := hH.out
        rw [foldl_drop feed l k x (by rw [hlen'.out]; exact hlt)] at h2
        exact h2
      clear hH
      rcases hcells'.out with h0 | ⟨b, off, rfl, hc⟩
      · omega
      · have hck := hc k hlt
        have hb0 := (getD_byte hby'.out k).1
        have hb1 := (getD_byte hby'.out k).2
        clear hc hcells'
        go_wp2_with (go_at_call 72; refine (feed_any _ _ _ hx0 hx hb0 hb1).mono ?_; rintro e w' ⟨rfl, rfl⟩)
        go_round
        case rel => exact ⟨k + 1, feed x (l.getD k 0), by omega, by go_num, (feed_bd _ _ hx0 hx).1, (feed_bd _ _ hx0 hx).2, rfl, hstep⟩
        case measure => simp [intOf]; omega
    · have hkl : k = len := by omega
      subst hkl
      have hd : l.drop k = [] := List.drop_of_length_le (by rw [hlen'.out]; exact Nat.le_refl _)
      have hE : Hid (cpl x = on s l) := by have h2 := hH.out; rw [hd] at h2; exact h2
      clear hd hH
      go_wp2
      go_ret
      exact ⟨ret_int hE.out, rfl⟩
end Go.Proofs.Ytofalfaiamaapaa

namespace Go.Proofs.Ytofalfaiamaapaa
open Go.RowKit
/-- A slice of slices of bytes: the parts 'ps'. -/
def PS (w : World) (a : Option Addr) (n : Nat) (ps : List (List Int)) : Prop :=
  ps.length = n ∧ n ≤ maxLen ∧ (n = 0 ∨ ∃ b off, a = some ⟨b, off, none⟩ ∧ ∀ i, i < n → ∃ x len cap, w.cell? ⟨b, off + i, none⟩ = some (.slice x len cap) ∧ BS w x len (ps.getD i []))
/-- Every cell that could be read can be read still, and holds what it held. -/
def Ext (w w' : World) : Prop := ∀ p v, w.cell? p = some v → w'.cell? p = some v
theorem Ext.refl (w : World) : Ext w w := fun _ _ h => h
theorem Ext.trans {a b c : World} (h : Ext a b) (k : Ext b c) : Ext a c := fun p v hp => k p v (h p v hp)
theorem Ext.alloc {a w : World} (h : Ext a w) (o : Obj) : Ext a (w.alloc o) := fun p v hp => Lib.cell?_alloc_marked o (h p v hp)
theorem Ext.below {a w w' : World} (h : Ext a w) (hb : Below w.heap.size w w') : Ext a w' := fun p v hp => by
  have h1 := h p v hp
  have hlt : p.block < w.heap.size := by
    rcases Nat.lt_or_ge p.block w.heap.size with h' | h'
    · exact h'
    · simp [World.cell?, Array.getElem?_eq_none h'] at h1
  rw [hb.cell hlt]; exact h1
theorem BS.ext {w w' : World} {a : Option Addr} {len : Nat} {l : List Int} (h : BS w a len l) (hx : Ext w w') : BS w' a len l := by
  obtain ⟨h1, h2, h3, h4⟩ := h
  refine ⟨h1, h2, h3, ?_⟩
  rcases h4 with h0 | ⟨b, off, ha, hc⟩
  · exact .inl h0
  · exact .inr ⟨b, off, ha, fun i hi => hx _ _ (hc i hi)⟩
theorem BS.new (w : World) (g : Nat) (hg : g = w.heap.size) (l : List Int) (C : Array Value) (hC : C = (l.map (Value.int .u8)).toArray) (fr : Nat × Nat) (n : Nat) (hn : l.length = n) (hmax : n ≤ maxLen) (hby : ∀ x ∈ l, 0 ≤ x ∧ x < 256) :
    BS (w.alloc (.cells C 5 fr)) (some ⟨g, 0, none⟩) n l := by
  subst hg hC
  refine ⟨hn, hmax, hby, .inr ⟨_, 0, rfl, fun i hi => ?_⟩⟩
  rw [World.cell?_alloc_mark]
  subst hn
  simp [List.getD_eq_getElem?_getD, hi]
theorem PS.new (w : World) (g : Nat) (hg : g = w.heap.size) (qs : List (Option Addr × Nat × Nat × List Int)) (C : Array Value) (hC : C = (qs.map fun q => Value.slice q.1 q.2.1 q.2.2.1).toArray) (fr : Nat × Nat)
    (n : Nat) (hn : qs.length = n) (hmax : n ≤ maxLen) (ps : List (List Int)) (hps : ps = qs.map fun q => q.2.2.2) (hq : ∀ q ∈ qs, BS w q.1 q.2.1 q.2.2.2) :
    PS (w.alloc (.cells C 22 fr)) (some ⟨g, 0, none⟩) n ps := by
  subst hg hC hps
  refine ⟨by simpa using hn, hmax, .inr ⟨_, 0, rfl, fun i hi => ?_⟩⟩
  rw [World.cell?_alloc_mark]
  subst hn
  refine ⟨qs[i].1, qs[i].2.1, qs[i].2.2.1, by simp [hi], ?_⟩
  have := (hq qs[i] (List.getElem_mem hi)).ext ((Ext.refl w).alloc (.cells (qs.map fun q => Value.slice q.1 q.2.1 q.2.2.1).toArray 22 fr))
  simpa [List.getD_eq_getElem?_getD, hi] using this
theorem foldl_drop2 (f : Int → List Int → Int) (l : List (List Int)) (k : Nat) (x : Int) (h : k < l.length) : (l.drop k).foldl f x = (l.drop (k + 1)).foldl f (f x (l.getD k [])) := by
  rw [List.drop_eq_getElem_cons h, List.foldl_cons]
  simp [List.getD_eq_getElem?_getD, h]
set_option maxHeartbeats 400000 in
theorem of_any (a : Option Addr) (n cap : Nat) (ps : List (List Int)) (w : World) (hP : PS w a n ps) :
    Calls Try.prog 69 #[.slice a n cap] w fun e w' => e = .returned (.int .u32 (of ps)) ∧ w' = w := by
  obtain ⟨hlen, hmax, hcells⟩ := hP
  unfold maxLen at hmax
  have hlen' := hide hlen
  clear hlen
  have hcells' := hide hcells
  clear hcells
  go_enter Try.func69, Try.ntmps69
  go_wp2
  go_loop [3, 8] (fun r i => ∃ (k : Nat) (x : Int), k ≤ n ∧ i = .int .i64 k ∧ 0 ≤ x ∧ x < 4294967296 ∧ r = .int .u32 x ∧ Hid ((ps.drop k).foldl on x = of ps)) (fun _ i => n - (intOf i).toNat)
  case atStart => exact ⟨0, 0, by omega, rfl, by omega, by omega, rfl, rfl⟩
  case round =>
    obtain ⟨k, x, hk, rfl, hx0, hx, rfl, hH⟩ := hrel
    by_cases hlt : k < n
    · have hstep : Hid ((ps.drop (k + 1)).foldl on (on x (ps.getD k [])) = of ps) := by
        have h2 := hH.out
        rw [foldl_drop2 on ps k x (by rw [hlen'.out]; exact hlt)] at h2
        exact h2
      clear hH
      rcases hcells'.out with h0 | ⟨b, off, rfl, hc⟩
      · omega
      · obtain ⟨y, len, cp, hck, hbs⟩ := hc k hlt
        have HB := hide hbs
        clear hc hcells' hbs
        go_wp2_with (go_at_call 71; refine (on_any _ _ _ _ _ _ (by exact HB.out)).mono ?_; rintro e w' ⟨rfl, rfl⟩)
        go_round
        case rel => exact ⟨k + 1, on x (ps.getD k []), by omega, by go_num, (on_bd _ _).1, (on_bd _ _).2, rfl, hstep⟩
        case measure => simp [intOf]; omega
    · have hkl : k = n := by omega
      subst hkl
      have hd : ps.drop k = [] := List.drop_of_length_le (by rw [hlen'.out]; exact Nat.le_refl _)
      have hE : Hid (x = of ps) := by have h2 := hH.out; rw [hd] at h2; exact h2
      clear hd hH
      go_wp2
      go_ret
      exact ⟨ret_int hE.out, rfl⟩
end Go.Proofs.Ytofalfaiamaapaa

namespace Go.Proofs.Ytofalfaiamaapaa
open Go.RowKit
def pw (j : Nat) : Int := [128, 64, 32, 16, 8, 4, 2, 1].getD j 0
def bitsOf (o : Int) : List Int := (List.range 8).map fun j => o / pw j % 2
def allBits (l : List Int) : List Int := l.flatMap bitsOf
theorem pw_step (j : Nat) (h : j < 8) : pw j / 2 = pw (j + 1) ∧ 0 < pw j ∧ pw j ≤ 128 := by
  match j, h with
  | 0, _ => decide
  | 1, _ => decide
  | 2, _ => decide
  | 3, _ => decide
  | 4, _ => decide
  | 5, _ => decide
  | 6, _ => decide
  | 7, _ => decide
theorem pw_pos (j : Nat) (h : 0 < pw j) : j < 8 := by
  rcases Nat.lt_or_ge j 8 with h' | h'
  · exact h'
  · simp [pw, List.getD_eq_getElem?_getD, List.getElem?_eq_none (l := [128, 64, 32, 16, 8, 4, 2, (1 : Int)]) (by simpa using h')] at h
theorem bits_len (o : Int) : (bitsOf o).length = 8 := by simp [bitsOf]
theorem bits_take (o : Int) (j : Nat) (h : j < 8) : (bitsOf o).take (j + 1) = (bitsOf o).take j ++ [o / pw j % 2] := by
  rw [List.take_succ_eq_append_getElem (by rw [bits_len]; exact h)]
  simp [bitsOf]
theorem all_snoc (l : List Int) (k : Nat) (h : k < l.length) : allBits (l.take (k + 1)) = allBits (l.take k) ++ bitsOf (l.getD k 0) := by
  unfold allBits
  rw [List.take_succ_eq_append_getElem h, List.flatMap_append]
  simp [List.getD_eq_getElem?_getD, h]
theorem rel_app {N n : Nat} {w wr w1 : World} {u : Value} {xs : List Value} {o : Obj} (hw : N ≤ w.heap.size) (hown : wr.ownsRow N 3 1 u n xs) (hnx : Below N w wr)
    (hgrow : (wr.alloc o).grownBy w1 u.ownBlock) : Below N w w1 :=
  (hnx.alloc (by have := hnx.size; omega) o).grown hgrow (by have := hnx.size; simp; omega) (fun j hj => by have := (hown.lt j hj).1; omega)
theorem Try.info3 : (Try.prog.info? 3).map (fun i => (i.zero, i.size, i.bytes)) = some (some (.int .i64 0), 1, 8) := by kernel_rfl
set_option maxHeartbeats 1000000 in
set_option maxRecDepth 100000 in
theorem bits_any (a : Option Addr) (len cap : Nat) (l : List Int) (w : World) (hB : BS w a len l) (h15 : len ≤ 100000) :
    Calls Try.prog 64 #[.slice a len cap] w fun e w' =>
      ∃ v, e = .returned v ∧ w'.ownsRow w.heap.size 3 1 v (8 * len) ((allBits l).map (Value.int .i64)) ∧ Below w.heap.size w w' := by
  obtain ⟨i0, hi, hz0, hz1, hz2⟩ := info_parts Try.info3
  obtain ⟨hlen, hmax, hby, hcells⟩ := hB
  have hlen' := hide hlen
  have hby' := hide hby
  have hcells' := hide hcells
  clear hlen hmax hby hcells
  go_enter Try.func64, Try.ntmps64
  go_wp2
  go_loopw [3, 4] (fun v i wr => ∃ k : Nat, k ≤ len ∧ i = .int .i64 k ∧ wr.ownsRow w.heap.size 3 1 v (8 * k) ((allBits (l.take k)).map (Value.int .i64)) ∧ Below w.heap.size w wr) (fun _ i _ => len - (intOf i).toNat)
  case atStart => exact ⟨0, Nat.zero_le _, rfl, World.ownsRow_made w #[] 0 (Nat.le_refl _) (by decide) rfl, (Below.refl _ _).alloc (Nat.le_refl _) _⟩
  case round =>
    obtain ⟨k, hk, rfl, hown, hnx⟩ := hrel
    by_cases hlt : k < len
    · rcases hcells'.out with h0 | ⟨b, off, rfl, hc⟩
      · omega
      · have hck : wr.cell? ⟨b, off + k, none⟩ = some (.int .u8 (l.getD k 0)) := by
          have h1 := hc k hlt
          rw [hnx.cell (World.block_lt_of_cell? w _ h1)]; exact h1
        have hb0 := (getD_byte hby'.out k).1
        have hb1 := (getD_byte hby'.out k).2
        obtain ⟨o, ho⟩ : ∃ o, o = l.getD k 0 := ⟨_, rfl⟩
        rw [← ho] at hck hb0 hb1
        have HO := hide ho
        have HS := hide (all_snoc l k (by rw [hlen'.out]; exact hlt))
        have hown0 := hide hown
        have hnx0 := hide hnx
        clear hc hcells' ho hown hnx
        go_wp2
        go_loopw [3, 6] (fun v y wi => ∃ (j : Nat) (W : Int), j ≤ 8 ∧ y = .int .i64 W ∧ 0 ≤ W ∧ W ≤ 128 ∧ Hid (W = pw j) ∧ Hid (wi.ownsRow w.heap.size 3 1 v (8 * k + j) ((allBits (l.take k) ++ (bitsOf o).take j).map (Value.int .i64))) ∧ Hid (Below w.heap.size w wi)) (fun _ y _ => (intOf y).toNat)
        case atStart => exact ⟨0, 128, by omega, rfl, by omega, by omega, rfl, by rw [List.take_zero, List.append_nil]; exact hown0.out, hnx0.out⟩
        case round =>
          obtain ⟨j, W, hj, rfl, hW0, hW1, hWj, hownj, hnxj⟩ := hrel
          by_cases hW : 0 < W
          · have hj8 : j < 8 := pw_pos j (by rw [← hWj.out]; exact hW)
            have hown := hownj.out
            have hnsz : w.heap.size ≤ wr.heap.size := hnxj.out.size
            have hln : ((allBits (l.take k) ++ (bitsOf o).take j).map (Value.int .i64)).length = 8 * k + j := by have := hown.1; omega
            have HLN := hide hln
            clear hln
            have hq : 0 ≤ o / W := Int.ediv_nonneg hb0 hW0
            go_wp2_with (first
              | (at_builtin; refine wpList_append_own _ rfl _ _ 41 rfl w.heap.size 3 i0 (.int .i64 0) 1 8 Try.underlying41 hi hz0 hz1 hz2 rfl (by decide) _ _ _ rfl (hown.alloc _) ⟨wr.heap.size, 0, none⟩ 1 1 [.int .i64 (o / W % 2)] rfl rfl ?c1 ?c2 ?c3 ?c4 ?c5 ?_)
              | go_in)
            case c1 =>
              intro j u hj
              match j, hj with
              | 0, hj => simp at hj; subst hj; simp [Addr.add]
            case c2 => intro u hu; simp at hu; subst hu; rfl
            case c3 => unfold maxLen; omega
            case c4 => omega
            case c5 => simp; omega
            intro v' w1 hown' hgrow _
            have hnx' := hide (rel_app (Nat.le_refl _) hown hnxj.out hgrow)
            have hown2 : Hid (w1.ownsRow w.heap.size 3 1 v' (8 * k + (j + 1)) ((allBits (l.take k) ++ (bitsOf o).take (j + 1)).map (Value.int .i64))) := by
              have e : (allBits (l.take k) ++ (bitsOf o).take (j + 1)).map (Value.int .i64) = (allBits (l.take k)).map (Value.int .i64) ++ (((bitsOf o).map (Value.int .i64)).take j ++ [.int .i64 (o / W % 2)]) := by
                rw [bits_take o j hj8, ← hWj.out]; simp [List.map_append, List.map_take]
              rw [e]
              exact hown'
            clear hown' hgrow hown hownj hnxj
            go_wp2
            go_roundw
            case rel => exact ⟨j + 1, W / 2, by omega, rfl, by omega, by omega, by have := (pw_step j hj8).1; rw [← hWj.out] at this; exact this, hown2, hnx'⟩
            case measure => simp [intOf]; omega
          · have hj8 : j = 8 := by
              have h1 : ¬ j < 8 := fun h => by have := (pw_step j h).2.1; rw [← hWj.out] at this; exact hW this
              omega
            subst hj8
            have hown2 : Hid (wr.ownsRow w.heap.size 3 1 u3 (8 * (k + 1)) ((allBits (l.take (k + 1))).map (Value.int .i64))) := by
              have h1 := hownj.out
              rw [List.take_of_length_le (l := bitsOf o) (by rw [bits_len]; exact Nat.le_refl _), HO.out, ← HS.out] at h1
              exact h1
            clear hownj
            go_wp2
            go_roundw
            case rel => exact ⟨k + 1, by omega, by go_num, hown2.out, hnxj.out⟩
            case measure => simp [intOf]; omega
    · have hkl : k = len := by omega
      subst hkl
      have hown2 : Hid (wr.ownsRow w.heap.size 3 1 u3 (8 * k) ((allBits l).map (Value.int .i64))) := by
        have h1 := hown
        rw [List.take_of_length_le (by rw [hlen'.out]; exact Nat.le_refl _)] at h1
        exact h1
      have hnx' := hide hnx
      clear hown hnx
      go_wp2
      go_ret
      exact ⟨_, rfl, hown2.out, hnx'.out⟩
end Go.Proofs.Ytofalfaiamaapaa

namespace Go.Proofs.Ytofalfaiamaapaa
open Go.RowKit
theorem feed_bits (r o : Int) (h0 : 0 ≤ o) (h1 : o < 256) : (bitsOf o).foldl stp r = feed r o := by
  have e0 : o / 128 % 2 = o / 128 := by omega
  have e1 : o * 2 % 256 / 128 = o / 64 % 2 := by omega
  have e2 : o * 2 % 256 * 2 % 256 / 128 = o / 32 % 2 := by omega
  have e3 : o * 2 % 256 * 2 % 256 * 2 % 256 / 128 = o / 16 % 2 := by omega
  have e4 : o * 2 % 256 * 2 % 256 * 2 % 256 * 2 % 256 / 128 = o / 8 % 2 := by omega
  have e5 : o * 2 % 256 * 2 % 256 * 2 % 256 * 2 % 256 * 2 % 256 / 128 = o / 4 % 2 := by omega
  have e6 : o * 2 % 256 * 2 % 256 * 2 % 256 * 2 % 256 * 2 % 256 * 2 % 256 / 128 = o / 2 % 2 := by omega
  have e7 : o * 2 % 256 * 2 % 256 * 2 % 256 * 2 % 256 * 2 % 256 * 2 % 256 * 2 % 256 / 128 = o / 1 % 2 := by omega
  have hb : bitsOf o = [o / 128 % 2, o / 64 % 2, o / 32 % 2, o / 16 % 2, o / 8 % 2, o / 4 % 2, o / 2 % 2, o / 1 % 2] := rfl
  rw [hb]
  simp only [List.foldl, feed, fd]
  rw [e0, e1, e2, e3, e4, e5, e6, e7]
theorem all_foldl (l : List Int) (hl : ∀ n ∈ l, 0 ≤ n ∧ n < 256) : ∀ r, (allBits l).foldl stp r = l.foldl feed r := by
  induction l with
  | nil => intro r; rfl
  | cons a l ih =>
    intro r
    unfold allBits
    rw [List.flatMap_cons, List.foldl_append, feed_bits r a (hl a (by simp)).1 (hl a (by simp)).2, List.foldl_cons]
    exact ih (fun n hn => hl n (by simp [hn])) _
/-- A slice value's ints. -/
def IS (w : World) (a : Option Addr) (n : Nat) (l : List Int) : Prop :=
  l.length = n ∧ n ≤ 800000 ∧ (n = 0 ∨ ∃ b off, a = some ⟨b, off, none⟩ ∧ ∀ i, i < n → w.cell? ⟨b, off + i, none⟩ = some (.int .i64 (l.getD i 0)))
theorem IS.own {w : World} {N : Nat} {v : Value} {n : Nat} {l : List Int} (h : w.ownsRow N 3 1 v n (l.map (Value.int .i64))) (hn : n ≤ 800000) :
    ∃ a cap, v = .slice a n cap ∧ IS w a n l := by
  obtain ⟨hx, h2⟩ := h
  have hl : l.length = n := by simpa using hx
  rcases h2 with ⟨rfl, rfl⟩ | ⟨g, cap, cur, rfl, hb, hg, hc1, hc2, hs, ht⟩
  · exact ⟨none, 0, rfl, hl, hn, .inl rfl⟩
  · have hw : w.ownsRow N 3 1 (.slice (some ⟨g, 0, none⟩) n cap) n (l.map (Value.int .i64)) := ⟨hx, .inr ⟨g, cap, cur, rfl, hb, hg, hc1, hc2, hs, ht⟩⟩
    refine ⟨some ⟨g, 0, none⟩, cap, rfl, hl, hn, .inr ⟨g, 0, rfl, fun i hi => ?_⟩⟩
    rw [Nat.zero_add, hw.cellAt i (by omega)]
    subst hl
    simp [List.getD_eq_getElem?_getD, hi]
set_option maxHeartbeats 400000 in
theorem run_any (r : Int) (a : Option Addr) (n cap : Nat) (l : List Int) (w : World) (hr0 : 0 ≤ r) (hr : r < 4294967296) (hB : IS w a n l) :
    Calls Try.prog 63 #[.int .u32 r, .slice a n cap] w fun e w' => e = .returned (.int .u32 (l.foldl stp r)) ∧ w' = w := by
  obtain ⟨hlen, hmax, hcells⟩ := hB
  have hlen' := hide hlen
  have hcells' := hide hcells
  clear hlen hcells
  go_enter Try.func63, Try.ntmps63
  go_wp2
  go_loop [0, 5] (fun v i => ∃ (k : Nat) (x : Int), k ≤ n ∧ i = .int .i64 k ∧ 0 ≤ x ∧ x < 4294967296 ∧ v = .int .u32 x ∧ Hid ((l.drop k).foldl stp x = l.foldl stp r)) (fun _ i => n - (intOf i).toNat)
  case atStart => exact ⟨0, r, by omega, rfl, hr0, hr, rfl, rfl⟩
  case round =>
    obtain ⟨k, x, hk, rfl, hx0, hx, rfl, hH⟩ := hrel
    by_cases hlt : k < n
    · have hstep : Hid ((l.drop (k + 1)).foldl stp (stp x (l.getD k 0)) = l.foldl stp r) := by
        have h2 := hH.out
        rw [foldl_drop stp l k x (by rw [hlen'.out]; exact hlt)] at h2
        exact h2
      clear hH
      rcases hcells'.out with h0 | ⟨b, off, rfl, hc⟩
      · omega
      · have hck := hc k hlt
        obtain ⟨o, ho⟩ : ∃ o, o = l.getD k 0 := ⟨_, rfl⟩
        rw [← ho] at hck hstep
        clear hc hcells' ho
        by_cases ht : (x / 2147483648 != o) = true
        · have HS := hide (show stp x o = bits .xor .u32 (x * 2 % 4294967296) 79764919 from if_pos ht)
          go_wp2
          go_round
          case rel => exact ⟨k + 1, _, by omega, by go_num, (xor32_bd _ _).1, (xor32_bd _ _).2, rfl, by rw [← HS.out]; exact hstep⟩
          case measure => simp [intOf]; omega
        · have HS := hide (show stp x o = x * 2 % 4294967296 from if_neg ht)
          go_wp2
          go_round
          case rel => exact ⟨k + 1, _, by omega, by go_num, by omega, by omega, rfl, by rw [← HS.out]; exact hstep⟩
          case measure => simp [intOf]; omega
    · have hkl : k = n := by omega
      subst hkl
      have hd : l.drop k = [] := List.drop_of_length_le (by rw [hlen'.out]; exact Nat.le_refl _)
      have hE : Hid (x = l.foldl stp r) := by have h2 := hH.out; rw [hd] at h2; exact h2
      clear hd hH
      go_wp2
      go_ret
      exact ⟨ret_int hE.out, rfl⟩
theorem cpl_zero : cpl 0 = 4294967295 := by decide +kernel
set_option maxHeartbeats 400000 in
theorem refOf_any (a : Option Addr) (len cap : Nat) (l : List Int) (w : World) (hB : BS w a len l) (h15 : len ≤ 100000) :
    Calls Try.prog 53 #[.slice a len cap] w fun e w' => e = .returned (.int .u32 (of [l])) ∧ Below w.heap.size w w' := by
  have hE : Hid (bits .xor .u32 4294967295 ((allBits l).foldl stp 4294967295) = of [l]) := by
    show _ = on 0 l
    unfold on
    rw [all_foldl l hB.2.2.1, cpl_zero]; rfl
  have HB := hide hB
  clear hB
  go_enter Try.func53, Try.ntmps53
  go_wp2_with fail
  refine (bits_any a len cap l w HB.out h15).mono ?_
  rintro e w1 ⟨v, rfl, hown, hb⟩
  obtain ⟨a1, c1, rfl, hI⟩ := IS.own hown (by omega)
  have HI := hide hI
  have Hb := hide hb
  clear hown hI hb
  go_wp2_with fail
  refine (run_any _ _ _ _ _ _ (by omega) (by omega) HI.out).mono ?_
  rintro e w2 ⟨rfl, rfl⟩
  go_wp2
  go_ret
  exact ⟨ret_int hE.out, Hb.out⟩
end Go.Proofs.Ytofalfaiamaapaa

namespace Go.Proofs.Ytofalfaiamaapaa
def poly : BitVec 32 := 79764919#32
def T (x : BitVec 32) : BitVec 32 := (x <<< 1) ^^^ (if x.msb then poly else 0#32)
end Go.Proofs.Ytofalfaiamaapaa

namespace Go.Proofs.Ytofalfaiamaapaa
open Go.RowKit
theorem one_ps (w : World) (a : Option Addr) (len cap : Nat) (l : List Int) (h : BS w a len l) : PS (w.alloc (.cells #[.slice a len cap] 22)) (some ⟨w.heap.size, 0, none⟩) 1 [l] := by
  refine PS.new _ _ rfl [(a, len, cap, l)] _ rfl _ 1 rfl (by decide) _ rfl ?_
  intro q hq
  simp only [List.mem_cons, List.not_mem_nil, or_false] at hq
  rcases hq with rfl
  exact h
end Go.Proofs.Ytofalfaiamaapaa

namespace Go.Proofs.Ytofalfaiamaapaa
open Go.RowKit
theorem Ext.drew {a w : World} (h : Ext a w) : Ext a w.drew := fun p v hp => h p v hp
theorem PS.drew {w : World} {a : Option Addr} {n : Nat} {ps : List (List Int)} (h : PS w a n ps) : PS w.drew a n ps := h
theorem BS.drew {w : World} {a : Option Addr} {n : Nat} {l : List Int} (h : BS w a n l) : BS w.drew a n l := h
/-- What 'x[i:h]' leads to. -/
def slA (a : Option Addr) (cap i : Nat) : Option Addr := if cap = i then a else a.map (fun x => x.add i)
theorem BS.cut {w : World} {a : Option Addr} {len : Nat} {l : List Int} (hB : BS w a len l) (i h cap : Nat) (h1 : i ≤ h) (h2 : h ≤ len) (h3 : len ≤ cap) :
    BS w (slA a cap i) (h - i) ((l.take h).drop i) := by
  obtain ⟨g1, g2, g3, g4⟩ := hB
  refine ⟨by rw [List.length_drop, List.length_take]; omega, by omega, fun n hn => g3 n (List.mem_of_mem_take (List.mem_of_mem_drop hn)), ?_⟩
  rcases Nat.eq_zero_or_pos (h - i) with h0 | hp
  · exact .inl h0
  · rcases g4 with h0 | ⟨b, off, rfl, hc⟩
    · omega
    · refine .inr ⟨b, off + i, ?_, fun t ht => ?_⟩
      · unfold slA
        rw [if_neg (by omega)]
        by_cases hi : i = 0
        · subst hi; simp [Addr.add]
        · simp [Addr.add, hi]
      · have h4 : ((l.take h).drop i).getD t 0 = l.getD (i + t) 0 := by
          have h5 : i + t < h := by omega
          simp [List.getD_eq_getElem?_getD, h5]
        rw [h4, Nat.add_assoc]
        exact hc (i + t) (by omega)
theorem BS.head {w : World} {a : Option Addr} {len : Nat} {l : List Int} (hB : BS w a len l) (h : Nat) (h2 : h ≤ len) : BS w a h (l.take h) := by
  obtain ⟨g1, g2, g3, g4⟩ := hB
  refine ⟨by rw [List.length_take]; omega, by omega, fun n hn => g3 n (List.mem_of_mem_take hn), ?_⟩
  rcases Nat.eq_zero_or_pos h with h0 | hp
  · exact .inl h0
  · rcases g4 with h0 | ⟨b, off, rfl, hc⟩
    · omega
    · refine .inr ⟨b, off, rfl, fun t ht => ?_⟩
      have h4 : (l.take h).getD t 0 = l.getD t 0 := by simp [List.getD_eq_getElem?_getD, ht]
      rw [h4]
      exact hc t (by omega)
theorem of_as (a : Option Addr) (n cap : Nat) (ps : List (List Int)) (w : World) (c : Int) (hc : of ps = c) (hP : PS w a n ps) :
    Calls Try.prog 69 #[.slice a n cap] w fun e w' => e = .returned (.int .u32 c) ∧ w' = w := by
  rw [← hc]; exact of_any a n cap ps w hP
theorem PS.none (w : World) : PS w Option.none 0 [] := ⟨rfl, by decide, .inl rfl⟩
end Go.Proofs.Ytofalfaiamaapaa

namespace Go.Proofs.Ytofalfaiamaapaa
def By (l : List Int) : Prop := ∀ n ∈ l, 0 ≤ n ∧ n < 256
theorem By.nil : By [] := fun _ h => by cases h
theorem By.cons {a : Int} {l : List Int} (h0 : 0 ≤ a) (h1 : a < 256) (h : By l) : By (a :: l) := fun n hn => by
  rcases List.mem_cons.1 hn with rfl | hn
  · exact ⟨h0, h1⟩
  · exact h n hn
theorem By.append {l m : List Int} (h : By l) (k : By m) : By (l ++ m) := fun n hn => by
  rcases List.mem_append.1 hn with hn | hn
  · exact h n hn
  · exact k n hn
theorem By.take {l : List Int} (h : By l) (k : Nat) : By (l.take k) := fun n hn => h n (List.mem_of_mem_take hn)
theorem By.drop {l : List Int} (h : By l) (k : Nat) : By (l.drop k) := fun n hn => h n (List.mem_of_mem_drop hn)
theorem By.tail {a : Int} {l : List Int} (h : By (a :: l)) : By l := fun n hn => h n (List.mem_cons_of_mem _ hn)
theorem By.head {a : Int} {l : List Int} (h : By (a :: l)) : 0 ≤ a ∧ a < 256 := h a (List.mem_cons_self ..)
theorem By.flat {ps : List (List Int)} {f : List Int → List Int} (h : ∀ p ∈ ps, By (f p)) : By (ps.flatMap f) := fun n hn => by
  obtain ⟨p, hp, hn⟩ := List.mem_flatMap.1 hn
  exact h p hp n hn
/-- 'k' bytes of 'x', the highest first. -/
def be : Nat → Int → List Int
  | 0, _ => []
  | k + 1, x => (x / 256 ^ k % 256) :: be k x
def val (l : List Int) : Int := l.foldl (fun x o => x * 256 + o) 0
/-- How many bytes 'x' has. -/
def nb (x : Int) : Nat :=
  if x < 1 then 0 else if x < 256 then 1 else if x < 65536 then 2 else if x < 16777216 then 3 else if x < 4294967296 then 4
  else if x < 1099511627776 then 5 else if x < 281474976710656 then 6 else if x < 72057594037927936 then 7 else 8
def num (x : Int) : List Int := (nb x : Int) :: be (nb x) x
theorem pow_pos' (k : Nat) : (0 : Int) < 256 ^ k := Int.pow_pos (by decide)
theorem pow_s (k : Nat) : (256 : Int) ^ (k + 1) = 256 ^ k * 256 := Int.pow_succ ..
theorem be_len (k : Nat) (x : Int) : (be k x).length = k := by
  induction k with
  | zero => rfl
  | succ k ih => simp [be, ih]
theorem be_by (k : Nat) (x : Int) : By (be k x) := by
  induction k with
  | zero => exact By.nil
  | succ k ih => exact By.cons (by omega) (by omega) ih
theorem nb_le (x : Int) : nb x ≤ 8 := by unfold nb; repeat' split
                                         all_goals omega
theorem num_by (x : Int) : By (num x) := By.cons (by omega) (by have := nb_le x; omega) (be_by _ _)
theorem num_len (x : Int) : (num x).length = nb x + 1 := by simp [num, be_len]
theorem nb_lo (x : Int) : nb x = 0 ∨ (256 : Int) ^ (nb x - 1) ≤ x := by
  unfold nb
  repeat' split
  all_goals first | (left; rfl) | (right; simp; omega)
theorem nb_is (x : Int) (k : Nat) (h0 : 0 ≤ x) (hk : k ≤ 8) (hi : x < 256 ^ k) (lo : k = 0 ∨ (256 : Int) ^ (k - 1) ≤ x) : nb x = k := by
  have h8 : k = 0 ∨ k = 1 ∨ k = 2 ∨ k = 3 ∨ k = 4 ∨ k = 5 ∨ k = 6 ∨ k = 7 ∨ k = 8 := by omega
  rcases h8 with rfl | rfl | rfl | rfl | rfl | rfl | rfl | rfl | rfl
  all_goals
    simp at hi lo
    unfold nb
    repeat' split
    all_goals omega
theorem foldl_val (l : List Int) : ∀ a : Int, l.foldl (fun x o => x * 256 + o) a = a * 256 ^ l.length + val l := by
  unfold val
  induction l with
  | nil => intro a; simp
  | cons d r ih =>
    intro a
    rw [List.foldl_cons, List.foldl_cons, ih, ih (0 * 256 + d), List.length_cons, pow_s, Int.zero_mul, Int.zero_add, Int.add_mul, Int.mul_assoc, Int.mul_comm 256 (256 ^ r.length), Int.add_assoc]
theorem val_cons (d : Int) (r : List Int) : val (d :: r) = d * 256 ^ r.length + val r := by
  show r.foldl (fun x o => x * 256 + o) (0 * 256 + d) = _
  rw [foldl_val, Int.zero_mul, Int.zero_add]
theorem val_append (l m : List Int) : val (l ++ m) = val l * 256 ^ m.length + val m := by
  show (l ++ m).foldl (fun x o => x * 256 + o) 0 = _
  rw [List.foldl_append, foldl_val]; rfl
theorem val_snoc (l : List Int) (d : Int) : val (l ++ [d]) = val l * 256 + d := by rw [val_append]; simp [val]
theorem val_bd (l : List Int) (h : By l) : 0 ≤ val l ∧ val l < 256 ^ l.length := by
  induction l with
  | nil => exact ⟨by decide, by decide⟩
  | cons d r ih =>
    have i := ih h.tail
    have hd := h.head
    rw [val_cons, List.length_cons, pow_s]
    have hp := pow_pos' r.length
    have h1 : 0 ≤ d * 256 ^ r.length := Int.mul_nonneg hd.1 (by omega)
    have h2 : d * 256 ^ r.length ≤ 255 * 256 ^ r.length := Int.mul_le_mul_of_nonneg_right (by omega) (by omega)
    omega
theorem be_mod (k : Nat) : ∀ (x c : Int), be k (c * 256 ^ k + x) = be k x := by
  induction k with
  | zero => intro x c; rfl
  | succ k ih =>
    intro x c
    show (_ :: _) = (_ :: _)
    have e : c * 256 ^ (k + 1) + x = c * 256 * 256 ^ k + x := by rw [pow_s, Int.mul_assoc, Int.mul_comm (256 ^ k) 256]
    rw [e, ih x (c * 256), Int.mul_comm (c * 256), Int.add_comm, Int.add_mul_ediv_left _ _ (by have := pow_pos' k; omega)]
    congr 1
    omega
theorem be_val (l : List Int) (h : By l) : be l.length (val l) = l := by
  induction l with
  | nil => rfl
  | cons d r ih =>
    have hd := h.head
    have b := val_bd r h.tail
    rw [val_cons, List.length_cons]
    show (_ :: _) = _
    rw [be_mod, ih h.tail, Int.add_comm, Int.mul_comm d, Int.add_mul_ediv_left _ _ (by have := pow_pos' r.length; omega), Int.ediv_eq_zero_of_lt b.1 b.2]
    congr 1
    omega
/-- No nought ahead. -/
abbrev nz (d : List Int) : Prop := d.headD 1 ≠ 0
theorem nb_val (d : List Int) (h : By d) (h8 : d.length ≤ 8) (hz : nz d) : nb (val d) = d.length := by
  have b := val_bd d h
  refine nb_is _ _ b.1 h8 b.2 ?_
  match d, h, hz with
  | [], _, _ => exact .inl rfl
  | a :: r, h, hz =>
    right
    have ha : 1 ≤ a := by
      have := h.head
      have : a ≠ 0 := hz
      omega
    have hr := (val_bd r h.tail).1
    have hp := pow_pos' r.length
    rw [val_cons, List.length_cons]
    have : 1 * 256 ^ r.length ≤ a * 256 ^ r.length := Int.mul_le_mul_of_nonneg_right ha (by omega)
    simp only [Nat.add_sub_cancel]
    omega
theorem nz_of_nb (d : List Int) (h : By d) (hn : nb (val d) = d.length) : nz d := by
  match d, h, hn with
  | [], _, _ => exact (by decide : (1 : Int) ≠ 0)
  | a :: r, h, hn =>
    intro ha
    have ha : a = 0 := ha
    subst ha
    have b := val_bd r h.tail
    rw [val_cons, Int.zero_mul, Int.zero_add, List.length_cons] at hn
    rcases nb_lo (val r) with h0 | h1
    · omega
    · rw [hn, Nat.add_sub_cancel] at h1
      omega
theorem num_val (d : List Int) (h : By d) (h8 : d.length ≤ 8) (hz : nz d) : num (val d) = (d.length : Int) :: d := by
  unfold num
  rw [nb_val d h h8 hz, be_val d h]
theorem num_val_iff (d : List Int) (h : By d) (h8 : d.length ≤ 8) : num (val d) = (d.length : Int) :: d ↔ nz d := by
  refine ⟨fun e => nz_of_nb d h ?_, num_val d h h8⟩
  have := congrArg List.length e
  rw [num_len] at this
  simpa using this
/-- The number that bytes begin with, and how many these are. -/
def getNum : List Int → Option (Int × Nat)
  | [] => none
  | c :: r => if 8 < c ∨ r.length < c.toNat ∨ ¬ nz (r.take c.toNat) then none else some (val (r.take c.toNat), c.toNat + 1)
theorem getNum_cons (c : Int) (r : List Int) : getNum (c :: r) = if 8 < c ∨ r.length < c.toNat ∨ ¬ nz (r.take c.toNat) then none else some (val (r.take c.toNat), c.toNat + 1) := rfl
theorem pow8 (k : Nat) (h : k ≤ 8) : (256 : Int) ^ k ≤ 18446744073709551616 := by
  have h8 : k = 0 ∨ k = 1 ∨ k = 2 ∨ k = 3 ∨ k = 4 ∨ k = 5 ∨ k = 6 ∨ k = 7 ∨ k = 8 := by omega
  rcases h8 with rfl | rfl | rfl | rfl | rfl | rfl | rfl | rfl | rfl <;> decide
theorem getNum_some {b : List Int} (hb : By b) {x : Int} {n : Nat} (h : getNum b = some (x, n)) :
    0 ≤ x ∧ x < 18446744073709551616 ∧ 1 ≤ n ∧ n ≤ 9 ∧ n ≤ b.length ∧ num x = b.take n ∧ nb x + 1 = n := by
  match b, hb, h with
  | c :: r, hb, h =>
    rw [getNum_cons] at h
    split at h
    · cases h
    · rename_i hc
      simp only [Option.some.injEq, Prod.mk.injEq] at h
      obtain ⟨rfl, rfl⟩ := h
      have hc0 := hb.head
      have hd : By (r.take c.toNat) := hb.tail.take _
      have hl : (r.take c.toNat).length = c.toNat := by rw [List.length_take]; omega
      have bd := val_bd _ hd
      have hp := pow8 c.toNat (by omega)
      rw [hl] at bd
      have hnz : nz (r.take c.toNat) := by
        rcases Decidable.em (nz (r.take c.toNat)) with h' | h'
        · exact h'
        · exact absurd (.inr (.inr h')) hc
      refine ⟨bd.1, by omega, by omega, by omega, by simp; omega, ?_, ?_⟩
      · rw [num_val _ hd (by omega) hnz, hl, List.take_succ_cons]
        congr 1
        omega
      · rw [nb_val _ hd (by omega) hnz, hl]
def text (t : List Int) : List Int := num t.length ++ t
theorem text_by {t : List Int} (h : By t) : By (text t) := (num_by _).append h
end Go.Proofs.Ytofalfaiamaapaa

namespace Go.Proofs.Ytofalfaiamaapaa
open Go.RowKit
/-- A slice value whose bytes 'l' lie in a block of the call's own, at 'N' or above. -/
def Own (N : Nat) (w : World) (v : Value) (l : List Int) : Prop := w.ownsRow N 5 1 v l.length (l.map (Value.int .u8))
/-- What is known of a slice value's room. -/
def CP (p : Option Addr) (len cap : Nat) : Prop := len ≤ cap ∧ cap ≤ maxLen ∧ (p = none → cap = 0)
/-- To stop a walk at an operation: 'refine Stop.at ?_' in its arm; 'unfold Stop' behind it. -/
def Stop (p : Prop) : Prop := p
theorem Stop.at {p : Prop} (h : Stop p) : p := h
theorem Own.mono {N N' : Nat} {w : World} {v : Value} {l : List Int} (h : Own N w v l) (hN : N' ≤ N) : Own N' w v l := ⟨h.1, h.2.imp id fun ⟨g, cap, cur, h1, h2, h3⟩ => ⟨g, cap, cur, h1, Nat.le_trans hN h2, h3⟩⟩
theorem Own.alloc {N : Nat} {w : World} {v : Value} {l : List Int} (h : Own N w v l) (o : Obj) : Own N (w.alloc o) v l := World.ownsRow.alloc h o
theorem Own.drew {N : Nat} {w : World} {v : Value} {l : List Int} (h : Own N w v l) : Own N w.drew v l := World.ownsRow.drew h
theorem Own.below {N : Nat} {w w' : World} {v : Value} {l : List Int} (h : Own N w v l) (hb : Below w.heap.size w w') : Own N w' v l := by
  refine ⟨h.1, ?_⟩
  rcases h.2 with hn | ⟨g, cap, cur, rfl, hb', hgg, rest⟩
  · exact .inl hn
  · refine .inr ⟨g, cap, cur, rfl, hb', ?_, rest⟩
    rw [hb.block g (Array.getElem?_eq_some_iff.1 hgg).1]
    exact hgg
theorem Own.open {N : Nat} {w : World} {v : Value} {l : List Int} (h : Own N w v l) (hl : By l) : ∃ p cap, v = .slice p l.length cap ∧ BS w p l.length l ∧ CP p l.length cap := by
  have h0 := h
  obtain ⟨_, h2⟩ := h
  rcases h2 with ⟨rfl, h2⟩ | ⟨g, cap, cur, rfl, hb, hg, hc1, hc2, hs, ht⟩
  · exact ⟨none, 0, by rw [h2], ⟨rfl, by rw [h2]; decide, hl, .inl h2⟩, by omega, by decide, fun _ => rfl⟩
  · refine ⟨some ⟨g, 0, none⟩, cap, rfl, ⟨rfl, by omega, hl, .inr ⟨g, 0, rfl, fun i hi => ?_⟩⟩, hc1, hc2, fun h => by cases h⟩
    rw [Nat.zero_add, World.ownsRow.cellAt h0 i (by omega)]
    simp [List.getD_eq_getElem?_getD, hi]
theorem Own.made (w : World) (N g : Nat) (hg : g = w.heap.size) (hN : N ≤ w.heap.size) : Own N (w.alloc (.cells #[] 5)) (.slice (some ⟨g, 0, none⟩) 0 0) [] := by
  subst hg; exact World.ownsRow_made w #[] 0 hN (by decide) rfl
theorem Own.madeN (w : World) (N g : Nat) (hg : g = w.heap.size) (hN : N ≤ w.heap.size) (C : Array Value) (c : Nat) (hC : C.size = c) (hc : c ≤ maxLen) : Own N (w.alloc (.cells C 5)) (.slice (some ⟨g, 0, none⟩) 0 c) [] := by
  subst hg; exact World.ownsRow_made w C c hN hc (by omega)
theorem Own.lit (w : World) (N g : Nat) (hg : g = w.heap.size) (hN : N ≤ w.heap.size) (l : List Int) (C : Array Value) (hC : C = (l.map (Value.int .u8)).toArray) (n : Nat) (hn : n = l.length) (hl : l.length ≤ maxLen) :
    Own N (w.alloc (.cells C 5)) (.slice (some ⟨g, 0, none⟩) n n) l := by
  subst hn hC hg
  exact ⟨by simp, .inr ⟨w.heap.size, l.length, (l.map (Value.int .u8)).toArray, rfl, hN, heap_alloc_new w _, Nat.le_refl _, hl, by simp, by rw [List.take_of_length_le] <;> simp⟩⟩
theorem Own.one (w : World) (N g : Nat) (hg : g = w.heap.size) (hN : N ≤ w.heap.size) (x : Int) : Own N (w.alloc (.cells #[.int .u8 x] 5)) (.slice (some ⟨g, 0, none⟩) 1 1) [x] :=
  Own.lit w N g hg hN [x] _ rfl 1 rfl (by simp [maxLen])
theorem BS.below {w w' : World} {p : Option Addr} {len : Nat} {l : List Int} (h : BS w p len l) (hb : Below w.heap.size w w') : BS w' p len l := h.ext ((Ext.refl w).below hb)
theorem BS.alloc {w : World} {p : Option Addr} {len : Nat} {l : List Int} (h : BS w p len l) (o : Obj) : BS (w.alloc o) p len l := h.ext ((Ext.refl w).alloc o)
theorem BS.one (w : World) (g : Nat) (hg : g = w.heap.size) (x : Int) (h0 : 0 ≤ x) (h1 : x < 256) : BS (w.alloc (.cells #[.int .u8 x] 5)) (some ⟨g, 0, none⟩) 1 [x] :=
  BS.new w g hg [x] _ rfl _ 1 rfl (by decide) (By.cons h0 h1 By.nil)
theorem CP.some {a : Addr} {n c : Nat} (h : n ≤ c) (hc : c ≤ maxLen) : CP (some a) n c := ⟨h, hc, fun h => by cases h⟩
theorem BS.nil (w : World) (p : Option Addr) : BS w p 0 [] := ⟨rfl, by decide, By.nil, .inl rfl⟩
theorem Try.infoU8 : (Try.prog.info? 5).map (fun i => (i.zero, i.size, i.bytes)) = some (some (.int .u8 0), 1, 1) := by kernel_rfl
/-- 'append(v, x...)', 'v' the call's own. -/
theorem append_bytes {w : World} {ops : Array Oper} {rest : List Oper} {o : Oper} {a : Act} {Q : Exit → Act → World → Prop} (hgd : o.guard = none) (s x : Operand)
    (ho : o.op = .call { callee := .builtin .append, args := #[s, x], argTypes := #[22, 22] })
    (N : Nat) (v : Value) (l m : List Int) (hs : a.eval s = v) (hown : Own N w v l) (p : Option Addr) (len cap : Nat) (hx : a.eval x = .slice p len cap) (hp : p = none → cap = 0) (hB : BS w p len m)
    (hbig : l.length + m.length ≤ 140737488355328) (hN : N ≤ w.heap.size)
    (h : ∀ v' w', Own N w' v' (l ++ m) → w.grownBy w' v.ownBlock → (∀ w0, Below N w0 w → Below N w0 w') → wpList Try.prog ops Q rest (a.put o.dst v') w') : wpList Try.prog ops Q (o :: rest) a w := by
  obtain ⟨i0, hi, hz0, hz1, hz2⟩ := info_parts Try.infoU8
  obtain ⟨g1, g2, g3, g4⟩ := hB
  rcases p with _ | ad
  · have hc := hp rfl
    have hl0 : len = 0 := by
      rcases g4 with h0 | ⟨b, off, hh, _⟩
      · exact h0
      · cases hh
    subst hc hl0
    obtain rfl : m = [] := List.eq_nil_of_length_eq_zero g1
    refine wpList_append_own_none hgd s x _ ho N 5 i0 1 Try.underlying22 hi v _ _ hs hown hx ?_
    refine h v w (by rw [List.append_nil]; exact hown) ⟨rfl, rfl, rfl, Nat.le_refl _, fun _ _ _ => rfl⟩ (fun _ h => h)
  · refine wpList_append_own w hgd s x 22 ho N 5 i0 (.int .u8 0) 1 1 Try.underlying22 hi hz0 hz1 hz2 rfl (by decide) v _ _ hs hown ad len cap (m.map (Value.int .u8)) hx (by simp [g1]) ?_ ?_ (by rw [← g1]; unfold maxLen; omega) (by rw [← g1]; omega) hN ?_
    · intro j u hj
      rw [List.getElem?_map, Option.map_eq_some_iff] at hj
      obtain ⟨y, hy, rfl⟩ := hj
      obtain ⟨hj1, hx2⟩ := List.getElem?_eq_some_iff.1 hy
      rcases g4 with h0 | ⟨b, off, hh, hc⟩
      · omega
      · cases hh
        have h1 := hc j (by omega)
        have h2 : m.getD j 0 = y := by simp [List.getD_eq_getElem?_getD, hy]
        rw [h2] at h1
        have h3 : (⟨b, off, none⟩ : Addr).add j = ⟨b, off + j, none⟩ := by
          by_cases hj0 : j = 0
          · subst hj0; simp [Addr.add]
          · simp [Addr.add, hj0]
        rw [h3]
        exact h1
    · intro u hu
      rw [List.mem_map] at hu
      obtain ⟨y, _, rfl⟩ := hu
      rfl
    · intro v' w' h1 h2 _
      refine h v' w' ?_ h2 (fun w0 hb => hb.grown h2 hN (fun j hj => (World.ownsRow.lt hown j hj).1))
      have e : l.length + len = (l ++ m).length := by rw [List.length_append, g1]
      rw [e, ← List.map_append] at h1
      exact h1
end Go.Proofs.Ytofalfaiamaapaa

namespace Go.Proofs.Ytofalfaiamaapaa
open Go.RowKit
set_option linter.unusedVariables false
/-- A slice value's numbers. -/
def NS (w : World) (a : Option Addr) (n : Nat) (l : List Int) : Prop :=
  l.length = n ∧ n ≤ maxLen ∧ (n = 0 ∨ ∃ b off, a = some ⟨b, off, none⟩ ∧ ∀ i, i < n → w.cell? ⟨b, off + i, none⟩ = some (.int .i64 (l.getD i 0)))
/-- A slice value whose numbers lie in a block of the call's own, at 'N' or above. -/
def OwnN (N : Nat) (w : World) (v : Value) (l : List Int) : Prop := w.ownsRow N 3 1 v l.length (l.map (Value.int .i64))
theorem NS.ext {w w' : World} {a : Option Addr} {n : Nat} {l : List Int} (h : NS w a n l) (hx : Ext w w') : NS w' a n l := by
  obtain ⟨h1, h2, h4⟩ := h
  refine ⟨h1, h2, ?_⟩
  rcases h4 with h0 | ⟨b, off, ha, hc⟩
  · exact .inl h0
  · exact .inr ⟨b, off, ha, fun i hi => hx _ _ (hc i hi)⟩
theorem NS.below {w w' : World} {p : Option Addr} {len : Nat} {l : List Int} (h : NS w p len l) (hb : Below w.heap.size w w') : NS w' p len l := h.ext ((Ext.refl w).below hb)
theorem NS.alloc {w : World} {p : Option Addr} {len : Nat} {l : List Int} (h : NS w p len l) (o : Obj) : NS (w.alloc o) p len l := h.ext ((Ext.refl w).alloc o)
theorem NS.drew {w : World} {a : Option Addr} {n : Nat} {l : List Int} (h : NS w a n l) : NS w.drew a n l := h
theorem NS.nil (w : World) (p : Option Addr) : NS w p 0 [] := ⟨rfl, by decide, .inl rfl⟩
theorem NS.new (w : World) (g : Nat) (hg : g = w.heap.size) (l : List Int) (C : Array Value) (hC : C = (l.map (Value.int .i64)).toArray) (t : TypeId) (fr : Nat × Nat) (n : Nat) (hn : l.length = n) (hmax : n ≤ maxLen) :
    NS (w.alloc (.cells C t fr)) (some ⟨g, 0, none⟩) n l := by
  subst hg hC
  refine ⟨hn, hmax, .inr ⟨_, 0, rfl, fun i hi => ?_⟩⟩
  rw [World.cell?_alloc_mark]
  subst hn
  simp [List.getD_eq_getElem?_getD, hi]
theorem NS.head {w : World} {a : Option Addr} {len : Nat} {l : List Int} (hB : NS w a len l) (h : Nat) (h2 : h ≤ len) : NS w a h (l.take h) := by
  obtain ⟨g1, g2, g4⟩ := hB
  refine ⟨by rw [List.length_take]; omega, by omega, ?_⟩
  rcases Nat.eq_zero_or_pos h with h0 | hp
  · exact .inl h0
  · rcases g4 with h0 | ⟨b, off, rfl, hc⟩
    · omega
    · refine .inr ⟨b, off, rfl, fun t ht => ?_⟩
      have h4 : (l.take h).getD t 0 = l.getD t 0 := by simp [List.getD_eq_getElem?_getD, ht]
      rw [h4]
      exact hc t (by omega)
theorem OwnN.mono {N N' : Nat} {w : World} {v : Value} {l : List Int} (h : OwnN N w v l) (hN : N' ≤ N) : OwnN N' w v l := ⟨h.1, h.2.imp id fun ⟨g, cap, cur, h1, h2, h3⟩ => ⟨g, cap, cur, h1, Nat.le_trans hN h2, h3⟩⟩
theorem OwnN.alloc {N : Nat} {w : World} {v : Value} {l : List Int} (h : OwnN N w v l) (o : Obj) : OwnN N (w.alloc o) v l := World.ownsRow.alloc h o
theorem OwnN.drew {N : Nat} {w : World} {v : Value} {l : List Int} (h : OwnN N w v l) : OwnN N w.drew v l := World.ownsRow.drew h
theorem OwnN.below {N : Nat} {w w' : World} {v : Value} {l : List Int} (h : OwnN N w v l) (hb : Below w.heap.size w w') : OwnN N w' v l := by
  refine ⟨h.1, ?_⟩
  rcases h.2 with hn | ⟨g, cap, cur, rfl, hb', hgg, rest⟩
  · exact .inl hn
  · refine .inr ⟨g, cap, cur, rfl, hb', ?_, rest⟩
    rw [hb.block g (Array.getElem?_eq_some_iff.1 hgg).1]
    exact hgg
theorem OwnN.nil (N : Nat) (w : World) : OwnN N w (.slice none 0 0) [] := ⟨rfl, .inl ⟨rfl, rfl⟩⟩
theorem OwnN.open {N : Nat} {w : World} {v : Value} {l : List Int} (h : OwnN N w v l) : ∃ p cap, v = .slice p l.length cap ∧ NS w p l.length l ∧ CP p l.length cap := by
  have h0 := h
  obtain ⟨_, h2⟩ := h
  rcases h2 with ⟨rfl, h2⟩ | ⟨g, cap, cur, rfl, hb, hg, hc1, hc2, hs, ht⟩
  · exact ⟨none, 0, by rw [h2], ⟨rfl, by rw [h2]; decide, .inl h2⟩, by omega, by decide, fun _ => rfl⟩
  · refine ⟨some ⟨g, 0, none⟩, cap, rfl, ⟨rfl, by omega, .inr ⟨g, 0, rfl, fun i hi => ?_⟩⟩, hc1, hc2, fun h => by cases h⟩
    rw [Nat.zero_add, World.ownsRow.cellAt h0 i (by omega)]
    simp [List.getD_eq_getElem?_getD, hi]
theorem OwnN.made (w : World) (N g : Nat) (hg : g = w.heap.size) (hN : N ≤ w.heap.size) : OwnN N (w.alloc (.cells #[] 3)) (.slice (some ⟨g, 0, none⟩) 0 0) [] := by
  subst hg; exact World.ownsRow_made w #[] 0 hN (by decide) rfl
theorem NS.one (w : World) (g : Nat) (hg : g = w.heap.size) (x : Int) : NS (w.alloc (.cells #[.int .i64 x] 3)) (some ⟨g, 0, none⟩) 1 [x] :=
  NS.new w g hg [x] _ rfl _ _ 1 rfl (by decide)
end Go.Proofs.Ytofalfaiamaapaa

namespace Go.Proofs.Ytofalfaiamaapaa
open Go.RowKit
set_option linter.unusedVariables false
theorem retB {a b : Bool} (h : a = b) : Ending.returned (.bool a) = .returned (.bool b) := by rw [h]
end Go.Proofs.Ytofalfaiamaapaa

namespace Go.Proofs.Ytofalfaiamaapaa
open Go.RowKit
set_option linter.unusedVariables false
theorem bel1 (w : World) (A : Obj) : Below w.heap.size w (w.alloc A) := (Below.refl _ _).alloc (Nat.le_refl _) _
theorem bel2 (w : World) (A B : Obj) : Below w.heap.size w ((w.alloc A).alloc B) := (bel1 w A).alloc (by simp) _
end Go.Proofs.Ytofalfaiamaapaa

namespace Go.Proofs.Ytofalfaiamaapaa
open Go.RowKit
set_option linter.unusedVariables false
theorem bel_next {w w1 w2 : World} (h1 : Below w.heap.size w w1) (h2 : Below w1.heap.size w1 w2) : Below w.heap.size w w2 := h1.trans (h2.mono h1.size)
end Go.Proofs.Ytofalfaiamaapaa

namespace Go.Proofs.Ytofalfaiamaapaa
open Go.RowKit
set_option linter.unusedVariables false
theorem set1 {W0 W : World} {B g : Nat} {cur : Array Value} {t : TypeId} (hg : W.heap[g]? = some (.cells cur t (0, 0))) (hb : Below B W0 W) (hB : B ≤ g) (i : Nat) (v : Value) :
    (W.setCell ⟨g, i, none⟩ v).heap[g]? = some (.cells (cur.setIfInBounds i v) t (0, 0)) ∧ Below B W0 (W.setCell ⟨g, i, none⟩ v) := by
  refine ⟨?_, hb.setCell hB _⟩
  simp [World.setCell, Array.getElem?_modify, hg]
end Go.Proofs.Ytofalfaiamaapaa

namespace Go.Proofs.Ytofalfaiamaapaa
open Go.RowKit Go.ChangeShapes Go.WideShapes
set_option linter.unusedVariables false
/-- A clock that came in. -/
def InN (w : World) (v : Value) : Prop := ∃ a len cap l, v = .slice a len cap ∧ NS w a len l ∧ CP a len cap
theorem ns_of_cells {w : World} {x : Addr} {len cap : Nat} {zs : List Int} (hl : len ≤ cap) (hm : cap ≤ maxLen) (hz : zs.length = cap) (hcell : ∀ i, i < cap → w.cell? (x.add i) = some (.int .i64 (zs.getD i 0))) :
    NS w (some x) len (zs.take len) := by
  refine ⟨by rw [List.length_take]; omega, by omega, ?_⟩
  rcases Nat.eq_zero_or_pos len with h0 | hp
  · exact .inl h0
  · obtain ⟨b, off, spot⟩ := x
    have hspot : spot = none := by simpa [Addr.add] using World.cell?_spot (hcell 0 (by omega))
    subst hspot
    refine .inr ⟨b, off, rfl, fun i hi => ?_⟩
    have h1 := hcell i (by omega)
    have h2 : (zs.take len).getD i 0 = zs.getD i 0 := by simp [List.getD_eq_getElem?_getD, hi]
    rw [h2]
    by_cases hi0 : i = 0
    · subst hi0; simpa [Addr.add] using h1
    · simpa [Addr.add, hi0] using h1
end Go.Proofs.Ytofalfaiamaapaa

namespace Go.Proofs.Ytofalfaiamaapaa
open Go.RowKit
set_option linter.unusedVariables false
theorem bcell {u W : World} (hb : Below u.heap.size u W) {p : Addr} {v : Value} (h : u.cell? p = some v) : W.cell? p = some v := by
  rw [hb.cell (World.block_lt_of_cell? u _ h)]; exact h
end Go.Proofs.Ytofalfaiamaapaa

namespace Go.Proofs.Ytofalfaiamaapaa
open Go.RowKit
set_option linter.unusedVariables false
theorem takeInH {P : Program} {md : Region.Mode} {ops : Array Oper} {Q : Exit → Act → World → Prop} {S : World → Prop} (i d : Nat) (v : Value) {oi : Oper} {fuel : Nat} {listed : Array Bool} {a : Act} {w : World} (hi : ops[i]? = some oi) (hd : oi.dst = some d)
    (hs : Region.noSelect ops = true) (hf : Region.free md ops listed i = true) (hr : (Region.ready md ops listed).contains i = true)
    (hQ : ∀ c a w, Q (.panic c) (a.put oi.dst v) w → Q (.panic c) a w) (hw : Region.wanted oi (yielded ops a.tmps) = true) (hS : S w) (hy : ∀ w, S w → (execOp a.eval oi).run P w = .ok (.value v) w)
    (h : wpAnyH P md ops Q S fuel (listed.setIfInBounds i true) (a.put (some d) v) w) : wpAnyH P md ops Q S (fuel + 1) listed a w :=
  wpAnyH_take hi hs hf hr hQ (Or.inl ⟨hw, hy⟩) hS (by rw [hd]; exact h)
theorem takeNoH {P : Program} {md : Region.Mode} {ops : Array Oper} {Q : Exit → Act → World → Prop} {S : World → Prop} (i d : Nat) {oi : Oper} {fuel : Nat} {listed : Array Bool} {a : Act} {w : World} (hi : ops[i]? = some oi) (hd : oi.dst = some d)
    (hs : Region.noSelect ops = true) (hf : Region.free md ops listed i = true) (hr : (Region.ready md ops listed).contains i = true)
    (hQ : ∀ c a w, Q (.panic c) (a.put oi.dst undef) w → Q (.panic c) a w) (hw : Region.wanted oi (yielded ops a.tmps) = false) (hS : S w)
    (h : wpAnyH P md ops Q S fuel (listed.setIfInBounds i true) (a.put (some d) undef) w) : wpAnyH P md ops Q S (fuel + 1) listed a w :=
  wpAnyH_take hi hs hf hr hQ (Or.inr ⟨hw, rfl⟩) hS (by rw [hd]; exact h)
/-- Draws and new blocks alone. -/
def Gr (u W : World) : Prop := ∃ (q : Nat) (os : Array Obj), W = Sort.grow (u.drewN q) os
theorem Gr.refl (u : World) : Gr u u := ⟨0, #[], by rw [Sort.grow_empty]; rfl⟩
theorem Gr.drew {u W : World} (h : Gr u W) : Gr u W.drew := by
  obtain ⟨q, os, rfl⟩ := h
  exact ⟨q + 1, os, by rw [Sort.drew_grow]; rfl⟩
theorem Gr.alloc {u W : World} (h : Gr u W) (o : Obj) : Gr u (W.alloc o) := by
  obtain ⟨q, os, rfl⟩ := h
  exact ⟨q, os ++ #[o], by rw [Sort.alloc_eq_grow, Sort.grow_grow]⟩
theorem Gr.trans {a b c : World} (h : Gr a b) (k : Gr b c) : Gr a c := by
  obtain ⟨q, os, rfl⟩ := h
  obtain ⟨q', os', rfl⟩ := k
  refine ⟨q + q', os ++ os', ?_⟩
  rw [← Sort.grow_grow, ← World.drewN_drewN]
  rfl
theorem Gr.bel {u W : World} (h : Gr u W) : Below u.heap.size u W := by
  obtain ⟨q, os, rfl⟩ := h
  exact ⟨rfl, rfl, rfl, by simp [World.drewN], fun k hk => Sort.heap_grow_old (u.drewN q) os hk⟩
theorem cell_new (w : World) (C : Array Value) (t : TypeId) (g : Nat) (hg : g = w.heap.size) (i : Nat) (v : Value) (h : C[i]? = some v) : (w.alloc (.cells C t)).cell? ⟨g, i, none⟩ = some v := by
  subst hg; rw [World.cell?_alloc_mark]; exact h
theorem cell_old {w : World} (o : Obj) {p : Addr} {v : Value} (h : w.cell? p = some v) : (w.alloc o).cell? p = some v := bcell (bel1 w o) h
end Go.Proofs.Ytofalfaiamaapaa

namespace Go.Proofs.Ytofalfaiamaapaa
open Go.RowKit Go.Lib Go.Sort
set_option linter.unusedVariables false
theorem results_cell_tmp {P : Program} {fn : Func} {p q : Tmp} {ty : TypeId} (h : fn.results = #[.cell p ty, .tmp q]) (tmps : Array Value) (w : World) (g : Nat) (t : TypeId) (cs : Array Value) (fr : Nat × Nat) (d : TypeDesc) (v : Value)
    (hp : tmps.getD p undef = .pointer (some ⟨g, 0, none⟩)) (hq : tmps.getD q undef = v) (hg : w.heap[g]? = some (.cells cs t fr))
    (hu : P.underlying ty = some d) (hd : (match d with | .struct _ | .array _ _ => true | _ => false) = true) (hi : (P.info? ty).map (·.size) = some cs.size) :
    (results fn tmps).run P w = .ok (.tuple #[.agg cs, v]) w := by
  have hp' : tmps[p]?.getD undef = .pointer (some ⟨g, 0, none⟩) := by simpa using hp
  have hq' : tmps[q]?.getD undef = v := by simpa using hq
  simp [results, h, hp', hq', asAddr, run_loadVar_row w g t ty cs fr d hg hu hd hi]
theorem OwnN.ns {N : Nat} {w : World} {p : Option Addr} {n cap : Nat} {l : List Int} (h : OwnN N w (.slice p n cap) l) : NS w p n l ∧ CP p n cap := by
  obtain ⟨p', c', he, h1, h2⟩ := h.open
  cases he
  exact ⟨h1, h2⟩
theorem OwnN.blk {N : Nat} {w : World} {p : Option Addr} {n cap : Nat} {l : List Int} (h : OwnN N w (.slice p n cap) l) (a : Addr) (ha : p = some a) : N ≤ a.block := by
  subst ha; exact (World.ownsRow.lt h a.block rfl).1
theorem NS.set {w : World} {p : Option Addr} {n : Nat} {l : List Int} (h : NS w p n l) (q : Addr) (v : Value) (hp : ∀ a, p = some a → a.block ≠ q.block) : NS (w.setCell q v) p n l := by
  obtain ⟨h1, h2, h4⟩ := h
  refine ⟨h1, h2, ?_⟩
  rcases h4 with h0 | ⟨b, off, rfl, hc⟩
  · exact .inl h0
  · have hb : b ≠ q.block := hp _ rfl
    exact .inr ⟨b, off, rfl, fun i hi => by rw [World.cell?_setCell_far _ _ _ _ (fun e => hb e.symm)]; exact hc i hi⟩
end Go.Proofs.Ytofalfaiamaapaa

namespace Go.Proofs.Ytofalfaiamaapaa
open Go.RowKit
set_option linter.unusedVariables false
theorem NS.set0 {w : World} {p : Option Addr} {n : Nat} {l : List Int} (h : NS w p n l) (q : Addr) (v : Value) (hp : n = 0 ∨ ∀ a, p = some a → a.block ≠ q.block) : NS (w.setCell q v) p n l := by
  rcases hp with h0 | hp
  · exact ⟨h.1, h.2.1, .inl h0⟩
  · exact h.set q v hp
theorem NS.far {w : World} {p : Option Addr} {n : Nat} {l : List Int} (h : NS w p n l) : n = 0 ∨ ∀ a, p = some a → a.block < w.heap.size := by
  rcases Nat.eq_zero_or_pos n with h0 | hp
  · exact .inl h0
  · rcases h.2.2 with h0 | ⟨b, off, rfl, hc⟩
    · exact .inl h0
    · refine .inr fun a ha => ?_
      cases ha
      have := World.block_lt_of_cell? w _ (hc 0 hp)
      exact this
theorem NS.grown {w w' : World} {p : Option Addr} {n : Nat} {l : List Int} {row : Option Nat} (h : NS w p n l) (hg : w.grownBy w' row) (hp : n = 0 ∨ ∀ a, p = some a → row ≠ some a.block) : NS w' p n l := by
  rcases Nat.eq_zero_or_pos n with h0 | hpos
  · exact ⟨h.1, h.2.1, .inl h0⟩
  · rcases hp with h0 | hp
    · omega
    · obtain ⟨h1, h2, h4⟩ := h
      refine ⟨h1, h2, ?_⟩
      rcases h4 with h0 | ⟨b, off, rfl, hc⟩
      · exact .inl h0
      · refine .inr ⟨b, off, rfl, fun i hi => ?_⟩
        have hlt := World.block_lt_of_cell? w _ (hc i hi)
        rw [World.cell?_of_block (w := w) (hg.block b hlt (fun e => hp _ rfl e.symm))]
        exact hc i hi
end Go.Proofs.Ytofalfaiamaapaa

namespace Go.Proofs.Ytofalfaiamaapaa
open Go.RowKit
set_option maxRecDepth 100000 in
theorem tab_all : ∀ y : Fin 256, Lib.len8tab.data[y.1]!.toNat ≤ 8 ∧ (Lib.len8tab.data[y.1]!.toNat = 0 ↔ y.1 = 0) := by decide +kernel
set_option maxRecDepth 100000 in
theorem tab_size : Lib.len8tab.size = 256 := by decide +kernel
theorem tab_get (y : Nat) (h : y < Lib.len8tab.size) : (Lib.len8tab[y]'h).toNat ≤ 8 ∧ ((Lib.len8tab[y]'h).toNat = 0 ↔ y = 0) := by
  have h' : y < 256 := by rw [← tab_size]; exact h
  have := tab_all ⟨y, h'⟩
  have e : Lib.len8tab[y]'h = Lib.len8tab.data[y]! := by
    have hd : y < Lib.len8tab.data.size := h
    rw [getElem!_pos Lib.len8tab.data y hd]; rfl
  rw [e]; exact this
theorem nb_way (j : Nat) (x : Int) (hx : 0 ≤ x) (hj : j ≤ 7) (h1 : 1 ≤ x / 256 ^ j) (h2 : x / 256 ^ j < 256) : nb x = j + 1 := by
  have hp := pow_pos' j
  refine nb_is x (j + 1) hx (by omega) ?_ (.inr ?_)
  · rw [pow_s, Int.mul_comm]
    have := (Int.ediv_lt_iff_lt_mul hp).1 h2
    exact this
  · rw [Nat.add_sub_cancel]
    have := (Int.le_ediv_iff_mul_le hp).1 h1
    omega
theorem len_fin (j : Nat) (x y : Int) (h : y.toNat < Lib.len8tab.size) (hx : 0 ≤ x) (hj : j ≤ 7) (hy : y = x / 256 ^ j) (h2 : y < 256) (hlo : j = 0 ∨ 1 ≤ y) :
    ∃ t : Nat, (Lib.len8tab[y.toNat]'h).toNat = t ∧ t ≤ 8 ∧ (8 * (j : Int) + t + 7) / 8 = nb x := by
  obtain ⟨g1, g2⟩ := tab_get y.toNat h
  refine ⟨_, rfl, g1, ?_⟩
  by_cases h0 : 1 ≤ y
  · rw [nb_way j x hx hj (by omega) (by omega)]
    have : (Lib.len8tab[y.toNat]'h).toNat ≠ 0 := fun e => by have := g2.1 e; omega
    omega
  · have hj0 : j = 0 := by omega
    subst hj0
    simp at hy
    subst hy
    have hx0 : y = 0 := by omega
    have : (Lib.len8tab[y.toNat]'h).toNat = 0 := g2.2 (by omega)
    rw [this, hx0]
    decide
theorem wrap_a (k t : Nat) (hk : k ≤ 56) (ht : t ≤ 8) : wrap64 ((k : Int) + wrap64 (t : Int)) = (k : Int) + t := by unfold wrap64; omega
theorem wrap_b (t : Nat) (ht : t ≤ 8) : wrap64 (wrap64 (t : Int)) = (t : Int) := by unfold wrap64; omega
set_option maxRecDepth 100000 in
set_option maxHeartbeats 4000000 in
theorem len64_any (x : Int) (w : World) (h0 : 0 ≤ x) (h1 : x < 18446744073709551616) :
    Calls Try.prog 70 #[.int .u64 x] w fun e w' => ∃ L : Int, e = .returned (.int .i64 L) ∧ 0 ≤ L ∧ L ≤ 64 ∧ (L + 7) / 8 = nb x ∧ w' = w := by
  have ts := tab_size
  by_cases c1 : 4294967296 ≤ x
  · by_cases c2 : 65536 ≤ x / 4294967296
    · by_cases c3 : 256 ≤ x / 4294967296 / 65536
      · obtain ⟨t, ht, ht8, hn⟩ := len_fin 7 x (x / 4294967296 / 65536 / 256) (by omega) h0 (by omega) (by omega) (by omega) (.inr (by omega))
        have A := hide (And.intro ht hn)
        clear ht hn
        go_enter Try.func70, Try.ntmps70
        go_wp2
        go_ret
        obtain ⟨ht, hn⟩ := unhide A
        refine ⟨_, rfl, ?_⟩
        erw [ht, wrap_a 56 t (by omega) ht8]
        exact ⟨by omega, by omega, hn, rfl⟩
      · obtain ⟨t, ht, ht8, hn⟩ := len_fin 6 x (x / 4294967296 / 65536) (by omega) h0 (by omega) (by omega) (by omega) (.inr (by omega))
        have A := hide (And.intro ht hn)
        clear ht hn
        go_enter Try.func70, Try.ntmps70
        go_wp2
        go_ret
        obtain ⟨ht, hn⟩ := unhide A
        refine ⟨_, rfl, ?_⟩
        erw [ht, wrap_a 48 t (by omega) ht8]
        exact ⟨by omega, by omega, hn, rfl⟩
    · by_cases c3 : 256 ≤ x / 4294967296
      · obtain ⟨t, ht, ht8, hn⟩ := len_fin 5 x (x / 4294967296 / 256) (by omega) h0 (by omega) (by omega) (by omega) (.inr (by omega))
        have A := hide (And.intro ht hn)
        clear ht hn
        go_enter Try.func70, Try.ntmps70
        go_wp2
        go_ret
        obtain ⟨ht, hn⟩ := unhide A
        refine ⟨_, rfl, ?_⟩
        erw [ht, wrap_a 40 t (by omega) ht8]
        exact ⟨by omega, by omega, hn, rfl⟩
      · obtain ⟨t, ht, ht8, hn⟩ := len_fin 4 x (x / 4294967296) (by omega) h0 (by omega) (by omega) (by omega) (.inr (by omega))
        have A := hide (And.intro ht hn)
        clear ht hn
        go_enter Try.func70, Try.ntmps70
        go_wp2
        go_ret
        obtain ⟨ht, hn⟩ := unhide A
        refine ⟨_, rfl, ?_⟩
        erw [ht, wrap_a 32 t (by omega) ht8]
        exact ⟨by omega, by omega, hn, rfl⟩
  · by_cases c2 : 65536 ≤ x
    · by_cases c3 : 256 ≤ x / 65536
      · obtain ⟨t, ht, ht8, hn⟩ := len_fin 3 x (x / 65536 / 256) (by omega) h0 (by omega) (by omega) (by omega) (.inr (by omega))
        have A := hide (And.intro ht hn)
        clear ht hn
        go_enter Try.func70, Try.ntmps70
        go_wp2
        go_ret
        obtain ⟨ht, hn⟩ := unhide A
        refine ⟨_, rfl, ?_⟩
        erw [ht, wrap_a 24 t (by omega) ht8]
        exact ⟨by omega, by omega, hn, rfl⟩
      · obtain ⟨t, ht, ht8, hn⟩ := len_fin 2 x (x / 65536) (by omega) h0 (by omega) (by omega) (by omega) (.inr (by omega))
        have A := hide (And.intro ht hn)
        clear ht hn
        go_enter Try.func70, Try.ntmps70
        go_wp2
        go_ret
        obtain ⟨ht, hn⟩ := unhide A
        refine ⟨_, rfl, ?_⟩
        erw [ht, wrap_a 16 t (by omega) ht8]
        exact ⟨by omega, by omega, hn, rfl⟩
    · by_cases c3 : 256 ≤ x
      · obtain ⟨t, ht, ht8, hn⟩ := len_fin 1 x (x / 256) (by omega) h0 (by omega) (by omega) (by omega) (.inr (by omega))
        have A := hide (And.intro ht hn)
        clear ht hn
        go_enter Try.func70, Try.ntmps70
        go_wp2
        go_ret
        obtain ⟨ht, hn⟩ := unhide A
        refine ⟨_, rfl, ?_⟩
        erw [ht, wrap_a 8 t (by omega) ht8]
        exact ⟨by omega, by omega, hn, rfl⟩
      · obtain ⟨t, ht, ht8, hn⟩ := len_fin 0 x (x) (by omega) h0 (by omega) (by omega) (by omega) (.inl rfl)
        have A := hide (And.intro ht hn)
        clear ht hn
        go_enter Try.func70, Try.ntmps70
        go_wp2
        go_ret
        obtain ⟨ht, hn⟩ := unhide A
        refine ⟨_, rfl, ?_⟩
        erw [ht, wrap_b t ht8]
        exact ⟨by omega, by omega, by simpa using hn, rfl⟩
end Go.Proofs.Ytofalfaiamaapaa

namespace Go.Proofs.Ytofalfaiamaapaa
open Go.RowKit
set_option linter.unusedVariables false
theorem ret_bool {a b : Bool} (h : a = b) : Ending.returned (.bool a) = .returned (.bool b) := by rw [h]
theorem take_eq {l m : List Int} (k : Nat) (hl : k < l.length) (hm : k < m.length) (h : l.take k = m.take k) (he : l.getD k 0 = m.getD k 0) : l.take (k + 1) = m.take (k + 1) := by
  rw [List.take_succ_eq_append_getElem hl, List.take_succ_eq_append_getElem hm, h]
  simp [List.getD_eq_getElem?_getD, hl, hm] at he
  rw [he]
set_option maxHeartbeats 400000 in
theorem bytes_any (a b : Option Addr) (n c m d : Nat) (l k : List Int) (w : World) (hA : BS w a n l) (hB : BS w b m k) :
    Calls Try.prog 36 #[.slice a n c, .slice b m d] w fun e w' => e = .returned (.bool (decide (l = k))) ∧ Below w.heap.size w w' := by
  obtain ⟨g1, g2, g3, g4⟩ := hA
  obtain ⟨h1, h2, h3, h4⟩ := hB
  have G1 := hide g1
  have H1 := hide h1
  have G4 := hide g4
  have H4 := hide h4
  unfold maxLen at g2 h2
  clear g1 h1 g3 h3 g4 h4
  by_cases hnm : n = m
  · subst hnm
    go_enter Try.func36, Try.ntmps36
    go_wp2
    go_loopw [5] (fun i wr => ∃ j : Nat, j ≤ n ∧ i = .int .i64 j ∧ Hid (l.take j = k.take j) ∧ Hid (Below w.heap.size w wr)) (fun i _ => n - (intOf i).toNat)
    case atStart => exact ⟨0, by omega, rfl, rfl, Below.refl _ _⟩
    case round =>
      obtain ⟨j, hj, rfl, hE, hW⟩ := hrel
      by_cases hlt : j < n
      · rcases G4.out with h0 | ⟨b1, o1, rfl, hc1⟩
        · omega
        rcases H4.out with h0 | ⟨b2, o2, rfl, hc2⟩
        · omega
        have q1 : wr.cell? ⟨b1, o1 + j, none⟩ = some (.int .u8 (l.getD j 0)) := by rw [hW.out.cell (World.block_lt_of_cell? w _ (hc1 j hlt))]; exact hc1 j hlt
        have q2 : wr.cell? ⟨b2, o2 + j, none⟩ = some (.int .u8 (k.getD j 0)) := by rw [hW.out.cell (World.block_lt_of_cell? w _ (hc2 j hlt))]; exact hc2 j hlt
        clear hc1 hc2 G4 H4
        have hE2 := fun he => hide (take_eq j (by rw [G1.out]; exact hlt) (by rw [H1.out]; exact hlt) hE.out he)
        have hN2 : ∀ he : l.getD j 0 ≠ k.getD j 0, Hid (¬ l = k) := fun he e => he (by rw [e])
        generalize l.getD j 0 = x at q1 hE2 hN2
        generalize k.getD j 0 = y at q2 hE2 hN2
        by_cases he : x = y
        · have hE3 := hE2 he
          subst he
          clear hN2 hE2
          go_wp2
          go_region
          go_wp2
          go_roundw
          case rel => exact ⟨j + 1, by omega, by go_num, hE3, hW.out.drew⟩
          case measure => simp [intOf]; omega
        · have hlk := hN2 he
          have he2 : (x != y) = true := by simpa using he
          clear hE2 hN2 he
          go_wp2
          go_region
          go_wp2
          go_ret
          exact ⟨ret_bool (by simp [hlk.out]), hW.out.drew⟩
      · have : j = n := by omega
        subst this
        have hlk : Hid (l = k) := by
          have := hE.out
          rw [List.take_of_length_le (by rw [G1.out]; exact Nat.le_refl _), List.take_of_length_le (by rw [H1.out]; exact Nat.le_refl _)] at this
          exact this
        go_wp2
        go_ret
        exact ⟨ret_bool (by simp [hlk.out]), hW.out⟩
  · have hne : ((n : Int) != (m : Int)) = true := by simp; omega
    have hlk : Hid (¬ l = k) := fun e => hnm (by rw [← G1.out, ← H1.out, e])
    go_enter Try.func36, Try.ntmps36
    go_wp2
    go_ret
    exact ⟨ret_bool (by simp [hlk.out]), Below.refl _ _⟩
end Go.Proofs.Ytofalfaiamaapaa

namespace Go.Proofs.Ytofalfaiamaapaa
open Go.RowKit
set_option linter.unusedVariables false
set_option maxHeartbeats 400000 in
theorem ahead_any (a : Option Addr) (n c : Nat) (l : List Int) (w : World) (hA : BS w a n l) :
    Calls Try.prog 67 #[.slice a n c] w fun e w' => e = .returned (.bool (decide (¬ nz l))) ∧ w' = w := by
  obtain ⟨g1, g2, g3, g4⟩ := hA
  unfold maxLen at g2
  by_cases hn : 0 < n
  · rcases g4 with h0 | ⟨b, o, rfl, hc⟩
    · omega
    have q := hc 0 hn
    rw [Nat.add_zero] at q
    have hz : Hid (decide (¬ nz l) = (l.getD 0 0 == 0)) := by
      rcases l with _ | ⟨x, r⟩
      · simp at g1; omega
      · simp [nz]; rfl
    generalize l.getD 0 0 = x at q hz
    clear hc g1 g3
    go_enter Try.func67, Try.ntmps67
    go_wp2
    go_ret
    exact ⟨ret_bool hz.out.symm, rfl⟩
  · have hn0 : n = 0 := by omega
    subst hn0
    obtain rfl : l = [] := List.eq_nil_of_length_eq_zero g1
    clear g3 g4 g1
    go_enter Try.func67, Try.ntmps67
    go_wp2
    go_ret
    exact ⟨ret_bool (by decide), rfl⟩
theorem val_take (l : List Int) (k : Nat) (h : k < l.length) : val (l.take (k + 1)) = val (l.take k) * 256 + l.getD k 0 := by
  rw [List.take_succ_eq_append_getElem h, val_snoc]
  simp [List.getD_eq_getElem?_getD, h]
theorem pow7 (k : Nat) (h : k ≤ 7) : (256 : Int) ^ k ≤ 72057594037927936 := by
  have h8 : k = 0 ∨ k = 1 ∨ k = 2 ∨ k = 3 ∨ k = 4 ∨ k = 5 ∨ k = 6 ∨ k = 7 := by omega
  rcases h8 with rfl | rfl | rfl | rfl | rfl | rfl | rfl | rfl <;> decide
theorem or64 (x y : Int) (hx0 : 0 ≤ x) (hx1 : x < 72057594037927936) (hy0 : 0 ≤ y) (hy1 : y < 256) : bits .or .u64 (x * 256) y = x * 256 + y := by
  obtain ⟨a, rfl⟩ := Int.eq_ofNat_of_zero_le hx0
  obtain ⟨b, rfl⟩ := Int.eq_ofNat_of_zero_le hy0
  have e : ((a : Int) * 256) = ((a * 256 : Nat) : Int) := by omega
  have h1 : (BitVec.ofInt 64 ((a * 256 : Nat) : Int)).toNat = a * 256 := by rw [BitVec.ofInt_natCast, BitVec.toNat_ofNat]; exact Nat.mod_eq_of_lt (by omega)
  have h2 : (BitVec.ofInt 64 (b : Int)).toNat = b := by rw [BitVec.ofInt_natCast, BitVec.toNat_ofNat]; exact Nat.mod_eq_of_lt (by omega)
  have h3 : a * 256 ||| b = a * 256 + b := by
    have := Nat.shiftLeft_add_eq_or_of_lt (i := 8) (b := b) (by omega) a
    rw [Nat.shiftLeft_eq] at this
    exact this.symm
  rw [e]
  show IntKind.u64.wrap ((BitVec.ofInt 64 ((a * 256 : Nat) : Int) ||| BitVec.ofInt 64 (b : Int)).toNat : Int) = _
  rw [BitVec.toNat_or, h1, h2, h3, IntKind.wrap_u64]
  omega
set_option maxHeartbeats 400000 in
theorem value_any (a : Option Addr) (n c : Nat) (l : List Int) (w : World) (hA : BS w a n l) (h8 : n ≤ 8) :
    Calls Try.prog 68 #[.slice a n c] w fun e w' => e = .returned (.int .u64 (val l)) ∧ w' = w := by
  obtain ⟨g1, g2, g3, g4⟩ := hA
  have G1 := hide g1
  have G3 := hide g3
  have G4 := hide g4
  clear g1 g2 g3 g4
  go_enter Try.func68, Try.ntmps68
  go_wp2
  go_loop [3, 8] (fun r i => ∃ (k : Nat) (x : Int), k ≤ n ∧ i = .int .i64 k ∧ r = .int .u64 x ∧ Hid (x = val (l.take k)) ∧ 0 ≤ x ∧ x < 18446744073709551616) (fun _ i => n - (intOf i).toNat)
  case atStart => exact ⟨0, 0, by omega, rfl, rfl, rfl, by omega, by omega⟩
  case round =>
    obtain ⟨k, x, hk, rfl, rfl, hx, hx0, hx1⟩ := hrel
    by_cases hlt : k < n
    · rcases G4.out with h0 | ⟨b, off, rfl, hc⟩
      · omega
      have q := hc k hlt
      have hb0 := (getD_byte G3.out k).1
      have hb1 := (getD_byte G3.out k).2
      have hv := hide (val_take l k (by rw [G1.out]; exact hlt))
      have hx7 : x < 72057594037927936 := by
        have h1 := (val_bd (l.take k) (By.take G3.out k)).2
        rw [← hx.out, List.length_take, G1.out] at h1
        have h2 := pow7 (min k n) (by omega)
        omega
      clear hc
      generalize l.getD k 0 = y at q hb0 hb1 hv
      go_wp2
      go_round
      case rel => exact ⟨k + 1, x * 256 + y, by omega, by go_num, by rw [or64 x y hx0 hx7 hb0 hb1], by rw [hx.out]; exact hv.out.symm, by omega, by omega⟩
      case measure => simp [intOf]; omega
    · have hkl : k = n := by omega
      subst hkl
      have hE : Hid (x = val l) := by have h2 := hx.out; rw [List.take_of_length_le (by rw [G1.out]; exact Nat.le_refl _)] at h2; exact h2
      go_wp2
      go_ret
      exact ⟨ret_int hE.out, rfl⟩
end Go.Proofs.Ytofalfaiamaapaa

namespace Go.Proofs.Ytofalfaiamaapaa
open Go.RowKit
set_option linter.unusedVariables false
theorem be_step (x : Int) (k : Nat) (h0 : 0 ≤ x) : be (k + 1) x = x / 2 ^ (8 * k) % 256 :: be k x := by
  have : (2 : Int) ^ (8 * k) = 256 ^ k := by rw [Int.pow_mul]; rfl
  rw [this]; rfl
theorem make_cap (c : Nat) (hc : c ≤ 1000000) : ∃ C : Array Value, C.size = c ∧ ∀ w : World, (Instr.makeSlice 22 (.int .i64 0) (.int .i64 (c : Int))).run Try.prog w = .ok (.slice (some ⟨w.heap.size, 0, none⟩) 0 c) (w.alloc (.cells C 5)) := by
  obtain ⟨i0, hi, hz0, hz1, hz2⟩ := info_parts Try.infoU8
  refine ⟨madeCells (Value.int .u8 0).cells (c * i0.size), ?_, fun w => ?_⟩
  · rw [size_madeCells, hz1]; simp
  · have h := run_make (P := Try.prog) w 22 5 i0 (.int .u8 0) Try.underlying22 hi hz0 .i64 .i64 0 (c : Int) (by omega) (by omega) (by rw [hz2]; omega) (by omega)
    simpa using h
set_option maxHeartbeats 1000000 in
set_option maxRecDepth 100000 in
theorem num_any (x : Int) (w : World) (h0 : 0 ≤ x) (h1 : x < 18446744073709551616) :
    Calls Try.prog 66 #[.int .u64 x] w fun e w' => ∃ v, e = .returned v ∧ Own w.heap.size w' v (num x) ∧ Below w.heap.size w w' := by
  have hnb := nb_le x
  obtain ⟨n, hn⟩ : ∃ n, n = nb x := ⟨_, rfl⟩
  rw [← hn] at hnb
  obtain ⟨C, hC, mk⟩ := make_cap (1 + n) (by omega)
  have mk : ∀ w : World, (Instr.makeSlice 22 (.int .i64 0) (.int .i64 (1 + (n : Int)))).run Try.prog w = .ok (.slice (some ⟨w.heap.size, 0, none⟩) 0 (1 + n)) (w.alloc (.cells C 5)) := fun w => by rw [← mk w]; congr 2
  have hNum : Hid (num x = (n : Int) :: be n x) := by rw [hn]; rfl
  have HN := hide hn
  go_enter Try.func66, Try.ntmps66
  go_wp2_with fail
  refine (len64_any x w h0 h1).mono ?_
  rintro e w1 ⟨L, rfl, hL0, hL1, hL, rfl⟩
  rw [← hn] at hL
  clear hn
  have hL2 : (L + 8 - 1).tdiv 8 = (n : Int) := by rw [Int.tdiv_eq_ediv_of_nonneg (by omega), ← hL]; congr 1; omega
  have hown0 := hide ((Own.madeN w1 w1.heap.size _ rfl (Nat.le_refl _) C (1 + n) hC (by unfold maxLen; omega)).alloc (.cells #[.int .u8 (n : Int)] 5))
  have hbs0 := hide (BS.one (w1.alloc (.cells C 5)) (w1.heap.size + 1) (by simp) (n : Int) (by omega) (by omega))
  go_wp2_with (at_builtin; refine Stop.at ?_)
  unfold Stop
  refine append_bytes rfl _ _ rfl w1.heap.size _ _ [(n : Int)] rfl hown0.out _ _ _ rfl (by intro h; cases h) hbs0.out (by simp) (by simp; omega) ?_
  intro v' w2 hown hgrow hbel
  have Hown := hide hown
  have Hbel := hide (hbel w1 (((Below.refl _ w1).alloc (Nat.le_refl _) _).alloc (by simp) _))
  clear hown hgrow hbel hown0 hbs0
  go_wp2
  go_loopw [4, 5] (fun v i wr => ∃ (m : Int) (j : Nat) (acc : List Int), i = .int .i64 m ∧ -1 ≤ m ∧ m < 8 ∧ Hid (m + 1 = j) ∧ Hid (acc ++ be j x = num x) ∧ Hid (Own w1.heap.size wr v acc) ∧ Hid (Below w1.heap.size w1 wr)) (fun _ i _ => (intOf i + 1).toNat)
  case atStart => exact ⟨(n : Int) - 1, n, [(n : Int)], rfl, by omega, by omega, by show (n : Int) - 1 + 1 = n; omega, hNum.out.symm, Hown.out, Hbel.out⟩
  case round =>
    obtain ⟨m, j, acc, rfl, hm0, hm8, hmj, hacc, hown, hbel⟩ := hrel
    by_cases hm : 0 ≤ m
    · obtain ⟨k, rfl⟩ := Int.eq_ofNat_of_zero_le hm
      have hjk : j = k + 1 := by have := hmj.out; omega
      subst hjk
      have hstep := hide (be_step x k h0)
      have hsz := hbel.out.size
      go_wp2_with (at_builtin; refine Stop.at ?_)
      unfold Stop
      have hl : acc.length + (k + 1) ≤ 9 := by have h := congrArg List.length hacc.out; rw [List.length_append, be_len, num_len, ← HN.out] at h; omega
      refine append_bytes rfl _ _ rfl w1.heap.size _ _ [x / 2 ^ (8 * k) % 256] rfl (hown.out.alloc _) _ _ _ rfl (by intro h; cases h) (BS.one wr _ rfl _ (by omega) (by omega)) (by simp; omega) (by simp; omega) ?_
      intro v2 w2 hown2 hgrow hbel2
      have Hown2 := hide hown2
      have Hbel2 := hide (hbel2 w1 (hbel.out.alloc (by omega) _))
      have hacc2 : Hid ((acc ++ [x / 2 ^ (8 * k) % 256]) ++ be k x = num x) := by rw [← hacc.out, hstep.out, List.append_assoc]; rfl
      clear hown2 hgrow hbel2 hown hbel hacc hstep
      go_wp2
      go_roundw
      case rel => exact ⟨(k : Int) - 1, k, _, rfl, by omega, by omega, by show (k : Int) - 1 + 1 = k; omega, hacc2, Hown2, Hbel2⟩
      case measure => simp [intOf]
    · have hj : j = 0 := by have := hmj.out; omega
      subst hj
      have hE : Hid (acc = num x) := by have := hacc.out; rw [show be 0 x = [] from rfl, List.append_nil] at this; exact this
      have hown2 : Hid (Own w1.heap.size wr u4 (num x)) := by rw [← hE.out]; exact hown
      clear hown
      go_wp2
      go_ret
      exact ⟨_, rfl, hown2.out, hbel.out⟩
theorem div_s (x : Int) (j : Nat) : x / 256 ^ (j + 1) = x / 256 ^ j / 256 := by rw [pow_s, Int.ediv_ediv_of_nonneg (Int.le_of_lt (pow_pos' j))]
theorem be_cons (x : Int) (j : Nat) : be (j + 1) x = x / 256 ^ j % 256 :: be j x := rfl
set_option maxHeartbeats 1000000 in
set_option maxRecDepth 100000 in
theorem refNum_any (x : Int) (w : World) (h0 : 0 ≤ x) (h1 : x < 18446744073709551616) :
    Calls Try.prog 41 #[.int .u64 x] w fun e w' => ∃ v, e = .returned v ∧ Own w.heap.size w' v (num x) ∧ Below w.heap.size w w' := by
  go_enter Try.func41, Try.ntmps41
  go_wp2
  go_loopw [0, 3] (fun u v wr => ∃ (j : Nat) (y : Int) (p : Option Addr) (cap : Nat), u = .int .u64 y ∧ 0 ≤ y ∧ y < 18446744073709551616 ∧ Hid (y = x / 256 ^ j) ∧ v = .slice p j cap ∧ Hid (p = none → cap = 0) ∧ Hid (BS wr p j (be j x)) ∧ Hid (Below w.heap.size w wr) ∧ Hid (j = 0 ∨ (256 : Int) ^ (j - 1) ≤ x) ∧ j ≤ 8) (fun u _ _ => (intOf u).toNat)
  case atStart => exact ⟨0, x, _, 0, rfl, h0, h1, by show x = x / 1; omega, rfl, fun _ => rfl, BS.nil _ _, (Below.refl _ _).alloc (Nat.le_refl _) _, .inl rfl, by omega⟩
  case round =>
    obtain ⟨j, y, p, cap, rfl, hy0, hy1, hy, rfl, hp, hbs, hbel, hlo, hj8⟩ := hrel
    have hsz := hbel.out.size
    by_cases hpos : 0 < y
    · have hxj : Hid ((256 : Int) ^ j ≤ x) := by
        have := hy.out
        have h1 : 1 ≤ x / 256 ^ j := by omega
        have := (Int.le_ediv_iff_mul_le (pow_pos' j)).1 h1
        show _ ≤ _
        omega
      have hj7 : j < 8 := by
        have h2 := hxj.out
        rcases Nat.lt_or_ge j 8 with h | h
        · exact h
        · have : j = 8 := by omega
          subst this
          omega
      have hcons := hide (be_cons x j)
      go_wp2_with (at_builtin; refine Stop.at ?_)
      unfold Stop
      refine append_bytes rfl _ _ rfl w.heap.size _ _ (be j x) rfl (Own.one wr w.heap.size _ rfl hsz (y % 256)) p j cap rfl hp.out (hbs.out.alloc _) (by rw [be_len]; simp; omega) (by simp; omega) ?_
      intro v2 w2 hown2 hgrow hbel2
      have Hbel2 := hide (hbel2 w (hbel.out.alloc (by omega) _))
      have hE : [y % 256] ++ be j x = be (j + 1) x := by rw [hcons.out, ← hy.out]; rfl
      rw [hE] at hown2
      obtain ⟨p2, cap2, rfl, hbs2, hcp2⟩ := Own.open hown2 (be_by _ _)
      rw [be_len] at hbs2 hcp2
      rw [be_len]
      have Hbs2 := hide hbs2
      have Hcp2 := hide hcp2.2.2
      clear hown2 hgrow hbel2 hbel hbs hbs2 hcp2 hE
      have hdiv : y / 256 = x / 256 ^ (j + 1) := by rw [div_s, ← hy.out]
      have Hdiv := hide hdiv
      clear hdiv
      go_wp2
      go_roundw
      case rel => exact ⟨j + 1, y / 256, p2, cap2, rfl, by omega, by omega, Hdiv, rfl, Hcp2, Hbs2, Hbel2, .inr hxj.out, by omega⟩
      case measure => simp [intOf]; omega
    · have hy00 : y = 0 := by omega
      subst hy00
      have hnb : Hid (nb x = j) := by
        refine nb_is x j h0 hj8 ?_ hlo.out
        have h2 := hy.out
        have h3 : x / 256 ^ j < 1 := by omega
        have := (Int.ediv_lt_iff_lt_mul (pow_pos' j)).1 h3
        omega
      have hE : Hid ([(j : Int)] ++ be j x = num x) := by unfold num; rw [hnb.out]; rfl
      go_wp2_with (at_builtin; refine Stop.at ?_)
      unfold Stop
      refine append_bytes rfl _ _ rfl w.heap.size _ _ (be j x) rfl (Own.one wr w.heap.size _ rfl hsz (j : Int)) p j cap rfl hp.out (hbs.out.alloc _) (by rw [be_len]; simp; omega) (by simp; omega) ?_
      intro v2 w2 hown2 hgrow hbel2
      have Hbel2 := hide (hbel2 w (hbel.out.alloc (by omega) _))
      rw [hE.out] at hown2
      have Hown2 := hide hown2
      clear hown2 hgrow hbel2
      go_wp2
      go_ret
      exact ⟨_, rfl, Hown2.out, Hbel2.out⟩
end Go.Proofs.Ytofalfaiamaapaa

namespace Go.Proofs.Ytofalfaiamaapaa
open Go.RowKit
set_option linter.unusedVariables false
theorem BS.cell0 {w : World} {a : Option Addr} {n : Nat} {x : Int} {l : List Int} (h : BS w a n (x :: l)) : ∃ b o, a = some ⟨b, o, none⟩ ∧ w.cell? ⟨b, o, none⟩ = some (.int .u8 x) ∧ 0 ≤ x ∧ x < 256 ∧ n = l.length + 1 := by
  obtain ⟨g1, g2, g3, g4⟩ := h
  rcases g4 with h0 | ⟨b, o, rfl, hc⟩
  · subst h0; simp at g1
  · have q := hc 0 (by rw [← g1]; simp)
    exact ⟨b, o, rfl, by simpa using q, (By.head g3).1, (By.head g3).2, by rw [← g1]; simp⟩
theorem BS.at {w : World} {b o n : Nat} {l : List Int} (h : BS w (some ⟨b, o, none⟩) n l) (i k : Nat) (hk : i + k ≤ n) : BS w (some ⟨b, o + i, none⟩) k ((l.drop i).take k) := by
  obtain ⟨g1, g2, g3, g4⟩ := h
  refine ⟨by rw [List.length_take, List.length_drop]; omega, by omega, By.take (By.drop g3 i) k, ?_⟩
  rcases Nat.eq_zero_or_pos k with h0 | hp
  · exact .inl h0
  · rcases g4 with h0 | ⟨b', o', hh, hc⟩
    · omega
    · cases hh
      refine .inr ⟨_, _, rfl, fun t ht => ?_⟩
      have h4 : ((l.drop i).take k).getD t 0 = l.getD (i + t) 0 := by simp [List.getD_eq_getElem?_getD, ht]
      rw [h4, Nat.add_assoc]
      exact hc (i + t) (by omega)
set_option maxHeartbeats 1000000 in
set_option maxRecDepth 100000 in
theorem getNum_any (a : Option Addr) (n c : Nat) (l : List Int) (w : World) (hA : BS w a n l) (hC : CP a n c) :
    Calls Try.prog 58 #[.slice a n c] w fun e w' => ((getNum l = none ∧ e = .returned (.tuple #[.int .u64 0, .int .i64 0, .int .i64 2])) ∨ ∃ (x : Int) (m : Nat), getNum l = some (x, m) ∧ e = .returned (.tuple #[.int .u64 x, .int .i64 (m : Int), .int .i64 0])) ∧ w' = w := by
  rcases l with _ | ⟨y, r⟩
  · have hn : n = 0 := by have := hA.1; simpa using this.symm
    subst hn
    go_enter Try.func58, Try.ntmps58
    go_wp2
    go_ret3
    exact ⟨.inl ⟨rfl, rfl⟩, rfl⟩
  · have HA := hide hA
    obtain ⟨b, o, rfl, q, hy0, hy1, hn⟩ := hA.cell0
    have hn0 : ((n : Int) == 0) = false := by simp; omega
    have hmax := hA.2.1
    unfold maxLen at hmax
    have hGN := hide (getNum_cons y r)
    obtain ⟨k, rfl⟩ := Int.eq_ofNat_of_zero_le hy0
    have hrl : r.length = n - 1 := by omega
    have Hrl := hide hrl
    have hnp : 0 < n := by omega
    clear hA hn hrl
    by_cases h8 : 8 < k
    · have h8' : (8 : Int) < k := by omega
      go_enter Try.func58, Try.ntmps58
      go_wp2
      go_ret3
      exact ⟨.inl ⟨by rw [hGN.out, if_pos (.inl h8')], rfl⟩, rfl⟩
    · by_cases hlen : n < 1 + k
      · have hlen' : (n : Int) < 1 + k := by omega
        go_enter Try.func58, Try.ntmps58
        go_wp2
        go_ret3
        exact ⟨.inl ⟨by rw [hGN.out, if_pos (.inr (.inl (by have := Hrl.out; simp; omega)))], rfl⟩, rfl⟩
      · have hlen' : ¬ (n : Int) < 1 + k := by omega
        have hcn := hC.1
        have hcm := hC.2.1
        unfold maxLen at hcm
        by_cases hc1 : c = 1
        · subst hc1
          have hn1 : n = 1 := by omega
          have hk0 : k = 0 := by omega
          subst hn1 hk0
          go_enter Try.func58, Try.ntmps58
          go_wp2_with fail
          refine (ahead_any _ 0 _ [] w (BS.nil _ _)).mono ?_
          rintro e w' ⟨rfl, rfl⟩
          go_wp2_with fail
          refine (value_any _ 0 _ [] w' (BS.nil _ _) (by omega)).mono ?_
          rintro e w' ⟨rfl, rfl⟩
          go_wp2
          go_ret3
          exact ⟨.inr ⟨0, 1, by have := List.eq_nil_of_length_eq_zero Hrl.out; subst this; decide, rfl⟩, rfl⟩
        · have hbs := hide (HA.out.at 1 k (by omega))
          have hdr : Hid ((((k : Int) :: r).drop 1).take k = r.take k) := rfl
          have hn8 : k ≤ 8 := by omega
          by_cases hz : nz (r.take k)
          · have hres : Hid (getNum ((k : Int) :: r) = some (val (r.take k), 1 + k)) := by
              refine hide ?_
              rw [hGN.out, if_neg]
              · simp; omega
              · rintro (h | h | h)
                · omega
                · have := Hrl.out; simp at h; omega
                · exact h (by simpa using hz)
            have hzd : (decide (¬ nz (r.take k))) = false := decide_eq_false (fun h => h hz)
            have Hzd := hide hzd
            clear hGN hzd hz
            go_enter Try.func58, Try.ntmps58
            go_wp2_with fail
            refine (ahead_any _ _ _ (r.take k) w hbs.out).mono ?_
            rintro e w' ⟨rfl, rfl⟩
            rw [Hzd.out]
            go_wp2_with fail
            refine (value_any _ _ _ (r.take k) w' hbs.out hn8).mono ?_
            rintro e w' ⟨rfl, rfl⟩
            go_wp2
            go_ret3
            exact ⟨.inr ⟨_, _, hres.out, by simp⟩, rfl⟩
          · have hres : Hid (getNum ((k : Int) :: r) = none) := by
              refine hide ?_
              rw [hGN.out, if_pos]
              exact .inr (.inr (by simpa using hz))
            have hzd : (decide (¬ nz (r.take k))) = true := decide_eq_true hz
            have Hzd := hide hzd
            clear hGN hzd hz
            go_enter Try.func58, Try.ntmps58
            go_wp2_with fail
            refine (ahead_any _ _ _ (r.take k) w hbs.out).mono ?_
            rintro e w' ⟨rfl, rfl⟩
            rw [Hzd.out]
            go_wp2
            go_ret3
            exact ⟨.inl ⟨hres.out, rfl⟩, rfl⟩
end Go.Proofs.Ytofalfaiamaapaa

namespace Go.Proofs.Ytofalfaiamaapaa
open Go.RowKit
set_option linter.unusedVariables false
theorem bytes_as (a b : Option Addr) (n c m d : Nat) (l k : List Int) (w : World) (r : Bool) (hr : decide (l = k) = r) (hA : BS w a n l) (hB : BS w b m k) :
    Calls Try.prog 36 #[.slice a n c, .slice b m d] w fun e w' => e = .returned (.bool r) ∧ Below w.heap.size w w' := by
  rw [← hr]; exact bytes_any a b n c m d l k w hA hB
theorem num_is (k : Nat) (r : List Int) (hk : k ≤ r.length) (h8 : k ≤ 8) (hr : By r) : decide (num (val (r.take k)) = ((k : Int) :: r).take (k + 1)) = decide (nz (r.take k)) := by
  have hl : (r.take k).length = k := by rw [List.length_take]; omega
  have := num_val_iff (r.take k) (hr.take k) (by omega)
  rw [hl] at this
  simp only [List.take_succ_cons]
  exact decide_eq_decide.2 this
set_option maxHeartbeats 4000000 in
set_option maxRecDepth 100000 in
theorem refGetNum_any (a : Option Addr) (n c : Nat) (l : List Int) (w : World) (hA : BS w a n l) (hC : CP a n c) :
    Calls Try.prog 33 #[.slice a n c] w fun e w' => ((getNum l = none ∧ e = .returned (.tuple #[.int .u64 0, .int .i64 0])) ∨ ∃ (x : Int) (m : Nat), getNum l = some (x, m) ∧ e = .returned (.tuple #[.int .u64 x, .int .i64 (m : Int)])) ∧ Below w.heap.size w w' := by
  rcases l with _ | ⟨y, r⟩
  · have hn : n = 0 := by have := hA.1; simpa using this.symm
    subst hn
    go_enter Try.func33, Try.ntmps33
    go_wp2
    go_ret2
    exact ⟨.inl ⟨rfl, rfl⟩, Below.refl _ _⟩
  · have HA := hide hA
    have HB : Hid (By r) := By.tail hA.2.2.1
    obtain ⟨b, o, rfl, q, hy0, hy1, hn⟩ := hA.cell0
    have hn0 : ((n : Int) == 0) = false := by simp; omega
    have hmax := hA.2.1
    unfold maxLen at hmax
    have hGN := hide (getNum_cons y r)
    obtain ⟨k, rfl⟩ := Int.eq_ofNat_of_zero_le hy0
    have hrl : r.length = n - 1 := by omega
    have Hrl := hide hrl
    have hnp : 0 < n := by omega
    clear hA hn hrl
    by_cases h8 : 8 < k
    · have h8' : (8 : Int) < k := by omega
      go_enter Try.func33, Try.ntmps33
      go_wp2
      go_ret2
      exact ⟨.inl ⟨by rw [hGN.out, if_pos (.inl h8')], rfl⟩, Below.refl _ _⟩
    · by_cases hlen : n < 1 + k
      · have hlen' : (n : Int) < k + 1 := by omega
        have h8' : decide ((8 : Int) < k) = false := by simp; omega
        go_enter Try.func33, Try.ntmps33
        go_wp2
        go_ret2
        exact ⟨.inl ⟨by rw [hGN.out, if_pos (.inr (.inl (by have := Hrl.out; simp; omega)))], rfl⟩, Below.refl _ _⟩
      · have hlen' : ¬ (n : Int) < k + 1 := by omega
        have h8' : decide ((8 : Int) < k) = false := by simp; omega
        have hcn := hC.1
        have hcm := hC.2.1
        unfold maxLen at hcm
        have hHead := hide (HA.out.head (k + 1) (by omega))
        go_enter Try.func33, Try.ntmps33
        go_wp2
        go_loop [5, 6] (fun u i => ∃ (j : Nat) (x : Int), 1 ≤ j ∧ j ≤ k + 1 ∧ i = .int .i64 j ∧ u = .int .u64 x ∧ 0 ≤ x ∧ x < 18446744073709551616 ∧ Hid (x = val (r.take (j - 1)))) (fun _ i => k + 1 - (intOf i).toNat)
        case atStart => exact ⟨1, 0, by omega, by omega, rfl, rfl, by omega, by omega, rfl⟩
        case round =>
          obtain ⟨j, x, hj1, hjk, rfl, rfl, hx0, hx1, hx⟩ := hrel
          by_cases hlt : j < k + 1
          · obtain ⟨i, rfl⟩ : ∃ i, j = i + 1 := ⟨j - 1, by omega⟩
            have hx : Hid (x = val (r.take i)) := hx
            have q2 : w.cell? ⟨b, o + (i + 1), none⟩ = some (.int .u8 (r.getD i 0)) := by
              rcases HA.out.2.2.2 with h0 | ⟨b', o', hh, hc⟩
              · omega
              · cases hh
                exact hc (i + 1) (by omega)
            have hb0 := (getD_byte HB.out i).1
            have hb1 := (getD_byte HB.out i).2
            have hv := hide (val_take r i (by rw [Hrl.out]; omega))
            have hx7 : x < 72057594037927936 := by
              have h1 := (val_bd (r.take i) (By.take HB.out i)).2
              rw [← hx.out, List.length_take, Hrl.out] at h1
              have h2 := pow7 (min i (n - 1)) (by omega)
              omega
            generalize r.getD i 0 = y at q2 hb0 hb1 hv
            have hltI : (i : Int) + 1 < (n : Int) := by omega
            go_wp2
            go_round
            case rel => exact ⟨i + 1 + 1, x * 256 + y, by omega, by omega, by go_num, rfl, by omega, by omega, by show _ = val (r.take (i + 1)); rw [hv.out, hx.out]⟩
            case measure => simp [intOf]; omega
          · have hjk2 : j = k + 1 := by omega
            subst hjk2
            have hx : Hid (x = val (r.take k)) := hx
            have hnis := hide (num_is k r (by rw [Hrl.out]; omega) (by omega) HB.out)
            rw [← hx.out] at hnis
            have hci : (k : Int) + 1 ≤ (c : Int) := by omega
            have hc0 : (0 : Int) ≤ (k : Int) + 1 := by omega
            by_cases hz : nz (r.take k)
            · have hres : Hid (getNum ((k : Int) :: r) = some (x, k + 1)) := by
                refine hide ?_
                rw [hGN.out, if_neg]
                · simp [hx.out]
                · rintro (h | h | h)
                  · omega
                  · have := Hrl.out; simp at h; omega
                  · exact h (by simpa using hz)
              have hd : decide (num x = ((k : Int) :: r).take (k + 1)) = true := by rw [hnis.out]; simpa using hz
              have Hd := hide hd
              clear hd hz hGN hnis
              go_wp2_with fail
              go_region_held3 (fun _ => True) (trivial) (first
                | (go_at_call 41; refine (refNum_any x _ hx0 hx1).mono ?_; rintro e w1 ⟨v, rfl, hown, hb⟩; obtain ⟨p, cap, rfl, hbs, hcp⟩ := hown.open (num_by x); have Hbs := hide hbs; have Hb := hide hb; clear hown hbs hb)
                | (go_at_call 36; refine (bytes_as _ _ _ _ _ _ (num x) (((k : Int) :: r).take (k + 1)) _ true Hd.out (by exact Hbs.out) (by exact hHead.out.drew.below Hb.out)).mono ?_; rintro e w2 ⟨rfl, hb2⟩))
              go_wp2
              go_ret2
              have z := Hb.out.size
              exact ⟨.inr ⟨_, _, hres.out, by simp⟩, ((Below.refl _ w).drew.trans Hb.out).trans (hb2.mono z)⟩
            · have hres : Hid (getNum ((k : Int) :: r) = none) := by
                refine hide ?_
                rw [hGN.out, if_pos]
                exact .inr (.inr (by simpa using hz))
              have hd : decide (num x = ((k : Int) :: r).take (k + 1)) = false := by rw [hnis.out]; simpa using hz
              have Hd := hide hd
              clear hd hz hGN hnis
              go_wp2_with fail
              go_region_held3 (fun _ => True) (trivial) (first
                | (go_at_call 41; refine (refNum_any x _ hx0 hx1).mono ?_; rintro e w1 ⟨v, rfl, hown, hb⟩; obtain ⟨p, cap, rfl, hbs, hcp⟩ := hown.open (num_by x); have Hbs := hide hbs; have Hb := hide hb; clear hown hbs hb)
                | (go_at_call 36; refine (bytes_as _ _ _ _ _ _ (num x) (((k : Int) :: r).take (k + 1)) _ false Hd.out (by exact Hbs.out) (by exact hHead.out.drew.below Hb.out)).mono ?_; rintro e w2 ⟨rfl, hb2⟩))
              go_wp2
              go_ret2
              have z := Hb.out.size
              exact ⟨.inl ⟨hres.out, rfl⟩, ((Below.refl _ w).drew.trans Hb.out).trans (hb2.mono z)⟩
end Go.Proofs.Ytofalfaiamaapaa

namespace Go.Proofs.Ytofalfaiamaapaa
open Go.RowKit
set_option linter.unusedVariables false
theorem CP.cut {a : Option Addr} {n c : Nat} (h : CP a n c) (i k : Nat) (hk : k ≤ n) (hi : i ≤ k) : CP (slA a c i) (k - i) (c - i) := by
  obtain ⟨h1, h2, h3⟩ := h
  refine ⟨by omega, by omega, fun hn => ?_⟩
  unfold slA at hn
  split at hn
  · have := h3 hn; omega
  · rcases a with _ | x
    · have := h3 rfl; omega
    · simp at hn
theorem CP.head {a : Option Addr} {n c : Nat} (h : CP a n c) (k : Nat) (hk : k ≤ n) : CP a k c := ⟨Nat.le_trans hk h.1, h.2.1, h.2.2⟩
theorem q_nil (w : World) (a : Option Addr) (n c : Nat) : (binOp .eql 22 (.slice a n c) (.slice none 0 0)).run Try.prog w = .ok (.bool a.isNone) w := Lib.run_eql_slice_nil w _ _ a n c 0 0 Try.underlying22
set_option maxHeartbeats 1000000 in
set_option maxRecDepth 100000 in
theorem clone_any (a : Option Addr) (n c : Nat) (l : List Int) (w : World) (hA : BS w a n l) (hp : a = none → c = 0) (hbig : n ≤ 1000000) :
    Calls Try.prog 62 #[.slice a n c] w fun e w' => ∃ v, e = .returned v ∧ Own w.heap.size w' v l ∧ Below w.heap.size w w' := by
  have hl := hide hA.1
  have qn := q_nil
  rcases a with _ | x
  · have hc := hp rfl
    have hn0 : n = 0 := by
      rcases hA.2.2.2 with h0 | ⟨b, o, hh, _⟩
      · exact h0
      · cases hh
    subst hc hn0
    obtain rfl := List.eq_nil_of_length_eq_zero hl.out
    go_enter Try.func62, Try.ntmps62
    go_wp2
    go_ret
    exact ⟨_, rfl, ⟨rfl, .inl ⟨rfl, rfl⟩⟩, Below.refl _ _⟩
  · have HA := hide hA
    clear hA
    go_enter Try.func62, Try.ntmps62
    go_wp2_with (at_builtin; refine Stop.at ?_)
    unfold Stop
    refine append_bytes rfl _ _ rfl w.heap.size _ _ l rfl (Own.made w w.heap.size _ rfl (Nat.le_refl _)) _ n c rfl hp (HA.out.alloc _) (by rw [hl.out]; simp; omega) (by simp) ?_
    intro v w1 hown hgrow hbel
    have Hown := hide hown
    have Hbel := hide (hbel w ((Below.refl _ w).alloc (Nat.le_refl _) _))
    clear hown hgrow hbel
    go_wp2
    go_ret
    exact ⟨_, rfl, Hown.out, Hbel.out⟩
set_option maxHeartbeats 1000000 in
set_option maxRecDepth 100000 in
theorem text_any (a : Option Addr) (n c : Nat) (l : List Int) (w : World) (hA : BS w a n l) (hp : a = none → c = 0) (hbig : n ≤ 1000000) :
    Calls Try.prog 65 #[.slice a n c] w fun e w' => ∃ v, e = .returned v ∧ Own w.heap.size w' v (text l) ∧ Below w.heap.size w w' := by
  have hl := hide hA.1
  have HA := hide hA
  clear hA
  have hnb := num_len (n : Int)
  have hnb8 := nb_le (n : Int)
  go_enter Try.func65, Try.ntmps65
  go_wp2_with fail
  refine (num_any (n : Int) w (by omega) (by omega)).mono ?_
  rintro e w1 ⟨v, rfl, hown, hb⟩
  have Hown := hide hown
  have Hb := hide hb
  have hsz := hb.size
  clear hown hb
  go_wp2_with (at_builtin; refine Stop.at ?_)
  unfold Stop
  refine append_bytes rfl _ _ rfl w.heap.size _ _ l rfl Hown.out a n c rfl hp (HA.out.below Hb.out) (by rw [hl.out, hnb]; omega) hsz ?_
  intro v2 w2 hown2 hgrow hbel
  have Hown2 := hide hown2
  have Hbel := hide (hbel w Hb.out)
  clear hown2 hgrow hbel
  go_wp2
  go_ret
  refine ⟨_, rfl, ?_, Hbel.out⟩
  have := Hown2.out
  unfold text
  rw [hl.out]
  exact this
set_option maxHeartbeats 1000000 in
set_option maxRecDepth 100000 in
theorem refText_any (a : Option Addr) (n c : Nat) (l : List Int) (w : World) (hA : BS w a n l) (hp : a = none → c = 0) (hbig : n ≤ 1000000) :
    Calls Try.prog 52 #[.slice a n c] w fun e w' => ∃ v, e = .returned v ∧ Own w.heap.size w' v (text l) ∧ Below w.heap.size w w' := by
  have hl := hide hA.1
  have HA := hide hA
  clear hA
  have hnb := num_len (n : Int)
  have hnb8 := nb_le (n : Int)
  go_enter Try.func52, Try.ntmps52
  go_wp2_with fail
  refine (refNum_any (n : Int) w (by omega) (by omega)).mono ?_
  rintro e w1 ⟨v, rfl, hown, hb⟩
  have Hown := hide hown
  have Hb := hide hb
  have hsz := hb.size
  clear hown hb
  go_wp2_with (at_builtin; refine Stop.at ?_)
  unfold Stop
  refine append_bytes rfl _ _ rfl w.heap.size _ _ l rfl Hown.out a n c rfl hp (HA.out.below Hb.out) (by rw [hl.out, hnb]; omega) hsz ?_
  intro v2 w2 hown2 hgrow hbel
  have Hown2 := hide hown2
  have Hbel := hide (hbel w Hb.out)
  clear hown2 hgrow hbel
  go_wp2
  go_ret
  refine ⟨_, rfl, ?_, Hbel.out⟩
  have := Hown2.out
  unfold text
  rw [hl.out]
  exact this
end Go.Proofs.Ytofalfaiamaapaa

namespace Go.Proofs.Ytofalfaiamaapaa
open Go.RowKit
set_option linter.unusedVariables false
theorem text_len (t : List Int) : (text t).length ≤ t.length + 9 := by
  unfold text
  rw [List.length_append, num_len]
  have := nb_le t.length
  omega
end Go.Proofs.Ytofalfaiamaapaa

namespace Go.Proofs.Ytofalfaiamaapaa
open Go.RowKit
set_option linter.unusedVariables false
theorem BS.rest {w : World} {a : Option Addr} {n c : Nat} {l : List Int} (h : BS w a n l) (i : Nat) (hi : i ≤ n) (hc : n ≤ c) : BS w (slA a c i) (n - i) (l.drop i) := by
  have := h.cut i n c hi (Nat.le_refl _) hc
  rw [List.take_of_length_le (by rw [h.1]; exact Nat.le_refl _)] at this
  exact this
end Go.Proofs.Ytofalfaiamaapaa

namespace Go.Proofs.Ytofalfaiamaapaa
open Go.RowKit
set_option linter.unusedVariables false
section
variable {α : Type}
theorem flatR_len (enc : α → List Value) (k : Nat) (hk : ∀ x, (enc x).length = k) : ∀ l : List α, (l.flatMap enc).length = l.length * k
  | [] => by simp
  | x :: r => by rw [List.flatMap_cons, List.length_append, hk, flatR_len enc k hk r, List.length_cons, Nat.succ_mul]; omega
theorem flatR_get (enc : α → List Value) (k : Nat) (hk : ∀ x, (enc x).length = k) : ∀ (l : List α) (i : Nat) (x : α) (j : Nat) (v : Value), l[i]? = some x → (enc x)[j]? = some v → (l.flatMap enc)[i * k + j]? = some v
  | [], i, x, j, v, h, _ => by simp at h
  | y :: r, 0, x, j, v, h, hj => by
    simp at h
    subst h
    have hl : j < (enc y).length := by
      rcases Nat.lt_or_ge j (enc y).length with h | h
      · exact h
      · rw [List.getElem?_eq_none h] at hj; cases hj
    rw [List.flatMap_cons, Nat.zero_mul, Nat.zero_add, List.getElem?_append_left hl]
    exact hj
  | y :: r, i + 1, x, j, v, h, hj => by
    have ih := flatR_get enc k hk r i x j v (by simpa using h) hj
    rw [List.flatMap_cons, List.getElem?_append_right (by rw [hk, Nat.succ_mul]; omega), hk, show (i + 1) * k + j - k = i * k + j by rw [Nat.succ_mul]; omega]
    exact ih
theorem flatR_one (enc : α → List Value) (h1 : ∀ x, ∀ v ∈ enc x, v.oneCell' = true) (l : List α) : ∀ v ∈ l.flatMap enc, v.oneCell' = true := by
  intro v hv
  obtain ⟨x, _, hx⟩ := List.mem_flatMap.1 hv
  exact h1 x v hx
theorem flatR_lt {k n i j : Nat} (hi : i < n) (hj : j < k) : i * k + j < n * k := by
  have : (i + 1) * k ≤ n * k := Nat.mul_le_mul_right k hi
  rw [Nat.succ_mul] at this
  omega
/-- A slice's structs. -/
def RS (enc : α → List Value) (k : Nat) (w : World) (a : Option Addr) (n : Nat) (l : List α) : Prop :=
  l.length = n ∧ n ≤ maxLen ∧ (n = 0 ∨ ∃ b off, a = some ⟨b, off, none⟩ ∧ ∀ i x, l[i]? = some x → ∀ j v, (enc x)[j]? = some v → w.cell? ⟨b, off + i * k + j, none⟩ = some v)
/-- Those of the call's own. -/
def OwnR (enc : α → List Value) (k : Nat) (T : TypeId) (N : Nat) (w : World) (v : Value) (l : List α) : Prop := w.ownsRow N T k v l.length (l.flatMap enc)
variable {enc : α → List Value} {k : Nat} {T : TypeId}
theorem RS.ext {w w' : World} {a : Option Addr} {n : Nat} {l : List α} (h : RS enc k w a n l) (hx : Ext w w') : RS enc k w' a n l := by
  obtain ⟨h1, h2, h4⟩ := h
  refine ⟨h1, h2, ?_⟩
  rcases h4 with h0 | ⟨b, off, ha, hc⟩
  · exact .inl h0
  · exact .inr ⟨b, off, ha, fun i x hi j v hj => hx _ _ (hc i x hi j v hj)⟩
theorem RS.below {w w' : World} {a : Option Addr} {n : Nat} {l : List α} (h : RS enc k w a n l) (hb : Below w.heap.size w w') : RS enc k w' a n l := h.ext ((Ext.refl w).below hb)
theorem RS.alloc {w : World} {a : Option Addr} {n : Nat} {l : List α} (h : RS enc k w a n l) (o : Obj) : RS enc k (w.alloc o) a n l := h.ext ((Ext.refl w).alloc o)
theorem RS.nil (w : World) (p : Option Addr) : RS enc k w p 0 [] := ⟨rfl, by decide, .inl rfl⟩
theorem RS.new (hk : ∀ x, (enc x).length = k) (w : World) (g : Nat) (hg : g = w.heap.size) (l : List α) (C : Array Value) (hC : C = (l.flatMap enc).toArray) (t : TypeId) (fr : Nat × Nat) (n : Nat) (hn : l.length = n) (hmax : n ≤ maxLen) :
    RS enc k (w.alloc (.cells C t fr)) (some ⟨g, 0, none⟩) n l := by
  subst hg hC hn
  refine ⟨rfl, hmax, .inr ⟨_, 0, rfl, fun i x hi j v hj => ?_⟩⟩
  have h := flatR_get enc k hk l i x j v hi hj
  rw [World.cell?_alloc_mark, Nat.zero_add]
  simpa using h
theorem RS.mid {w : World} {b off : Nat} {n : Nat} {l : List α} (h : RS enc k w (some ⟨b, off, none⟩) n l) (i : Nat) (hi : i ≤ n) : RS enc k w (some ⟨b, off + i * k, none⟩) (n - i) (l.drop i) := by
  obtain ⟨h1, h2, h4⟩ := h
  refine ⟨by rw [List.length_drop]; omega, by omega, ?_⟩
  rcases h4 with h0 | ⟨b', off', ha, hc⟩
  · exact .inl (by omega)
  · cases ha
    refine .inr ⟨b, off + i * k, rfl, fun i' x hi' j v hj => ?_⟩
    rw [List.getElem?_drop] at hi'
    have := hc (i + i') x hi' j v hj
    rw [Nat.add_mul] at this
    rw [show off + i * k + i' * k + j = off + (i * k + i' * k) + j by omega]
    exact this
theorem OwnR.mono {N N' : Nat} {w : World} {v : Value} {l : List α} (h : OwnR enc k T N w v l) (hN : N' ≤ N) : OwnR enc k T N' w v l := ⟨h.1, h.2.imp id fun ⟨g, cap, cur, h1, h2, h3⟩ => ⟨g, cap, cur, h1, Nat.le_trans hN h2, h3⟩⟩
theorem OwnR.alloc {N : Nat} {w : World} {v : Value} {l : List α} (h : OwnR enc k T N w v l) (o : Obj) : OwnR enc k T N (w.alloc o) v l := World.ownsRow.alloc h o
theorem OwnR.drew {N : Nat} {w : World} {v : Value} {l : List α} (h : OwnR enc k T N w v l) : OwnR enc k T N w.drew v l := World.ownsRow.drew h
theorem OwnR.below {N : Nat} {w w' : World} {v : Value} {l : List α} (h : OwnR enc k T N w v l) (hb : Below w.heap.size w w') : OwnR enc k T N w' v l := by
  refine ⟨h.1, ?_⟩
  rcases h.2 with hn | ⟨g, cap, cur, rfl, hb', hgg, rest⟩
  · exact .inl hn
  · refine .inr ⟨g, cap, cur, rfl, hb', ?_, rest⟩
    rw [hb.block g (Array.getElem?_eq_some_iff.1 hgg).1]
    exact hgg
theorem OwnR.nil (N : Nat) (w : World) : OwnR enc k T N w (.slice none 0 0) [] := ⟨by simp, .inl ⟨rfl, rfl⟩⟩
theorem OwnR.open (hk : ∀ x, (enc x).length = k) {N : Nat} {w : World} {v : Value} {l : List α} (h : OwnR enc k T N w v l) : ∃ p cap, v = .slice p l.length cap ∧ RS enc k w p l.length l ∧ CP p l.length cap := by
  have h0 := h
  obtain ⟨_, h2⟩ := h
  rcases h2 with ⟨rfl, h2⟩ | ⟨g, cap, cur, rfl, hb, hg, hc1, hc2, hs, ht⟩
  · exact ⟨none, 0, by rw [h2], ⟨rfl, by rw [h2]; decide, .inl h2⟩, by omega, by decide, fun _ => rfl⟩
  · refine ⟨some ⟨g, 0, none⟩, cap, rfl, ⟨rfl, by omega, .inr ⟨g, 0, rfl, fun i x hi j u hj => ?_⟩⟩, hc1, hc2, fun h => by cases h⟩
    have hil : i < l.length := (List.getElem?_eq_some_iff.1 hi).1
    have hjl : j < k := by rw [← hk x]; exact (List.getElem?_eq_some_iff.1 hj).1
    rw [Nat.zero_add, World.ownsRow.cellAt h0 (i * k + j) (flatR_lt hil hjl)]
    exact flatR_get enc k hk l i x j u hi hj
theorem OwnR.made (w : World) (N g : Nat) (hg : g = w.heap.size) (hN : N ≤ w.heap.size) : OwnR enc k T N (w.alloc (.cells #[] T)) (.slice (some ⟨g, 0, none⟩) 0 0) [] := by
  subst hg; exact World.ownsRow_made w #[] 0 hN (by decide) (by simp)
theorem RS.cells {w : World} {b off : Nat} {n : Nat} {l : List α} (h : RS enc k w (some ⟨b, off, none⟩) n l) (j : Nat) (u : Value) (hj : (l.flatMap enc)[j]? = some u) (hk : ∀ x, (enc x).length = k) (hk0 : 0 < k) : w.cell? ⟨b, off + j, none⟩ = some u := by
  have hjl : j < l.length * k := by rw [← flatR_len enc k hk l]; exact (List.getElem?_eq_some_iff.1 hj).1
  have hi : j / k < l.length := Nat.div_lt_of_lt_mul (by rw [Nat.mul_comm]; exact hjl)
  have hm : j % k < k := Nat.mod_lt _ hk0
  have e : j / k * k + j % k = j := by rw [Nat.mul_comm]; exact Nat.div_add_mod j k
  rcases h.2.2 with h0 | ⟨b', off', ha, hc⟩
  · rw [h.1, h0] at hi; exact absurd hi (Nat.not_lt_zero _)
  · cases ha
    have hx : l[j / k]? = some l[j / k] := List.getElem?_eq_getElem hi
    have hy : (enc l[j / k])[j % k]? = some ((enc l[j / k])[j % k]'(by rw [hk]; exact hm)) := List.getElem?_eq_getElem _
    have q := flatR_get enc k hk l _ _ _ _ hx hy
    rw [e, hj] at q
    cases q
    have := hc _ _ hx _ _ hy
    rw [Nat.add_assoc, e] at this
    exact this
/-- 'append(v, x...)', 'v' the call's own. -/
theorem append_rows {w : World} {ops : Array Oper} {rest : List Oper} {o : Oper} {a : Act} {Q : Exit → Act → World → Prop} (hgd : o.guard = none) (s x : Operand) (t : TypeId)
    (ho : o.op = .call { callee := .builtin .append, args := #[s, x], argTypes := #[t, t] })
    (ht : Try.prog.underlying t = some (.slice T)) {z : Value} {by_ : Nat} (hi : (Try.prog.info? T).map (fun i => (i.zero, i.size, i.bytes)) = some (some z, k, by_)) (hz : z.cells.size = k) (hk0 : 0 < k) (hby : by_ ≤ 1000)
    (hk : ∀ x, (enc x).length = k) (h1 : ∀ x, ∀ v ∈ enc x, v.oneCell' = true)
    (N : Nat) (v : Value) (l m : List α) (hs : a.eval s = v) (hown : OwnR enc k T N w v l) (p : Option Addr) (len cap : Nat) (hx : a.eval x = .slice p len cap) (hp : p = none → cap = 0) (hB : RS enc k w p len m)
    (hbig : l.length + m.length ≤ 1000000) (hN : N ≤ w.heap.size)
    (h : ∀ v' w', OwnR enc k T N w' v' (l ++ m) → w.grownBy w' v.ownBlock → (∀ w0, Below N w0 w → Below N w0 w') → wpList Try.prog ops Q rest (a.put o.dst v') w') : wpList Try.prog ops Q (o :: rest) a w := by
  obtain ⟨i0, hi, hz0, hz1, hz2⟩ := info_parts hi
  have g1 := hB.1
  rcases p with _ | ad
  · have hc := hp rfl
    have hl0 : len = 0 := by
      rcases hB.2.2 with h0 | ⟨b, off, hh, _⟩
      · exact h0
      · cases hh
    subst hc hl0
    obtain rfl : m = [] := List.eq_nil_of_length_eq_zero g1
    refine wpList_append_own_none hgd s x _ ho N T i0 k ht hi v _ _ hs hown hx ?_
    refine h v w (by rw [List.append_nil]; exact hown) ⟨rfl, rfl, rfl, Nat.le_refl _, fun _ _ _ => rfl⟩ (fun _ h => h)
  · have hmul : (l.length + len) * by_ ≤ 1000000 * 1000 := Nat.mul_le_mul (by omega) hby
    refine wpList_append_own w hgd s x t ho N T i0 z k by_ ht hi hz0 hz1 hz2 hz hk0 v _ _ hs hown ad len cap (m.flatMap enc) hx (by rw [flatR_len enc k hk, g1]) ?_ (flatR_one enc h1 m) (by rw [← g1]; unfold maxLen; omega) (by omega) hN ?_
    · intro j u hj
      have hjl : j < m.length * k := by rw [← flatR_len enc k hk m]; exact (List.getElem?_eq_some_iff.1 hj).1
      rcases hB.2.2 with h0 | ⟨b, off, hh, hc⟩
      · rw [g1, h0] at hjl; omega
      · cases hh
        have h3 : (⟨b, off, none⟩ : Addr).add j = ⟨b, off + j, none⟩ := by
          by_cases hj0 : j = 0
          · subst hj0; simp [Addr.add]
          · simp [Addr.add, hj0]
        rw [h3]
        exact hB.cells j u hj hk hk0
    · intro v' w' h1 h2 _
      refine h v' w' ?_ h2 (fun w0 hb => hb.grown h2 hN (fun j hj => (World.ownsRow.lt hown j hj).1))
      have e : l.length + len = (l ++ m).length := by rw [List.length_append, g1]
      rw [e, ← List.flatMap_append] at h1
      exact h1
end
/-- A string's bytes. -/
def bytesL (s : ByteArray) : List Int := s.data.toList.map fun b => (b.toNat : Int)
theorem bytesL_by (s : ByteArray) : By (bytesL s) := by
  intro n hn
  obtain ⟨b, _, rfl⟩ := List.mem_map.1 hn
  have := b.toNat_lt
  omega
/-! Boxes -/
/-- A block of cells that may be written. -/
def BX (u : World) (g : Nat) (C : Array Value) (t : TypeId) : Prop := u.heap[g]? = some (.cells C t (0, 0))
theorem BX.below {u W : World} {g : Nat} {C : Array Value} {t : TypeId} (h : BX u g C t) (hb : Below u.heap.size u W) : BX W g C t := by
  unfold BX; rw [hb.block _ (Array.getElem?_eq_some_iff.1 h).1]; exact h
theorem BX.alloc {u : World} {g : Nat} {C : Array Value} {t : TypeId} (h : BX u g C t) (o : Obj) : BX (u.alloc o) g C t := h.below (bel1 u o)
theorem BX.new (u : World) (g : Nat) (hg : g = u.heap.size) (C : Array Value) (t : TypeId) : BX (u.alloc (.cells C t)) g C t := by subst hg; exact heap_alloc_new u _
theorem BX.size {u : World} {g : Nat} {C : Array Value} {t : TypeId} (h : BX u g C t) : g < u.heap.size := (Array.getElem?_eq_some_iff.1 h).1
theorem BX.cell {u : World} {g : Nat} {C : Array Value} {t : TypeId} (h : BX u g C t) (i : Nat) (v : Value) (hi : C[i]? = some v) : u.cell? ⟨g, i, none⟩ = some v := by
  rw [cell_of_row u _ _ _ _ _ h]; exact hi
theorem BX.free {u : World} {g : Nat} {C : Array Value} {t : TypeId} (h : BX u g C t) (i : Nat) : u.frozen? ⟨g, i, none⟩ = false := by
  unfold BX at h; simp [World.frozen?, h]
theorem BX.set {u : World} {g : Nat} {C : Array Value} {t : TypeId} (h : BX u g C t) (i : Nat) (v : Value) : BX (u.setCell ⟨g, i, none⟩ v) g (C.setIfInBounds i v) t := (set1 h (Below.refl g u) (Nat.le_refl _) i v).1
end Go.Proofs.Ytofalfaiamaapaa

namespace Go.Proofs.Ytofalfaiamaapaa
open Go.RowKit
set_option linter.unusedVariables false
/-- An event's cells. -/
abbrev Rv := Int × Int × (Option Addr × Nat × Nat) × (Option Addr × Nat × Nat)
def encV (x : Rv) : List Value := [.int .i64 x.1, .int .i64 x.2.1, .slice x.2.2.1.1 x.2.2.1.2.1 x.2.2.1.2.2, .slice x.2.2.2.1 x.2.2.2.2.1 x.2.2.2.2.2]
theorem encV_len (x : Rv) : (encV x).length = 4 := rfl
end Go.Proofs.Ytofalfaiamaapaa

namespace Go.Proofs.Ytofalfaiamaapaa
open Go.RowKit
set_option linter.unusedVariables false
theorem flat_ints (l : List Int) : l.flatMap (fun x => [Value.int .i64 x]) = l.map (Value.int .i64) := by
  induction l with
  | nil => rfl
  | cons x r ih => simp [ih]
theorem OwnN.rows {N : Nat} {w : World} {v : Value} {l : List Int} : OwnN N w v l ↔ OwnR (fun x => [Value.int .i64 x]) 1 3 N w v l := by
  unfold OwnN OwnR; rw [flat_ints]
end Go.Proofs.Ytofalfaiamaapaa

namespace Go.Proofs.Ytofalfaiamaapaa
open Go.RowKit
set_option linter.unusedVariables false
/-- All but one block is as it was. -/
def KP (g : Nat) (u W : World) : Prop := ∀ p v, u.cell? p = some v → p.block ≠ g → W.cell? p = some v
theorem KP.drew0 (g : Nat) (u : World) : KP g u u.drew := fun _ _ h _ => h
theorem KP.refl (g : Nat) (u : World) : KP g u u := fun _ _ h _ => h
theorem KP.drew {g : Nat} {u W : World} (h : KP g u W) : KP g u W.drew := h
theorem KP.set {g : Nat} {u W : World} (h : KP g u W) (i : Nat) (x : Value) : KP g u (W.setCell ⟨g, i, none⟩ x) := by
  intro p v hp hne
  have := h p v hp hne
  rw [World.cell?_setCell_far W ⟨g, i, none⟩ p x (fun e => hne e.symm)]
  exact this
theorem kcell {g : Nat} {u W : World} (h : KP g u W) {p : Addr} {v : Value} (hp : u.cell? p = some v) (hne : p.block ≠ g) : W.cell? p = some v := h p v hp hne
theorem BX.ne {u : World} {g : Nat} {C : Array Value} {t : TypeId} (h : BX u g C t) {p : Addr} {v : Value} (hp : u.cell? p = some v) (hv : ∀ i : Nat, C[i]? ≠ some v) : p.block ≠ g := by
  intro e
  obtain ⟨b, off, spot⟩ := p
  simp only at e
  subst e
  have hs := World.cell?_spot hp
  simp only at hs
  subst hs
  rw [cell_of_row u _ _ _ _ _ h] at hp
  exact hv off hp
theorem BX.drew {u : World} {g : Nat} {C : Array Value} {t : TypeId} (h : BX u g C t) : BX u.drew g C t := h
theorem BS.kp {g : Nat} {u W : World} {p : Option Addr} {n : Nat} {l : List Int} (h : BS u p n l) (hk : KP g u W) {C : Array Value} {t : TypeId} (hx : BX u g C t) (hv : ∀ (i : Nat) (n : Int), C[i]? ≠ some (Value.int .u8 n)) : BS W p n l := by
  obtain ⟨h1, h2, h3, h4⟩ := h
  refine ⟨h1, h2, h3, ?_⟩
  rcases h4 with h0 | ⟨b, off, ha, hc⟩
  · exact .inl h0
  · exact .inr ⟨b, off, ha, fun i hi => hk _ _ (hc i hi) (hx.ne (hc i hi) (fun j => hv j _))⟩
theorem KP.put2 {g : Nat} {u W : World} (h : KP g u W) (a b : Value) : KP g u ((W.setCell ⟨g, 0, none⟩ a).setCell ⟨g, 1, none⟩ b) := (h.set 0 a).set 1 b
theorem KP.put6 {g : Nat} {u W : World} (h : KP g u W) (a b c d e f : Value) : KP g u ((((((W.setCell ⟨g, 0, none⟩ a).setCell ⟨g, 1, none⟩ b).setCell ⟨g, 2, none⟩ c).setCell ⟨g, 3, none⟩ d).setCell ⟨g, 4, none⟩ e).setCell ⟨g, 5, none⟩ f) := (((((h.set 0 a).set 1 b).set 2 c).set 3 d).set 4 e).set 5 f
theorem BX.put2 {u : World} {g : Nat} {x y : Value} {t : TypeId} (h : BX u g #[x, y] t) (a b : Value) : ((u.setCell ⟨g, 0, none⟩ a).setCell ⟨g, 1, none⟩ b).heap[g]? = some (.cells #[a, b] t (0, 0)) := (h.set 0 a).set 1 b
theorem BX.put4 {u : World} {g : Nat} {x y z v : Value} {t : TypeId} (h : BX u g #[x, y, z, v] t) (a b c d : Value) : ((((u.setCell ⟨g, 0, none⟩ a).setCell ⟨g, 1, none⟩ b).setCell ⟨g, 2, none⟩ c).setCell ⟨g, 3, none⟩ d).heap[g]? = some (.cells #[a, b, c, d] t (0, 0)) := (((h.set 0 a).set 1 b).set 2 c).set 3 d
theorem BX.put6 {u : World} {g : Nat} {x y z v x' y' : Value} {t : TypeId} (h : BX u g #[x, y, z, v, x', y'] t) (a b c d e f : Value) : ((((((u.setCell ⟨g, 0, none⟩ a).setCell ⟨g, 1, none⟩ b).setCell ⟨g, 2, none⟩ c).setCell ⟨g, 3, none⟩ d).setCell ⟨g, 4, none⟩ e).setCell ⟨g, 5, none⟩ f).heap[g]? = some (.cells #[a, b, c, d, e, f] t (0, 0)) := (((((h.set 0 a).set 1 b).set 2 c).set 3 d).set 4 e).set 5 f
end Go.Proofs.Ytofalfaiamaapaa

namespace Go.Proofs.Ytofalfaiamaapaa
open Go.RowKit
set_option linter.unusedVariables false
section
variable {α : Type} {enc : α → List Value} {k : Nat} {T : TypeId}
theorem OwnR.off {N : Nat} {w : World} {v : Value} {l : List α} {g : Nat} {C : Array Value} {t : TypeId} (h : OwnR enc k T N w v l) (hx : BX w g C t) (hne : T ≠ t) : v.ownBlock ≠ some g := by
  rcases h.2 with ⟨rfl, _⟩ | ⟨g', cap, cur, rfl, _, hg, _⟩
  · intro hh; simp [Value.ownBlock] at hh
  · intro hh
    simp [Value.ownBlock] at hh
    subst hh
    unfold BX at hx
    rw [hg] at hx
    simp at hx
    exact hne hx.2
theorem OwnR.set {N : Nat} {w : World} {v : Value} {l : List α} {g : Nat} (h : OwnR enc k T N w v l) (ho : v.ownBlock ≠ some g) (i : Nat) (x : Value) : OwnR enc k T N (w.setCell ⟨g, i, none⟩ x) v l := by
  refine ⟨h.1, ?_⟩
  rcases h.2 with hn | ⟨g', cap, cur, rfl, hb', hgg, rest⟩
  · exact .inl hn
  · refine .inr ⟨g', cap, cur, rfl, hb', ?_, rest⟩
    have hne : g ≠ g' := fun e => ho (by simp [Value.ownBlock, e])
    rw [← hgg]
    simp [World.setCell, Array.getElem?_modify, hne]
end
theorem BX.grown {w w' : World} {r : Option Nat} {g : Nat} {C : Array Value} {t : TypeId} (h : BX w g C t) (hg : w.grownBy w' r) (hr : r ≠ some g) : BX w' g C t := by
  unfold BX
  rw [hg.block g h.size (fun e => hr e.symm)]
  exact h
theorem KP.put4 {g : Nat} {u W : World} (h : KP g u W) (a b c d : Value) : KP g u ((((W.setCell ⟨g, 0, none⟩ a).setCell ⟨g, 1, none⟩ b).setCell ⟨g, 2, none⟩ c).setCell ⟨g, 3, none⟩ d) := (((h.set 0 a).set 1 b).set 2 c).set 3 d
theorem NS.kp {g : Nat} {u W : World} {p : Option Addr} {n : Nat} {l : List Int} (h : NS u p n l) (hk : KP g u W) (hp : ∀ a, p = some a → a.block ≠ g) : NS W p n l := by
  obtain ⟨h1, h2, h4⟩ := h
  refine ⟨h1, h2, ?_⟩
  rcases h4 with h0 | ⟨b, off, ha, hc⟩
  · exact .inl h0
  · exact .inr ⟨b, off, ha, fun i hi => hk _ _ (hc i hi) (show b ≠ g from hp _ ha)⟩
end Go.Proofs.Ytofalfaiamaapaa

namespace Go.Proofs.Ytofalfaiamaapaa
open Go.RowKit
set_option linter.unusedVariables false
/-- The counts' cells. -/
def cellsC (l : List Int) : Array Value := (l.map (Value.int .i64)).toArray
theorem cellsC_get (l : List Int) (j : Nat) (hj : j < l.length) : (cellsC l)[j]? = some (.int .i64 (l.getD j 0)) := by
  simp [cellsC, List.getD_eq_getElem?_getD, hj]
theorem BX.nums {w : World} {g : Nat} {l : List Int} {t : TypeId} (h : BX w g (cellsC l) t) (hl : l.length = 5) : NS w (some ⟨g, 0, none⟩) 5 l := by
  refine ⟨hl, by decide, .inr ⟨g, 0, rfl, fun i hi => ?_⟩⟩
  rw [Nat.zero_add]
  exact h.cell i _ (cellsC_get l i (by omega))
end Go.Proofs.Ytofalfaiamaapaa

namespace Go.Proofs.Ytofalfaiamaapaa
open Go.RowKit
set_option linter.unusedVariables false
/-- A slice of bytes, with its room. -/
def TX (w : World) (v : Value) (l : List Int) : Prop := ∃ p n c, v = .slice p n c ∧ BS w p n l ∧ CP p n c
theorem TX.below {w w' : World} {v : Value} {l : List Int} (h : TX w v l) (hb : Below w.heap.size w w') : TX w' v l := by
  obtain ⟨p, n, c, h1, h2, h3⟩ := h
  exact ⟨p, n, c, h1, h2.below hb, h3⟩
theorem TX.alloc {w : World} {v : Value} {l : List Int} (h : TX w v l) (o : Obj) : TX (w.alloc o) v l := h.below (bel1 w o)
theorem Own.tx {N : Nat} {w : World} {v : Value} {l : List Int} (h : Own N w v l) (hl : By l) : TX w v l := by
  obtain ⟨p, cap, rfl, h1, h2⟩ := h.open hl
  exact ⟨p, _, cap, rfl, h1, h2⟩
theorem share_intro (P : Program) (md : Region.Mode) (ops : Array Oper) (Q : Exit → Act → World → Prop) (S : World → Prop) (f0 : Nat) (l0 : Array Bool) (a0 : Act) (w0 : World) (T : (Nat → Array Bool → Act → World → Prop) → Prop)
    (h1 : T (wpAnyH P md ops Q S)) (h2 : T (wpAnyH P md ops Q S) → wpAnyH P md ops Q S f0 l0 a0 w0) : wpAnyH P md ops Q S f0 l0 a0 w0 := h2 h1
theorem conv_bel (w : World) (e : TypeId) (s : ByteArray) : Below w.heap.size w (Lib.bytesWorld w e s) :=
  ⟨rfl, rfl, rfl, by rw [Lib.bytesWorld_size]; omega, fun k hk => Lib.bytesWorld_at_old w e s k hk⟩
theorem TX.conv {w : World} {v : Value} {l : List Int} (h : TX w v l) (s : ByteArray) : TX (Lib.bytesWorld w 5 s) v l := h.below (conv_bel w _ s)
theorem TX.made {u W : World} (h : Below u.heap.size u W) (s : ByteArray) (hs : s.size ≤ maxLen) : TX (Lib.bytesWorld W 5 s) (.slice (some ⟨W.heap.size, 0, none⟩) s.size (grownCap W s.size 0 5)) (bytesL s) := by
  refine ⟨_, _, _, rfl, ⟨by rw [bytesL, List.length_map]; rfl, hs, bytesL_by s, .inr ⟨_, 0, rfl, fun i hi => ?_⟩⟩, grownCap_ge _ _ _ _, grownCap_le_maxLen _ _ _ _ hs, fun h => by cases h⟩
  rw [Nat.zero_add, Lib.bytesWorld_cell W _ s i hi]
  have hi2 : i < s.data.toList.length := hi
  simp [bytesL, List.getD_eq_getElem?_getD, List.getElem?_map, List.getElem?_eq_getElem hi2]
end Go.Proofs.Ytofalfaiamaapaa

namespace Go.Proofs.Ytofalfaiamaapaa
open Go.RowKit Go.ChangeShapes Go.WideShapes
set_option linter.unusedVariables false
theorem addr_add (b off k : Nat) : (⟨b, off, none⟩ : Addr).add k = ⟨b, off + k, none⟩ := by
  by_cases hk : k = 0
  · subst hk; simp [Addr.add]
  · simp [Addr.add, hk]
section
variable {H : Type} {enc : TypeId × Value → H} {W : World}
end
end Go.Proofs.Ytofalfaiamaapaa

namespace Go.Proofs.Ytofalfaiamaapaa
open Go.RowKit
set_option linter.unusedVariables false
theorem KP.next {g : Nat} {u W w' : World} (h : KP g u W) (hb : Below W.heap.size W w') : KP g u w' := fun p v hp hne => bcell hb (h p v hp hne)
theorem NS.lt {w : World} {p : Option Addr} {n : Nat} {l : List Int} (h : NS w p n l) {g : Nat} (hg : w.heap.size ≤ g) : n = 0 ∨ ∀ a, p = some a → a.block ≠ g := by
  rcases Nat.eq_zero_or_pos n with h0 | hp
  · exact .inl h0
  · rcases h.2.2 with h0 | ⟨b, off, ha, hc⟩
    · exact .inl h0
    · refine .inr fun a ha' => ?_
      rw [ha] at ha'
      cases ha'
      have := World.block_lt_of_cell? w _ (hc 0 hp)
      simp only at this ⊢
      omega
theorem NS.kp0 {g : Nat} {u W : World} {p : Option Addr} {n : Nat} {l : List Int} (h : NS u p n l) (hk : KP g u W) (hp : n = 0 ∨ ∀ a, p = some a → a.block ≠ g) : NS W p n l := by
  rcases hp with h0 | hp
  · exact ⟨h.1, h.2.1, .inl h0⟩
  · exact h.kp hk hp
end Go.Proofs.Ytofalfaiamaapaa

namespace Go.Proofs.Ytofalfaiamaapaa
open Go.RowKit
set_option linter.unusedVariables false
/-- A slice of bytes whose block is one of bytes. -/
def TU (w : World) (v : Value) (l : List Int) : Prop := ∃ p n c, v = .slice p n c ∧ BS w p n l ∧ CP p n c ∧ ∀ a, p = some a → ∃ C fr, w.heap[a.block]? = some (.cells C 5 fr)
theorem TU.tx {w : World} {v : Value} {l : List Int} (h : TU w v l) : TX w v l := by
  obtain ⟨p, n, c, h1, h2, h3, _⟩ := h
  exact ⟨p, n, c, h1, h2, h3⟩
theorem TU.below {w w' : World} {v : Value} {l : List Int} (h : TU w v l) (hb : Below w.heap.size w w') : TU w' v l := by
  obtain ⟨p, n, c, h1, h2, h3, h4⟩ := h
  refine ⟨p, n, c, h1, h2.below hb, h3, fun a ha => ?_⟩
  obtain ⟨C, fr, hg⟩ := h4 a ha
  exact ⟨C, fr, by rw [hb.block _ (Array.getElem?_eq_some_iff.1 hg).1]; exact hg⟩
theorem TU.alloc {w : World} {v : Value} {l : List Int} (h : TU w v l) (o : Obj) : TU (w.alloc o) v l := h.below (bel1 w o)
theorem Own.tu {N : Nat} {w : World} {v : Value} {l : List Int} (h : Own N w v l) (hl : By l) : TU w v l := by
  obtain ⟨p, cap, hv, h1, h2⟩ := h.open hl
  refine ⟨p, _, cap, hv, h1, h2, fun a ha => ?_⟩
  subst ha
  rcases h.2 with ⟨hh, _⟩ | ⟨g, cap', cur, hh, _, hg, _⟩
  · rw [hv] at hh; cases hh
  · rw [hv] at hh; cases hh; exact ⟨_, _, hg⟩
theorem TU.conv {w : World} {v : Value} {l : List Int} (h : TU w v l) (s : ByteArray) : TU (Lib.bytesWorld w 5 s) v l := h.below (conv_bel w _ s)
theorem TU.made {u W : World} (h : Below u.heap.size u W) (s : ByteArray) (hs : s.size ≤ maxLen) : TU (Lib.bytesWorld W 5 s) (.slice (some ⟨W.heap.size, 0, none⟩) s.size (grownCap W s.size 0 5)) (bytesL s) := by
  obtain ⟨p, n, c, h1, h2, h3⟩ := TX.made h s hs
  refine ⟨p, n, c, h1, h2, h3, fun a ha => ?_⟩
  cases h1
  cases ha
  exact ⟨_, _, Lib.bytesWorld_at_new W _ s⟩
theorem TU.grown {w w' : World} {v x : Value} {l : List Int} {N n : Nat} {xs : List Value} (h : TU w v l) (hg : w.grownBy w' x.ownBlock) (hx : w.ownsRow N 22 1 x n xs) : TU w' v l := by
  obtain ⟨p, m, c, h1, h2, h3, h4⟩ := h
  have hne : ∀ a, p = some a → w'.heap[a.block]? = w.heap[a.block]? := by
    intro a ha
    obtain ⟨C, fr, hh⟩ := h4 a ha
    refine hg.block _ (Array.getElem?_eq_some_iff.1 hh).1 ?_
    intro e
    rcases hx.2 with ⟨rfl, _⟩ | ⟨g, cap, cur, rfl, _, hgg, _⟩
    · cases e
    · simp [Value.ownBlock] at e
      rw [e, hgg] at hh
      simp at hh
  refine ⟨p, m, c, h1, ?_, h3, fun a ha => ?_⟩
  · obtain ⟨k1, k2, k3, k4⟩ := h2
    refine ⟨k1, k2, k3, ?_⟩
    rcases k4 with h0 | ⟨b, off, ha, hc⟩
    · exact .inl h0
    · refine .inr ⟨b, off, ha, fun i hi => ?_⟩
      rw [World.cell?_of_block (a := ⟨b, off + i, none⟩) (show w'.heap[b]? = w.heap[b]? from hne _ ha)]
      exact hc i hi
  · obtain ⟨C, fr, hh⟩ := h4 a ha
    exact ⟨C, fr, by rw [hne a ha]; exact hh⟩
theorem gcell {r : Option Nat} {u W : World} (h : u.grownBy W r) {p : Addr} {v : Value} (hp : u.cell? p = some v) (hne : some p.block ≠ r) : W.cell? p = some v := by
  rw [World.cell?_of_block (h.block _ (World.block_lt_of_cell? u _ hp) hne)]; exact hp
theorem NS.conv {w : World} {a : Option Addr} {n : Nat} {l : List Int} (h : NS w a n l) (s : ByteArray) : NS (Lib.bytesWorld w 5 s) a n l := h.below (conv_bel w _ s)
end Go.Proofs.Ytofalfaiamaapaa

namespace Go.Proofs.Ytofalfaiamaapaa
open Go.RowKit
set_option linter.unusedVariables false
/-- All but two blocks are as they were. -/
def KR (g : Nat) (r : Option Nat) (u W : World) : Prop := ∀ p v, u.cell? p = some v → p.block ≠ g → some p.block ≠ r → W.cell? p = some v
theorem KR.drew0 (g : Nat) (r : Option Nat) (u : World) : KR g r u u.drew := fun _ _ h _ _ => h
theorem KR.alloc {g : Nat} {r : Option Nat} {u W : World} (h : KR g r u W) (o : Obj) : KR g r u (W.alloc o) := fun p v hp h1 h2 => cell_old o (h p v hp h1 h2)
theorem KR.grown {g : Nat} {r : Option Nat} {u W W' : World} (h : KR g r u W) (k : W.grownBy W' r) : KR g r u W' := fun p v hp h1 h2 => gcell k (h p v hp h1 h2) h2
theorem KR.set {g : Nat} {r : Option Nat} {u W : World} (h : KR g r u W) (i : Nat) (x : Value) : KR g r u (W.setCell ⟨g, i, none⟩ x) := by
  intro p v hp h1 h2
  rw [World.cell?_setCell_far W ⟨g, i, none⟩ p x (fun e => h1 e.symm)]
  exact h p v hp h1 h2
theorem BS.kr {g : Nat} {r : Option Nat} {u W : World} {p : Option Addr} {n : Nat} {l : List Int} (h : BS u p n l) (hk : KR g r u W) (hf : ∀ a, p = some a → a.block ≠ g ∧ some a.block ≠ r) : BS W p n l := by
  obtain ⟨h1, h2, h3, h4⟩ := h
  refine ⟨h1, h2, h3, ?_⟩
  rcases h4 with h0 | ⟨b, off, ha, hc⟩
  · exact .inl h0
  · exact .inr ⟨b, off, ha, fun i hi => hk _ _ (hc i hi) (hf _ ha).1 (hf _ ha).2⟩
end Go.Proofs.Ytofalfaiamaapaa

namespace Go.Proofs.Ytofalfaiamaapaa
open Go.RowKit
theorem PS.one {W : World} {n : Nat} {a1 : Option Addr} {len1 c1 : Nat} {l1 : List Int} (h0 : W.cell? ⟨n, 0, Option.none⟩ = some (.slice a1 len1 c1)) (b1 : BS W a1 len1 l1) :
    PS W (some ⟨n, 0, Option.none⟩) 1 [l1] := by
  refine ⟨rfl, by decide, .inr ⟨n, 0, rfl, fun i hi => ?_⟩⟩
  match i, hi with
  | 0, _ => exact ⟨a1, len1, c1, h0, b1⟩
theorem BS.four {W : World} {n : Nat} {x0 x1 x2 x3 : Int} (h0 : W.cell? ⟨n, 0, Option.none⟩ = some (.int .u8 x0)) (h1 : W.cell? ⟨n, 1, Option.none⟩ = some (.int .u8 x1))
    (h2 : W.cell? ⟨n, 2, Option.none⟩ = some (.int .u8 x2)) (h3 : W.cell? ⟨n, 3, Option.none⟩ = some (.int .u8 x3)) (hb : ∀ x ∈ [x0, x1, x2, x3], 0 ≤ x ∧ x < 256) : BS W (some ⟨n, 0, Option.none⟩) 4 [x0, x1, x2, x3] := by
  refine ⟨rfl, by decide, hb, .inr ⟨n, 0, rfl, fun i hi => ?_⟩⟩
  match i, hi with
  | 0, _ => exact h0
  | 1, _ => exact h1
  | 2, _ => exact h2
  | 3, _ => exact h3
end Go.Proofs.Ytofalfaiamaapaa

namespace Go.Proofs.Ytofalfaiamaapaa
open Go.RowKit Go.Lib Go.Sort
set_option linter.unusedVariables false
section
variable {α β : Type} {lt : α → α → Bool} {lt' : β → β → Bool}
end
theorem CP.none0 : CP none 0 0 := ⟨Nat.le_refl _, by decide, fun _ => rfl⟩
end Go.Proofs.Ytofalfaiamaapaa

namespace Go.Proofs.Ytofalfaiamaapaa
open Go.RowKit Go.Lib Go.Sort
set_option linter.unusedVariables false
theorem NS.grownT {w w' : World} {r : Option Nat} {p : Option Addr} {n : Nat} {l : List Int} (h : NS w p n l) (hg : w.grownBy w' r) (hr : ∀ a, p = some a → some a.block ≠ r) : NS w' p n l := by
  refine ⟨h.1, h.2.1, ?_⟩
  rcases h.2.2 with h0 | ⟨b, off, ha, hc⟩
  · exact .inl h0
  · refine .inr ⟨b, off, ha, fun i hi => ?_⟩
    have := World.block_lt_of_cell? w _ (hc i hi)
    rw [World.cell?_of_block (hg.block b this (hr _ ha))]
    exact hc i hi
end Go.Proofs.Ytofalfaiamaapaa

namespace Go.Proofs.Ytofalfaiamaapaa
open Go.RowKit
set_option linter.unusedVariables false
theorem RS.head {w : World} {g n : Nat} {l : List Rv} (h : RS encV 4 w (some ⟨g, 0, none⟩) n l) (k : Nat) (hk : k ≤ n) : RS encV 4 w (some ⟨g, 0, none⟩) k (l.take k) := by
  refine ⟨by rw [List.length_take, h.1]; omega, by have := h.2.1; omega, ?_⟩
  rcases h.2.2 with h0 | ⟨b, off, hh, hc⟩
  · exact .inl (by omega)
  · refine .inr ⟨b, off, hh, fun i x hx j v hj => ?_⟩
    rw [List.getElem?_take] at hx
    split at hx
    · exact hc i x hx j v hj
    · cases hx
theorem RS.tail4 {w : World} {g n : Nat} {l : List Rv} (h : RS encV 4 w (some ⟨g, 0, none⟩) n l) (k : Nat) (hk : k ≤ n) : RS encV 4 w (some ⟨g, k * 4, none⟩) (n - k) (l.drop k) := by
  have q := h.mid k hk
  rwa [Nat.zero_add] at q
theorem RS.none0 {w : World} (a : Option Addr) {l : List Rv} (h : l = []) : RS encV 4 w a 0 l := by rw [h]; exact RS.nil w a
end Go.Proofs.Ytofalfaiamaapaa

namespace Go.Proofs.Ytofalfaiamaapaa
open Go.RowKit
theorem BS.own {w : World} {N g len cp : Nat} {cs : List Int} (h : w.ownsRow N 5 1 (.slice (some ⟨g, 0, Option.none⟩) len cp) len (cs.map (Value.int .u8))) (hb : ∀ y ∈ cs, 0 ≤ y ∧ y < 256) (hm : len ≤ maxLen) :
    BS w (some ⟨g, 0, Option.none⟩) len cs := by
  have hl : cs.length = len := by have := h.1; simp only [List.length_map] at this; omega
  refine ⟨hl, hm, hb, .inr ⟨g, 0, rfl, fun i hi => ?_⟩⟩
  rw [Nat.zero_add, h.cellAt i (by omega)]
  subst hl
  simp [List.getD_eq_getElem?_getD, hi]
end Go.Proofs.Ytofalfaiamaapaa

namespace Go.Proofs.Ytofalfaiamaapaa
open Go.RowKit
set_option linter.unusedVariables false
def rhead (k : Int) (t : List Int) : List Int := k :: text t
def record (k : Int) (t : List Int) : List Int := rhead k t ++ be 4 (of [rhead k t])
theorem be4 (x : Int) (h0 : 0 ≤ x) (h1 : x < 4294967296) : be 4 x = [x / 16777216, x / 65536 % 256, x / 256 % 256, x % 256] := by
  simp [be]
  omega
theorem rhead_by {k : Int} {t : List Int} (h0 : 0 ≤ k) (h1 : k < 256) (h : By t) : By (rhead k t) := By.cons h0 h1 (text_by h)
theorem rhead_len (k : Int) (t : List Int) : (rhead k t).length ≤ t.length + 10 := by
  have := text_len t
  unfold rhead
  rw [List.length_cons]
  omega
theorem refOf_as (a : Option Addr) (len cap : Nat) (l : List Int) (w : World) (x : Int) (hx : of [l] = x) (hB : BS w a len l) (h15 : len ≤ 100000) :
    Calls Try.prog 53 #[.slice a len cap] w fun e w' => e = .returned (.int .u32 x) ∧ Below w.heap.size w w' := by
  rw [← hx]; exact refOf_any a len cap l w hB h15
set_option maxHeartbeats 1000000 in
set_option maxRecDepth 100000 in
theorem sumOf_any (a : Option Addr) (n c : Nat) (l : List Int) (w : World) (hA : BS w a n l) :
    Calls Try.prog 61 #[.slice a n c] w fun e w' => ∃ v, e = .returned v ∧ Own w.heap.size w' v (be 4 (of [l])) ∧ Below w.heap.size w w' := by
  have hps := hide (one_ps w a n c l hA)
  have hb := of_bd [l]
  have hb0 := hb.1
  have hb1 := hb.2
  have hbe := hide (be4 (of [l]) hb0 hb1)
  clear hA hb
  obtain ⟨x, hx⟩ : ∃ x, of [l] = x := ⟨_, rfl⟩
  rw [hx] at hbe hb0 hb1
  have Hx := hide hx
  clear hx
  go_enter Try.func61, Try.ntmps61
  go_wp2_with fail
  refine (of_as _ _ _ [l] _ x Hx.out hps.out).mono ?_
  rintro e w1 ⟨rfl, rfl⟩
  go_wp2
  go_ret
  refine ⟨_, rfl, ?_, ((Below.refl _ w).alloc (Nat.le_refl _) _).alloc (by simp) _⟩
  rw [Hx.out, hbe.out]
  exact Own.lit _ _ _ (by simp) (by simp) _ _ rfl 4 rfl (by simp [maxLen])
set_option maxHeartbeats 1000000 in
set_option maxRecDepth 100000 in
theorem record_arg (k : Int) (a : Option Addr) (n c : Nat) (w : World) (h : k < 1 ∨ 200 < k ∨ 65536 < n) :
    Calls Try.prog 54 #[.int .i64 k, .slice a n c] w fun e w' => e = .returned (.tuple #[.slice none 0 0, .int .i64 1]) ∧ w' = w := by
  by_cases h1 : k < 1
  · clear h
    go_enter Try.func54, Try.ntmps54
    go_wp2
    go_ret2
    exact ⟨rfl, rfl⟩
  · have d1 : decide (k < 1) = false := by simp; omega
    by_cases h2 : 200 < k
    · clear h h1
      go_enter Try.func54, Try.ntmps54
      go_wp2
      go_ret2
      exact ⟨rfl, rfl⟩
    · have d2 : decide (200 < k) = false := by simp; omega
      have d3 : (65536 : Int) < (n : Int) := by omega
      clear h h1 h2
      go_enter Try.func54, Try.ntmps54
      go_wp2
      go_ret2
      exact ⟨rfl, rfl⟩
set_option maxHeartbeats 1000000 in
set_option maxRecDepth 100000 in
theorem record_any (k : Int) (a : Option Addr) (n c : Nat) (l : List Int) (w : World) (hA : BS w a n l) (hp : a = none → c = 0) (h1 : 1 ≤ k) (h2 : k ≤ 200) (h3 : n ≤ 65536) :
    Calls Try.prog 54 #[.int .i64 k, .slice a n c] w fun e w' => ∃ v, e = .returned (.tuple #[v, .int .i64 0]) ∧ Own w.heap.size w' v (record k l) ∧ Below w.heap.size w w' := by
  have d1 : decide (k < 1) = false := by simp; omega
  have d2 : decide (200 < k) = false := by simp; omega
  have d3 : ¬ (65536 : Int) < (n : Int) := by omega
  have HA := hide hA
  have H3 := hide h3
  have Hp := hide hp
  have hrl := hide (rhead_len k l)
  have hl := hide hA.1
  have Hby := hide hA.2.2.1
  clear hA h3 hp
  go_enter Try.func54, Try.ntmps54
  go_wp2_with fail
  refine (text_any a n c l _ (HA.out.alloc _) Hp.out (by have := H3.out; omega)).mono ?_
  rintro e w1 ⟨v, rfl, hown, hb⟩
  obtain ⟨p, cap, rfl, hbs, hcp⟩ := hown.open (text_by Hby.out)
  have Hbs := hide hbs
  have Hcp := hide hcp
  have Hown := hide ((Own.one w w.heap.size _ rfl (Nat.le_refl _) k).below hb)
  have Hb : Hid (Below w.heap.size w w1) := ((Below.refl _ w).alloc (Nat.le_refl _) _).trans (hb.mono (by simp))
  have hsz := Hb.out.size
  clear hown hb hbs hcp
  go_wp2_with (at_builtin; refine Stop.at ?_)
  unfold Stop
  refine append_bytes rfl _ _ rfl w.heap.size _ [k] (text l) rfl Hown.out p _ cap rfl Hcp.out.2.2 Hbs.out (by have := hrl.out; have := H3.out; have := hl.out; unfold rhead at *; simp at *; omega) hsz ?_
  intro v2 w2 hown2 hgrow hbel2
  have hE : [k] ++ text l = rhead k l := rfl
  rw [hE] at hown2
  obtain ⟨p2, cap2, rfl, hbs2, hcp2⟩ := hown2.open (rhead_by (by omega) (by omega) Hby.out)
  have Hown2 := hide hown2
  have Hbs2 := hide hbs2
  have Hbel2 := hide (hbel2 w Hb.out)
  have hsz2 := Hbel2.out.size
  clear hown2 hgrow hbel2 hbs2 hcp2 hE Hown Hb
  go_wp2_with fail
  refine (sumOf_any _ _ _ (rhead k l) w2 Hbs2.out).mono ?_
  rintro e w3 ⟨v3, rfl, hown3, hb3⟩
  obtain ⟨p3, cap3, rfl, hbs3, hcp3⟩ := hown3.open (be_by _ _)
  have Hbs3 := hide hbs3
  have Hcp3 := hide hcp3
  have Hown3 := hide (Hown2.out.below hb3)
  have Hb3 := hide (Hbel2.out.trans (hb3.mono hsz2))
  have hsz3 := Hb3.out.size
  clear hown3 hbs3 hcp3 hb3 Hown2 Hbel2
  go_wp2_with (at_builtin; refine Stop.at ?_)
  unfold Stop
  refine append_bytes rfl _ _ rfl w.heap.size _ (rhead k l) (be 4 (of [rhead k l])) rfl Hown3.out p3 _ cap3 rfl Hcp3.out.2.2 Hbs3.out (by have := hrl.out; have := H3.out; have := hl.out; rw [be_len]; omega) hsz3 ?_
  intro v4 w4 hown4 hgrow hbel4
  have Hown4 := hide hown4
  have Hbel4 := hide (hbel4 w Hb3.out)
  clear hown4 hgrow hbel4
  go_wp2
  go_ret2
  exact ⟨_, rfl, Hown4.out, Hbel4.out⟩
set_option maxHeartbeats 1000000 in
set_option maxRecDepth 100000 in
theorem refRecord_any (k : Int) (a : Option Addr) (n c : Nat) (l : List Int) (w : World) (hA : BS w a n l) (hp : a = none → c = 0) (h1 : 1 ≤ k) (h2 : k ≤ 200) (h3 : n ≤ 65536) :
    Calls Try.prog 40 #[.int .i64 k, .slice a n c] w fun e w' => ∃ v, e = .returned v ∧ Own w.heap.size w' v (record k l) ∧ Below w.heap.size w w' := by
  have HA := hide hA
  have H3 := hide h3
  have Hp := hide hp
  have hrl := hide (rhead_len k l)
  have hl := hide hA.1
  have Hby := hide hA.2.2.1
  have hb := of_bd [rhead k l]
  have hb0 := hb.1
  have hb1 := hb.2
  have hbe := hide (be4 (of [rhead k l]) hb0 hb1)
  obtain ⟨x, hx⟩ : ∃ x, of [rhead k l] = x := ⟨_, rfl⟩
  rw [hx] at hbe hb0 hb1
  have Hx := hide hx
  clear hA h3 hp hb hx
  go_enter Try.func40, Try.ntmps40
  go_wp2_with fail
  refine (refText_any a n c l _ (HA.out.alloc _) Hp.out (by have := H3.out; omega)).mono ?_
  rintro e w1 ⟨v, rfl, hown, hb⟩
  obtain ⟨p, cap, rfl, hbs, hcp⟩ := hown.open (text_by Hby.out)
  have Hbs := hide hbs
  have Hcp := hide hcp
  have Hown := hide ((Own.one w w.heap.size _ rfl (Nat.le_refl _) k).below hb)
  have Hb : Hid (Below w.heap.size w w1) := ((Below.refl _ w).alloc (Nat.le_refl _) _).trans (hb.mono (by simp))
  have hsz := Hb.out.size
  clear hown hb hbs hcp
  go_wp2_with (at_builtin; refine Stop.at ?_)
  unfold Stop
  refine append_bytes rfl _ _ rfl w.heap.size _ [k] (text l) rfl Hown.out p _ cap rfl Hcp.out.2.2 Hbs.out (by have := hrl.out; have := H3.out; have := hl.out; unfold rhead at *; simp at *; omega) hsz ?_
  intro v2 w2 hown2 hgrow hbel2
  have hE : [k] ++ text l = rhead k l := rfl
  rw [hE] at hown2
  obtain ⟨p2, cap2, rfl, hbs2, hcp2⟩ := hown2.open (rhead_by (by omega) (by omega) Hby.out)
  have Hown2 := hide hown2
  have Hbs2 := hide hbs2
  have Hbel2 := hide (hbel2 w Hb.out)
  have hsz2 := Hbel2.out.size
  clear hown2 hgrow hbel2 hbs2 hcp2 hE Hown Hb
  go_wp2_with fail
  refine (refOf_as _ _ _ (rhead k l) w2 x Hx.out Hbs2.out (by have := hrl.out; have := H3.out; have := hl.out; omega)).mono ?_
  rintro e w3 ⟨rfl, hb3⟩
  have Hown3 := hide (Hown2.out.below hb3)
  have Hb3 := hide (Hbel2.out.trans (hb3.mono hsz2))
  have hsz3 := Hb3.out.size
  clear hb3 Hown2 Hbel2
  go_wp2_with (at_builtin; refine Stop.at ?_)
  unfold Stop
  refine append_bytes rfl _ _ rfl w.heap.size _ (rhead k l) (be 4 (of [rhead k l])) rfl (Hown3.out.alloc _) _ 4 4 rfl (by intro h; cases h) (by rw [Hx.out, hbe.out]; exact BS.new w3 _ rfl _ _ rfl _ 4 rfl (by decide) (by rw [← hbe.out]; exact be_by 4 x)) (by have := hrl.out; have := H3.out; have := hl.out; rw [be_len]; omega) (by simp; omega) ?_
  intro v4 w4 hown4 hgrow hbel4
  have Hown4 := hide hown4
  have Hbel4 := hide (hbel4 w (Hb3.out.alloc (by omega) _))
  clear hown4 hgrow hbel4
  go_wp2
  go_ret
  exact ⟨_, rfl, Hown4.out, Hbel4.out⟩
end Go.Proofs.Ytofalfaiamaapaa

namespace Go.Proofs.Ytofalfaiamaapaa
open Go.RowKit
set_option linter.unusedVariables false
/-- The size, how many bytes its number has, and the error. -/
def getSize : List Int → Int × Nat × Int
  | [] => (0, 0, 3)
  | c :: q =>
    if 3 < c ∨ ¬ nz (q.take c.toNat) ∨ 65536 < val (q.take c.toNat) * 256 ^ (c.toNat - q.length) then (0, 0, 2)
    else if q.length < c.toNat then (0, 0, 3) else (val (q.take c.toNat), 1 + c.toNat, 0)
theorem ahead_as (a : Option Addr) (n c : Nat) (l : List Int) (w : World) (r : Bool) (hr : decide (¬ nz l) = r) (hA : BS w a n l) :
    Calls Try.prog 67 #[.slice a n c] w fun e w' => e = .returned (.bool r) ∧ w' = w := by
  rw [← hr]; exact ahead_any a n c l w hA
theorem value_as (a : Option Addr) (n c : Nat) (l : List Int) (w : World) (x : Int) (hx : val l = x) (hA : BS w a n l) (h8 : n ≤ 8) :
    Calls Try.prog 68 #[.slice a n c] w fun e w' => e = .returned (.int .u64 x) ∧ w' = w := by
  rw [← hx]; exact value_any a n c l w hA h8
theorem pow3 (k : Nat) (h : k ≤ 3) : (256 : Int) ^ k ≤ 16777216 := by
  have h8 : k = 0 ∨ k = 1 ∨ k = 2 ∨ k = 3 := by omega
  rcases h8 with rfl | rfl | rfl | rfl <;> decide
set_option maxHeartbeats 4000000 in
set_option maxRecDepth 100000 in
theorem getSize_any (a : Option Addr) (n c : Nat) (l : List Int) (w : World) (hA : BS w a n l) (hC : CP a n c) :
    Calls Try.prog 59 #[.slice a n c] w fun e w' => e = .returned (.tuple #[.int .i64 (getSize l).1, .int .i64 ((getSize l).2.1 : Int), .int .i64 (getSize l).2.2]) ∧ w' = w := by
  rcases l with _ | ⟨y, q⟩
  · have hn : n = 0 := by have := hA.1; simpa using this.symm
    subst hn
    go_enter Try.func59, Try.ntmps59
    go_wp2
    go_ret3
    exact ⟨rfl, rfl⟩
  · have HA := hide hA
    have HB : Hid (By q) := By.tail hA.2.2.1
    obtain ⟨b, o, rfl, qc, hy0, hy1, hn⟩ := hA.cell0
    have hn0 : ((n : Int) == 0) = false := by simp; omega
    have hmax := hA.2.1
    unfold maxLen at hmax
    have hmaxI : (n : Int) ≤ 9223372036854775807 := by omega
    obtain ⟨k, rfl⟩ := Int.eq_ofNat_of_zero_le hy0
    have hGS : Hid (getSize ((k : Int) :: q) = if 3 < (k : Int) ∨ ¬ nz (q.take k) ∨ 65536 < val (q.take k) * 256 ^ (k - q.length) then (0, 0, 2) else if q.length < k then (0, 0, 3) else (val (q.take k), 1 + k, 0)) := rfl
    have hql : q.length = n - 1 := by omega
    have Hql := hide hql
    have hnp : (0 : Int) < n := by omega
    have hcn : (n : Int) ≤ c := by have := hC.1; omega
    have hcm : (c : Int) ≤ 9223372036854775807 := by have := hC.2.1; unfold maxLen at this; omega
    clear hA hn hql hmax hC
    by_cases h3 : (3 : Int) < k
    · have hres : Hid (getSize ((k : Int) :: q) = (0, 0, 2)) := by refine hide ?_; rw [hGS.out, if_pos (.inl h3)]
      clear hGS
      go_enter Try.func59, Try.ntmps59
      go_wp2
      go_ret3
      rw [hres.out]
      exact ⟨rfl, rfl⟩
    · by_cases hfull : k + 1 ≤ n
      · have hql2 : ¬ q.length < k := by have := Hql.out; omega
        have hj0 : k - q.length = 0 := by omega
        rw [hj0, if_neg hql2] at hGS
        have hk3 : (k : Int) ≤ 3 := by omega
        have hmn : (k : Int) + 1 ≤ (n : Int) := by omega
        have hmin : min (1 + (k : Int)) (n : Int) = 1 + (k : Int) := by omega
        have hkc : 1 + (k : Int) ≤ (c : Int) := by omega
        clear hql2 hj0 h3
        by_cases hc1 : c = 1
        · subst hc1
          have hn1 : n = 1 := by omega
          have hk0 : k = 0 := by omega
          subst hn1 hk0
          have hres : Hid (getSize (((0 : Nat) : Int) :: q) = (0, 1, 0)) := by
            refine hide ?_
            rw [hGS.out, if_neg]
            · rfl
            · rintro (h | h | h)
              · omega
              · exact h (by decide : nz [])
              · simp [val] at h
          clear hGS
          go_enter Try.func59, Try.ntmps59
          go_wp2_with fail
          refine (ahead_as _ 0 _ [] w false (by decide) (BS.nil _ _)).mono ?_
          rintro e w' ⟨rfl, rfl⟩
          go_wp2_with fail
          refine (value_as _ 0 _ [] w' 0 rfl (BS.nil _ _) (by omega)).mono ?_
          rintro e w' ⟨rfl, rfl⟩
          go_wp2_with fail
          refine (value_as _ 0 _ [] w' 0 rfl (BS.nil _ _) (by omega)).mono ?_
          rintro e w' ⟨rfl, rfl⟩
          go_wp2
          go_ret3
          exact ⟨by have := hres.out; simp at this; simp [this], rfl⟩
        · have hbs : Hid (BS w (some ⟨b, o + 1, none⟩) k (q.take k)) := HA.out.at 1 k (by omega)
          have hvb := val_bd (q.take k) (By.take HB.out k)
          have hlk : (q.take k).length = k := by rw [List.length_take]; have := Hql.out; omega
          rw [hlk] at hvb
          have hv0 := hvb.1
          have hv1 : val (q.take k) < 16777216 := by have := pow3 k (by omega); omega
          have H8 : Hid (k ≤ 8) := by show k ≤ 8; omega
          obtain ⟨x, hx⟩ : ∃ x, val (q.take k) = x := ⟨_, rfl⟩
          rw [hx] at hv0 hv1 hGS
          have Hx := hide hx
          clear hvb hlk hx
          by_cases hz : nz (q.take k)
          · have Hz := hide (show decide (¬ nz (q.take k)) = false from decide_eq_false (fun h => h hz))
            by_cases hbig : 65536 < x
            · have hres : Hid (getSize ((k : Int) :: q) = (0, 0, 2)) := by refine hide ?_; rw [hGS.out, if_pos (.inr (.inr (by omega)))]
              clear hGS hz
              go_enter Try.func59, Try.ntmps59
              go_wp2_with fail
              refine (ahead_as _ _ _ (q.take k) w false Hz.out hbs.out).mono ?_
              rintro e w' ⟨rfl, rfl⟩
              go_wp2_with fail
              refine (value_as _ _ _ (q.take k) w' x Hx.out hbs.out H8.out).mono ?_
              rintro e w' ⟨rfl, rfl⟩
              go_wp2
              go_ret3
              rw [hres.out]
              exact ⟨rfl, rfl⟩
            · have hres : Hid (getSize ((k : Int) :: q) = (x, 1 + k, 0)) := by
                refine hide ?_
                rw [hGS.out, if_neg]
                rintro (h | h | h)
                · omega
                · exact h hz
                · omega
              have hnb : ¬ 65536 < x := hbig
              clear hGS hz hbig
              go_enter Try.func59, Try.ntmps59
              go_wp2_with fail
              refine (ahead_as _ _ _ (q.take k) w false Hz.out hbs.out).mono ?_
              rintro e w' ⟨rfl, rfl⟩
              go_wp2_with fail
              refine (value_as _ _ _ (q.take k) w' x Hx.out hbs.out H8.out).mono ?_
              rintro e w' ⟨rfl, rfl⟩
              go_wp2_with fail
              refine (value_as _ _ _ (q.take k) w' x Hx.out hbs.out H8.out).mono ?_
              rintro e w' ⟨rfl, rfl⟩
              go_wp2
              go_ret3
              rw [hres.out]
              exact ⟨by simp, rfl⟩
          · have hres : Hid (getSize ((k : Int) :: q) = (0, 0, 2)) := by refine hide ?_; rw [hGS.out, if_pos (.inr (.inl hz))]
            have Hz := hide (show decide (¬ nz (q.take k)) = true from decide_eq_true hz)
            clear hGS hz
            go_enter Try.func59, Try.ntmps59
            go_wp2_with fail
            refine (ahead_as _ _ _ (q.take k) w true Hz.out hbs.out).mono ?_
            rintro e w' ⟨rfl, rfl⟩
            go_wp2
            go_ret3
            rw [hres.out]
            exact ⟨rfl, rfl⟩
      · have hql2 : q.length < k := by have := Hql.out; omega
        have htk : q.take k = q := List.take_of_length_le (by omega)
        rw [htk, if_pos hql2] at hGS
        have hk3 : k ≤ 3 := by omega
        clear h3 htk
        by_cases hn1 : n = 1
        · subst hn1
          obtain rfl : q = [] := List.eq_nil_of_length_eq_zero Hql.out
          have hres : Hid (getSize ((k : Int) :: []) = (0, 0, 3)) := by
            refine hide ?_
            rw [hGS.out, if_neg]
            rintro (h | h | h)
            · omega
            · exact h (by decide : nz [])
            · simp [val] at h
          clear hGS
          have h3 : k = 1 ∨ k = 2 ∨ k = 3 := by simp at hql2; omega
          by_cases hc1 : c = 1
          · subst hc1
            rcases h3 with rfl | rfl | rfl
            all_goals
              go_enter Try.func59, Try.ntmps59
              go_wp2_with fail
              refine (ahead_as _ 0 _ [] w false (by decide) (BS.nil _ _)).mono ?_
              rintro e w' ⟨rfl, rfl⟩
              go_wp2_with fail
              refine (value_as _ 0 _ [] w' 0 rfl (BS.nil _ _) (by omega)).mono ?_
              rintro e w' ⟨rfl, rfl⟩
              go_wp2
              go_ret3
              exact ⟨by have := hres.out; simp at this; simp [this], rfl⟩
          · rcases h3 with rfl | rfl | rfl
            all_goals
              go_enter Try.func59, Try.ntmps59
              go_wp2_with fail
              refine (ahead_as _ 0 _ [] w false (by decide) (BS.nil _ _)).mono ?_
              rintro e w' ⟨rfl, rfl⟩
              go_wp2_with fail
              refine (value_as _ 0 _ [] w' 0 rfl (BS.nil _ _) (by omega)).mono ?_
              rintro e w' ⟨rfl, rfl⟩
              go_wp2
              go_ret3
              exact ⟨by have := hres.out; simp at this; simp [this], rfl⟩
        · have hnk : (n = 2 ∧ k = 2) ∨ (n = 2 ∧ k = 3) ∨ (n = 3 ∧ k = 3) := by have := Hql.out; omega
          have hbs : Hid (BS w (some ⟨b, o + 1, none⟩) (n - 1) q) := by
            have h1 := HA.out.at 1 (n - 1) (by omega)
            have h2 : ((((k : Int) :: q).drop 1).take (n - 1)) = q := by
              show q.take (n - 1) = q
              exact List.take_of_length_le (by rw [Hql.out]; exact Nat.le_refl _)
            rw [h2] at h1
            exact h1
          have hvb := val_bd q HB.out
          rw [Hql.out] at hvb
          obtain ⟨x, hx⟩ : ∃ x, val q = x := ⟨_, rfl⟩
          rw [hx] at hvb hGS
          have hv0 := hvb.1
          have Hx := hide hx
          have Hv1 := hide hvb.2
          clear hx hvb
          rw [Hql.out] at hGS
          have hc1 : ¬ c = 1 := by omega
          clear hn1 hfull hql2 hk3 hmaxI hnp
          rcases hnk with ⟨rfl, rfl⟩ | ⟨rfl, rfl⟩ | ⟨rfl, rfl⟩
          · have hv1 : x < 256 := Hv1.out
            have hpw : Hid ((256 : Int) ^ (2 - (2 - 1)) = 256) := rfl
            obtain ⟨y, hy⟩ : ∃ y, x * 256 = y := ⟨_, rfl⟩
            have hy0 : 0 ≤ y := by omega
            have hy1 : y < 16777216 := by omega
            have Hy := hide hy
            by_cases hz : nz q
            · have Hz := hide (show decide (¬ nz q) = false from decide_eq_false (fun h => h hz))
              by_cases hbig : 65536 < y
              · have hres : Hid (getSize (((2 : Nat) : Int) :: q) = (0, 0, 2)) := by refine hide ?_; rw [hGS.out, if_pos (.inr (.inr (by rw [hpw.out, Hy.out]; exact hbig)))]
                have HY := hide (And.intro hy hbig)
                clear hGS hz hy hbig hy0 hy1
                go_enter Try.func59, Try.ntmps59
                go_wp2_with fail
                refine (ahead_as _ _ _ q w false Hz.out hbs.out).mono ?_
                rintro e w' ⟨rfl, rfl⟩
                go_wp2_with fail
                refine (value_as _ _ _ q w' x Hx.out hbs.out (by omega)).mono ?_
                rintro e w' ⟨rfl, rfl⟩
                obtain ⟨hy, hbig⟩ := unhide HY
                go_wp2
                go_ret3
                exact ⟨by have := hres.out; simp at this; simp [this], rfl⟩
              · have hres : Hid (getSize (((2 : Nat) : Int) :: q) = (0, 0, 3)) := by
                  refine hide ?_
                  rw [hGS.out, if_neg]
                  rintro (h | h | h)
                  · omega
                  · exact h hz
                  · rw [hpw.out, Hy.out] at h; exact hbig h
                have HY := hide (And.intro hy hbig)
                clear hGS hz hy hbig hy0 hy1
                go_enter Try.func59, Try.ntmps59
                go_wp2_with fail
                refine (ahead_as _ _ _ q w false Hz.out hbs.out).mono ?_
                rintro e w' ⟨rfl, rfl⟩
                go_wp2_with fail
                refine (value_as _ _ _ q w' x Hx.out hbs.out (by omega)).mono ?_
                rintro e w' ⟨rfl, rfl⟩
                obtain ⟨hy, hbig⟩ := unhide HY
                go_wp2
                go_ret3
                exact ⟨by have := hres.out; simp at this; simp [this], rfl⟩
            · have Hz := hide (show decide (¬ nz q) = true from decide_eq_true hz)
              have hres : Hid (getSize (((2 : Nat) : Int) :: q) = (0, 0, 2)) := by refine hide ?_; rw [hGS.out, if_pos (.inr (.inl hz))]
              clear hGS hz
              go_enter Try.func59, Try.ntmps59
              go_wp2_with fail
              refine (ahead_as _ _ _ q w true Hz.out hbs.out).mono ?_
              rintro e w' ⟨rfl, rfl⟩
              go_wp2
              go_ret3
              exact ⟨by have := hres.out; simp at this; simp [this], rfl⟩
          · have hv1 : x < 256 := Hv1.out
            have hpw : Hid ((256 : Int) ^ (3 - (2 - 1)) = 65536) := rfl
            obtain ⟨y, hy⟩ : ∃ y, x * 65536 = y := ⟨_, rfl⟩
            have hy0 : 0 ≤ y := by omega
            have hy1 : y < 16777216 := by omega
            have Hy := hide hy
            by_cases hz : nz q
            · have Hz := hide (show decide (¬ nz q) = false from decide_eq_false (fun h => h hz))
              by_cases hbig : 65536 < y
              · have hres : Hid (getSize (((3 : Nat) : Int) :: q) = (0, 0, 2)) := by refine hide ?_; rw [hGS.out, if_pos (.inr (.inr (by rw [hpw.out, Hy.out]; exact hbig)))]
                have HY := hide (And.intro hy hbig)
                clear hGS hz hy hbig hy0 hy1
                go_enter Try.func59, Try.ntmps59
                go_wp2_with fail
                refine (ahead_as _ _ _ q w false Hz.out hbs.out).mono ?_
                rintro e w' ⟨rfl, rfl⟩
                go_wp2_with fail
                refine (value_as _ _ _ q w' x Hx.out hbs.out (by omega)).mono ?_
                rintro e w' ⟨rfl, rfl⟩
                obtain ⟨hy, hbig⟩ := unhide HY
                go_wp2
                go_ret3
                exact ⟨by have := hres.out; simp at this; simp [this], rfl⟩
              · have hres : Hid (getSize (((3 : Nat) : Int) :: q) = (0, 0, 3)) := by
                  refine hide ?_
                  rw [hGS.out, if_neg]
                  rintro (h | h | h)
                  · omega
                  · exact h hz
                  · rw [hpw.out, Hy.out] at h; exact hbig h
                have HY := hide (And.intro hy hbig)
                clear hGS hz hy hbig hy0 hy1
                go_enter Try.func59, Try.ntmps59
                go_wp2_with fail
                refine (ahead_as _ _ _ q w false Hz.out hbs.out).mono ?_
                rintro e w' ⟨rfl, rfl⟩
                go_wp2_with fail
                refine (value_as _ _ _ q w' x Hx.out hbs.out (by omega)).mono ?_
                rintro e w' ⟨rfl, rfl⟩
                obtain ⟨hy, hbig⟩ := unhide HY
                go_wp2
                go_ret3
                exact ⟨by have := hres.out; simp at this; simp [this], rfl⟩
            · have Hz := hide (show decide (¬ nz q) = true from decide_eq_true hz)
              have hres : Hid (getSize (((3 : Nat) : Int) :: q) = (0, 0, 2)) := by refine hide ?_; rw [hGS.out, if_pos (.inr (.inl hz))]
              clear hGS hz
              go_enter Try.func59, Try.ntmps59
              go_wp2_with fail
              refine (ahead_as _ _ _ q w true Hz.out hbs.out).mono ?_
              rintro e w' ⟨rfl, rfl⟩
              go_wp2
              go_ret3
              exact ⟨by have := hres.out; simp at this; simp [this], rfl⟩
          · have hv1 : x < 65536 := Hv1.out
            have hpw : Hid ((256 : Int) ^ (3 - (3 - 1)) = 256) := rfl
            obtain ⟨y, hy⟩ : ∃ y, x * 256 = y := ⟨_, rfl⟩
            have hy0 : 0 ≤ y := by omega
            have hy1 : y < 16777216 := by omega
            have Hy := hide hy
            by_cases hz : nz q
            · have Hz := hide (show decide (¬ nz q) = false from decide_eq_false (fun h => h hz))
              by_cases hbig : 65536 < y
              · have hres : Hid (getSize (((3 : Nat) : Int) :: q) = (0, 0, 2)) := by refine hide ?_; rw [hGS.out, if_pos (.inr (.inr (by rw [hpw.out, Hy.out]; exact hbig)))]
                have HY := hide (And.intro hy hbig)
                clear hGS hz hy hbig hy0 hy1
                go_enter Try.func59, Try.ntmps59
                go_wp2_with fail
                refine (ahead_as _ _ _ q w false Hz.out hbs.out).mono ?_
                rintro e w' ⟨rfl, rfl⟩
                go_wp2_with fail
                refine (value_as _ _ _ q w' x Hx.out hbs.out (by omega)).mono ?_
                rintro e w' ⟨rfl, rfl⟩
                obtain ⟨hy, hbig⟩ := unhide HY
                go_wp2
                go_ret3
                exact ⟨by have := hres.out; simp at this; simp [this], rfl⟩
              · have hres : Hid (getSize (((3 : Nat) : Int) :: q) = (0, 0, 3)) := by
                  refine hide ?_
                  rw [hGS.out, if_neg]
                  rintro (h | h | h)
                  · omega
                  · exact h hz
                  · rw [hpw.out, Hy.out] at h; exact hbig h
                have HY := hide (And.intro hy hbig)
                clear hGS hz hy hbig hy0 hy1
                go_enter Try.func59, Try.ntmps59
                go_wp2_with fail
                refine (ahead_as _ _ _ q w false Hz.out hbs.out).mono ?_
                rintro e w' ⟨rfl, rfl⟩
                go_wp2_with fail
                refine (value_as _ _ _ q w' x Hx.out hbs.out (by omega)).mono ?_
                rintro e w' ⟨rfl, rfl⟩
                obtain ⟨hy, hbig⟩ := unhide HY
                go_wp2
                go_ret3
                exact ⟨by have := hres.out; simp at this; simp [this], rfl⟩
            · have Hz := hide (show decide (¬ nz q) = true from decide_eq_true hz)
              have hres : Hid (getSize (((3 : Nat) : Int) :: q) = (0, 0, 2)) := by refine hide ?_; rw [hGS.out, if_pos (.inr (.inl hz))]
              clear hGS hz
              go_enter Try.func59, Try.ntmps59
              go_wp2_with fail
              refine (ahead_as _ _ _ q w true Hz.out hbs.out).mono ?_
              rintro e w' ⟨rfl, rfl⟩
              go_wp2
              go_ret3
              exact ⟨by have := hres.out; simp at this; simp [this], rfl⟩
end Go.Proofs.Ytofalfaiamaapaa

namespace Go.Proofs.Ytofalfaiamaapaa
open Go.RowKit Go.ChangeShapes Go.WideShapes
set_option linter.unusedVariables false
/-- Bytes that came in. -/
def InB (w : World) (v : Value) : Prop := ∃ a len cap l, v = .slice a len cap ∧ BS w a len l ∧ CP a len cap ∧ len ≤ 140737488351232
set_option maxRecDepth 100000 in
theorem byte_wf {n : Int} (h : (Lit.int .u8 n).wf = true) : 0 ≤ n ∧ n < 256 := by
  simp [Lit.wf, IntKind.min, IntKind.max, IntKind.bits, IntKind.signed] at h
  omega
set_option maxRecDepth 100000 in
theorem bs_of_cells {w : World} {x : Addr} {len cap : Nat} {zs : List Int} (hl : len ≤ cap) (hm : cap ≤ maxLen) (hz : zs.length = cap) (hcell : ∀ i, i < cap → w.cell? (x.add i) = some (.int .u8 (zs.getD i 0))) (hwz : ∀ n ∈ zs, (Lit.int .u8 n).wf = true) :
    BS w (some x) len (zs.take len) := by
  refine ⟨by rw [List.length_take]; omega, by omega, fun n hn => byte_wf (hwz n (List.mem_of_mem_take hn)), ?_⟩
  rcases Nat.eq_zero_or_pos len with h0 | hp
  · exact .inl h0
  · obtain ⟨b, off, spot⟩ := x
    have hspot : spot = none := by simpa [Addr.add] using World.cell?_spot (hcell 0 (by omega))
    subst hspot
    refine .inr ⟨b, off, rfl, fun i hi => ?_⟩
    have h1 := hcell i (by omega)
    have h2 : (zs.take len).getD i 0 = zs.getD i 0 := by simp [List.getD_eq_getElem?_getD, hi]
    rw [h2]
    by_cases hi0 : i = 0
    · subst hi0; simpa [Addr.add] using h1
    · simpa [Addr.add, hi0] using h1
set_option maxRecDepth 100000 in
theorem Try.bytesU8 : Try.prog.bytesOf 5 = 1 := by kernel_rfl
section
variable {H : Type} {enc : TypeId × Value → H} {W : World}
set_option maxRecDepth 100000 in
theorem in_bytes {v : Value} {d : DataW H} {p : List MemPlace} {base : Nat} (hok : Value.okWide Try.prog W .any base 22 v) (h : DataW.Trod enc Try.prog W 0 (fun _ => true) true 22 v d p) (hw : ∀ n ∈ d.weights Try.prog 22, n ≤ reachBytes) : InB W v := by
  obtain ⟨a, len, cap, rfl⟩ := okWide_slice Try.underlying22 hok
  obtain ⟨fuel, hf⟩ := h
  rcases open_ints Try.underlying22 Try.underlying5 (by kernel_rfl) hf with ⟨hcs, _⟩ | ⟨x, l, c, zs, hcs, _, hl, hm, hz, hx, hcell, hwz⟩
  · simp [Value.cells] at hcs
    obtain ⟨rfl, rfl, rfl⟩ := hcs
    exact ⟨_, _, _, [], rfl, BS.nil _ _, ⟨Nat.le_refl _, by decide, fun _ => rfl⟩, by omega⟩
  · simp [Value.cells] at hcs
    obtain ⟨rfl, rfl, rfl⟩ := hcs
    simp at hz
    simp only [Prod.mk.injEq] at hx
    obtain ⟨rfl, _⟩ := hx
    have h1 := hw ((zs.take len).length + (zs.drop len).length) (by simp [DataW.weights, Try.underlying22, Try.bytesU8, lits])
    have h2 : reachBytes = 140737488351232 := rfl
    rw [← List.length_append, List.take_append_drop, h2] at h1
    exact ⟨_, _, _, zs.take len, rfl, bs_of_cells hl hm hz (fun i hi => hcell i (by omega)) hwz, ⟨hl, hm, fun h => by cases h⟩, by omega⟩
set_option maxRecDepth 100000 in
theorem mem_weightsAll {P : Program} {e : TypeId} {n : Nat} : ∀ {ds : List (DataW H)} {d : DataW H}, d ∈ ds → n ∈ d.weights P e → n ∈ DataW.weightsAll P e ds
  | d0 :: r, d, hd, hn => by
    simp only [DataW.weightsAll, List.mem_append]
    rcases List.mem_cons.1 hd with rfl | hd
    · exact .inl hn
    · exact .inr (mem_weightsAll hd hn)
end
end Go.Proofs.Ytofalfaiamaapaa

namespace Go.Proofs.Ytofalfaiamaapaa
open Go.RowKit
theorem held_next {W0 W w' : World} {p : Addr} {v : Value} (h : W.cell? p = some v ∧ Hid (Below W0.heap.size W0 W)) (hb : Below W.heap.size W w') : w'.cell? p = some v ∧ Hid (Below W0.heap.size W0 w') :=
  ⟨by rw [hb.cell (World.block_lt_of_cell? W _ h.1)]; exact h.1, h.2.out.trans (hb.mono h.2.out.size)⟩
theorem BS.held {W0 W : World} {p : Addr} {v : Value} {a : Option Addr} {n : Nat} {l : List Int} (hB : BS W0 a n l) (h : W.cell? p = some v ∧ Hid (Below W0.heap.size W0 W)) : BS W a n l := hB.below h.2.out
end Go.Proofs.Ytofalfaiamaapaa

namespace Go.Proofs.Ytofalfaiamaapaa
open Go.RowKit
set_option linter.unusedVariables false
theorem str_of {w : World} {p : Option Addr} {n c : Nat} {l : List Int} (h : BS w p n l) (hn : 0 < n) : (convert 22 9 (.slice p n c)).run Try.prog w = .ok (.string (strOfNums l)) w := by
  obtain ⟨g1, g2, g3, g4⟩ := h
  rcases g4 with h0 | ⟨b, off, rfl, hc⟩
  · omega
  · exact run_convert_bytes_arg (P := Try.prog) w 22 5 Try.underlying22 Try.underlying5 b off n c l g1 hc 9 Try.underlying9
theorem u8_inj {a b : Int} (ha0 : 0 ≤ a) (ha : a < 256) (hb0 : 0 ≤ b) (hb : b < 256) (h : UInt8.ofNat a.toNat = UInt8.ofNat b.toNat) : a = b := by
  have e1 : (UInt8.ofNat a.toNat).toNat = a.toNat := by simp; omega
  have e2 : (UInt8.ofNat b.toNat).toNat = b.toNat := by simp; omega
  have := congrArg UInt8.toNat h
  rw [e1, e2] at this
  omega
theorem map_inj : ∀ (l m : List Int), By l → By m → (l.map fun n => UInt8.ofNat n.toNat) = (m.map fun n => UInt8.ofNat n.toNat) → l = m
  | [], [], _, _, _ => rfl
  | [], _ :: _, _, _, h => by simp at h
  | _ :: _, [], _, _, h => by simp at h
  | a :: l, b :: m, hl, hm, h => by
    simp only [List.map_cons, List.cons.injEq] at h
    rw [u8_inj hl.head.1 hl.head.2 hm.head.1 hm.head.2 h.1, map_inj l m hl.tail hm.tail h.2]
theorem str_eq (l m : List Int) (hl : By l) (hm : By m) : ((strOfNums l).toList == (strOfNums m).toList) = decide (l = m) := by
  unfold strOfNums
  rw [ByteArray.toList_mk, ByteArray.toList_mk]
  by_cases h : l = m
  · subst h; simp
  · rw [decide_eq_false h]
    exact beq_eq_false_iff_ne.2 fun hh => h (map_inj l m hl hm hh)
set_option maxHeartbeats 400000 in
theorem equal_as (a b : Option Addr) (n c m d : Nat) (l k : List Int) (w : World) (r : Bool) (hr : decide (l = k) = r) (hA : BS w a n l) (hB : BS w b m k) (hn : 0 < n) (hm : 0 < m) :
    Calls Try.prog 60 #[.slice a n c, .slice b m d] w fun e w' => e = .returned (.bool r) ∧ w' = w := by
  have h1 := str_of (c := c) hA hn
  have h2 := str_of (c := d) hB hm
  have h3 := str_eq l k hA.2.2.1 hB.2.2.1
  rw [hr] at h3
  clear hA hB
  go_enter Try.func60, Try.ntmps60
  go_wp2
  go_ret
  exact ⟨rfl, rfl⟩
/-- The Kind, the body, how many bytes, and the error. -/
def getRecord (b : List Int) : Int × List Int × Nat × Int :=
  match b with
  | [] => (0, [], 0, 3)
  | k :: r =>
    if k < 1 ∨ 200 < k then (0, [], 0, 2)
    else if (getSize r).2.2 ≠ 0 then (0, [], 0, (getSize r).2.2)
    else if b.length < 1 + (getSize r).2.1 + (getSize r).1.toNat + 4 then (0, [], 0, 3)
    else if (b.drop (1 + (getSize r).2.1 + (getSize r).1.toNat)).take 4 = be 4 (of [b.take (1 + (getSize r).2.1 + (getSize r).1.toNat)]) then
      (k, (b.drop (1 + (getSize r).2.1)).take (getSize r).1.toNat, 1 + (getSize r).2.1 + (getSize r).1.toNat + 4, 0)
    else (0, [], 0, 2)
theorem getSize_ok {r : List Int} (hr : By r) (h : (getSize r).2.2 = 0) : ∃ s m : Nat, getSize r = ((s : Int), m, 0) ∧ s ≤ 65536 ∧ 1 ≤ m ∧ m ≤ 4 ∧ m ≤ r.length ∧ getNum r = some ((s : Int), m) := by
  rcases r with _ | ⟨c, q⟩
  · simp [getSize] at h
  · have hc := hr.head
    have hb := val_bd (q.take c.toNat) (hr.tail.take _)
    have e : getSize (c :: q) = if 3 < c ∨ ¬ nz (q.take c.toNat) ∨ 65536 < val (q.take c.toNat) * 256 ^ (c.toNat - q.length) then (0, 0, 2) else if q.length < c.toNat then (0, 0, 3) else (val (q.take c.toNat), 1 + c.toNat, 0) := rfl
    rw [e] at h ⊢
    split at h
    · simp at h
    · rename_i h1
      split at h
      · simp at h
      · rename_i h2
        rw [if_neg h1, if_neg h2]
        have hz : nz (q.take c.toNat) := by
          rcases Decidable.em (nz (q.take c.toNat)) with hz | hz
          · exact hz
          · exact absurd (.inr (.inl hz)) h1
        have h3 : ¬ 65536 < val (q.take c.toNat) * 256 ^ (c.toNat - q.length) := fun hh => h1 (.inr (.inr hh))
        have h0 : c.toNat - q.length = 0 := by omega
        rw [h0, Int.pow_zero, Int.mul_one] at h3
        refine ⟨(val (q.take c.toNat)).toNat, 1 + c.toNat, ?_, by omega, by omega, by omega, by simp; omega, ?_⟩
        · rw [Int.toNat_of_nonneg hb.1]
        · rw [getNum_cons, if_neg, Int.toNat_of_nonneg hb.1, Nat.add_comm]
          rintro (hh | hh | hh)
          · omega
          · omega
          · exact hh hz
theorem results_tmp4 {fn : Func} {t u v x : Tmp} (h : fn.results = #[.tmp t, .tmp u, .tmp v, .tmp x]) (tmps : Array Value) (P : Program) (w : World) :
    (results fn tmps).run P w = .ok (.tuple #[tmps.getD t undef, tmps.getD u undef, tmps.getD v undef, tmps.getD x undef]) w := by
  simp [results, h]
end Go.Proofs.Ytofalfaiamaapaa

namespace Go.Proofs.Ytofalfaiamaapaa
set_option linter.unusedVariables false
theorem nb3 {s : Int} (h : s ≤ 65536) : nb s ≤ 3 := by
  unfold nb
  repeat' split
  all_goals omega
theorem getSize_num {r : List Int} (hr : By r) {s : Int} {m : Nat} (h : getNum r = some (s, m)) (hs : s ≤ 65536) : getSize r = (s, m, 0) := by
  obtain ⟨g0, g1, g2, g3, g4, g5, g6⟩ := getNum_some hr h
  rcases r with _ | ⟨c, q⟩
  · cases h
  · have hc := hr.head
    rw [getNum_cons] at h
    split at h
    · cases h
    · rename_i hn
      simp only [Option.some.injEq, Prod.mk.injEq] at h
      obtain ⟨rfl, rfl⟩ := h
      have h3 := nb3 hs
      have hz : nz (q.take c.toNat) := by
        rcases Decidable.em (nz (q.take c.toNat)) with hz | hz
        · exact hz
        · exact absurd (.inr (.inr hz)) hn
      have h0 : c.toNat - q.length = 0 := by omega
      show (if 3 < c ∨ ¬ nz (q.take c.toNat) ∨ 65536 < val (q.take c.toNat) * 256 ^ (c.toNat - q.length) then (0, 0, 2) else if q.length < c.toNat then (0, 0, 3) else (val (q.take c.toNat), 1 + c.toNat, 0)) = _
      rw [h0, if_neg, if_neg (by omega), Nat.add_comm]
      rintro (hh | hh | hh)
      · omega
      · exact hh hz
      · rw [Int.pow_zero, Int.mul_one] at hh; omega
theorem record_by {k : Int} {t : List Int} (h0 : 0 ≤ k) (h1 : k < 256) (h : By t) : By (record k t) := (rhead_by h0 h1 h).append (be_by _ _)
end Go.Proofs.Ytofalfaiamaapaa

namespace Go.Proofs.Ytofalfaiamaapaa
open Go.RowKit
set_option linter.unusedVariables false
theorem Own.none (N : Nat) (w : World) : Own N w (.slice Option.none 0 0) [] := ⟨rfl, .inl ⟨rfl, rfl⟩⟩
theorem rec_cons (k : Int) (r : List Int) : getRecord (k :: r) = if k < 1 ∨ 200 < k then (0, [], 0, 2)
    else if (getSize r).2.2 ≠ 0 then (0, [], 0, (getSize r).2.2)
    else if (k :: r).length < 1 + (getSize r).2.1 + (getSize r).1.toNat + 4 then (0, [], 0, 3)
    else if ((k :: r).drop (1 + (getSize r).2.1 + (getSize r).1.toNat)).take 4 = be 4 (of [(k :: r).take (1 + (getSize r).2.1 + (getSize r).1.toNat)]) then
      (k, ((k :: r).drop (1 + (getSize r).2.1)).take (getSize r).1.toNat, 1 + (getSize r).2.1 + (getSize r).1.toNat + 4, 0)
    else (0, [], 0, 2) := rfl
theorem getSize_err {r : List Int} (h : ¬ (getSize r).2.2 = 0) : getSize r = (0, 0, 2) ∨ getSize r = (0, 0, 3) := by
  rcases r with _ | ⟨c, q⟩
  · exact .inr rfl
  · have e : getSize (c :: q) = if 3 < c ∨ ¬ nz (q.take c.toNat) ∨ 65536 < val (q.take c.toNat) * 256 ^ (c.toNat - q.length) then (0, 0, 2) else if q.length < c.toNat then (0, 0, 3) else (val (q.take c.toNat), 1 + c.toNat, 0) := rfl
    rw [e] at h ⊢
    split
    · exact .inl rfl
    · rename_i h1
      rw [if_neg h1] at h
      split
      · exact .inr rfl
      · rename_i h2
        rw [if_neg h2] at h
        exact absurd rfl h
theorem getSize_nil : getSize [] = (0, 0, 3) := rfl
/-- What GetRecord's contract says. -/
def RecSays (l : List Int) (w : World) (e : Ending) (w' : World) : Prop :=
  ∃ v, e = .returned (.tuple #[.int .i64 (getRecord l).1, v, .int .i64 ((getRecord l).2.2.1 : Int), .int .i64 (getRecord l).2.2.2]) ∧ Own w.heap.size w' v (getRecord l).2.1 ∧ Below w.heap.size w w'
theorem RecSays.err {l : List Int} {w w' : World} {er : Int} (h : getRecord l = (0, [], 0, er)) (hb : Below w.heap.size w w') : RecSays l w (.returned (.tuple #[.int .i64 0, .slice none 0 0, .int .i64 0, .int .i64 er])) w' := by
  unfold RecSays
  rw [h]
  exact ⟨_, rfl, Own.none _ _, hb⟩
theorem RecSays.ok {l : List Int} {w w' : World} {k : Int} {t : List Int} {n : Nat} {v : Value} (h : getRecord l = (k, t, n, 0)) (ho : Own w.heap.size w' v t) (hb : Below w.heap.size w w') :
    RecSays l w (.returned (.tuple #[.int .i64 k, v, .int .i64 (n : Int), .int .i64 0])) w' := by
  unfold RecSays
  rw [h]
  exact ⟨_, rfl, ho, hb⟩
set_option maxHeartbeats 8000000 in
set_option maxRecDepth 100000 in
theorem getRec_any (a : Option Addr) (n c : Nat) (l : List Int) (w : World) (hA : BS w a n l) (hC : CP a n c) :
    Calls Try.prog 51 #[.slice a n c] w fun e w' => RecSays l w e w' := by
  rcases l with _ | ⟨y, r⟩
  · have hn : n = 0 := by have := hA.1; simpa using this.symm
    subst hn
    go_enter Try.func51, Try.ntmps51
    go_wp2
    refine bodyPost_ret (results_tmp4 rfl _ _ _) rfl ?_
    exact RecSays.err rfl (Below.refl _ _)
  · have HA := hide hA
    have HB : Hid (By r) := By.tail hA.2.2.1
    have HBl : Hid (By (y :: r)) := hA.2.2.1
    obtain ⟨b, o, rfl, qc, hy0, hy1, hn⟩ := hA.cell0
    have hn0 : ((n : Int) == 0) = false := by simp; omega
    have hmaxI : (n : Int) ≤ 9223372036854775807 := by have := hA.2.1; unfold maxLen at this; omega
    have hrl : r.length = n - 1 := by omega
    have Hrl := hide hrl
    have hnp : (1 : Int) ≤ n := by omega
    have hcn : (n : Int) ≤ c := by have := hC.1; omega
    have hcm : (c : Int) ≤ 9223372036854775807 := by have := hC.2.1; unfold maxLen at this; omega
    have HR := hide (rec_cons y r)
    clear hA hn hrl hC
    by_cases h1 : y < 1
    · have hres : Hid (getRecord (y :: r) = (0, [], 0, 2)) := by refine hide ?_; rw [HR.out, if_pos (.inl h1)]
      go_enter Try.func51, Try.ntmps51
      go_wp2
      refine bodyPost_ret (results_tmp4 rfl _ _ _) rfl ?_
      exact RecSays.err hres.out (Below.refl _ _)
    · have d1 : decide (y < 1) = false := by simp; omega
      by_cases h2 : 200 < y
      · have hres : Hid (getRecord (y :: r) = (0, [], 0, 2)) := by refine hide ?_; rw [HR.out, if_pos (.inr h2)]
        clear h1
        go_enter Try.func51, Try.ntmps51
        go_wp2
        refine bodyPost_ret (results_tmp4 rfl _ _ _) rfl ?_
        exact RecSays.err hres.out (Below.refl _ _)
      · have d2 : decide (200 < y) = false := by simp; omega
        have HR : Hid (getRecord (y :: r) = if (getSize r).2.2 ≠ 0 then (0, [], 0, (getSize r).2.2)
            else if (y :: r).length < 1 + (getSize r).2.1 + (getSize r).1.toNat + 4 then (0, [], 0, 3)
            else if ((y :: r).drop (1 + (getSize r).2.1 + (getSize r).1.toNat)).take 4 = be 4 (of [(y :: r).take (1 + (getSize r).2.1 + (getSize r).1.toNat)]) then
              (y, ((y :: r).drop (1 + (getSize r).2.1)).take (getSize r).1.toNat, 1 + (getSize r).2.1 + (getSize r).1.toNat + 4, 0)
            else (0, [], 0, 2)) := by refine hide ?_; rw [HR.out, if_neg (by omega)]
        clear h1 h2
        by_cases hc1 : c = 1
        · subst hc1
          have hn1 : n = 1 := by omega
          subst hn1
          obtain rfl : r = [] := List.eq_nil_of_length_eq_zero Hrl.out
          have hres : Hid (getRecord (y :: []) = (0, [], 0, 3)) := by refine hide ?_; rw [HR.out, getSize_nil, if_pos (by decide)]
          clear HR
          go_enter Try.func51, Try.ntmps51
          go_wp2_with fail
          refine (getSize_any _ 0 _ [] w (BS.nil _ _) ⟨by omega, by decide, fun h => by cases h⟩).mono ?_
          rw [getSize_nil]
          rintro e w' ⟨rfl, rfl⟩
          go_wp2
          refine bodyPost_ret (results_tmp4 rfl _ _ _) rfl ?_
          exact RecSays.err hres.out (Below.refl _ _)
        · have hbs : Hid (BS w (some ⟨b, o + 1, none⟩) (n - 1) r) := by
            have q1 := HA.out.at 1 (n - 1) (by omega)
            have q2 : (((y :: r).drop 1).take (n - 1)) = r := by
              show r.take (n - 1) = r
              exact List.take_of_length_le (by rw [Hrl.out]; exact Nat.le_refl _)
            rw [q2] at q1
            exact q1
          have hcp : Hid (CP (some ⟨b, o + 1, none⟩) (n - 1) (c - 1)) := CP.some (by omega) (by unfold maxLen; omega)
          by_cases he : (getSize r).2.2 = 0
          · obtain ⟨s, m, hgs, hs, hm1, hm4, hmr, hgn⟩ := getSize_ok HB.out he
            have hsI : (s : Int) ≤ 65536 := by omega
            have hmI : (m : Int) ≤ 4 := by omega
            have hmI1 : (1 : Int) ≤ m := by omega
            rw [hgs] at HR
            have Hgs := hide hgs
            obtain ⟨F, hF⟩ : ∃ F : Nat, 1 + m = F := ⟨_, rfl⟩
            obtain ⟨T, hT⟩ : ∃ T : Nat, F + s = T := ⟨_, rfl⟩
            have hFI : (1 : Int) + (m : Int) = (F : Int) := by omega
            have hTI : (F : Int) + (s : Int) = (T : Int) := by omega
            have HR : Hid (getRecord (y :: r) = if (y :: r).length < T + 4 then (0, [], 0, 3)
                else if ((y :: r).drop T).take 4 = be 4 (of [(y :: r).take T]) then (y, ((y :: r).drop F).take s, T + 4, 0)
                else (0, [], 0, 2)) := by
              refine hide ?_
              rw [HR.out]
              simp only [ne_eq, not_true_eq_false, if_false, Int.toNat_natCast, hF, hT]
            have HF := hide (And.intro hF hT)
            have Hlen : Hid ((y :: r).length = n) := HA.out.1
            have Hmr := hide hmr
            clear hs hm1 hm4 hmr hgn hgs he hF hT
            by_cases hlt : (n : Int) < (T : Int) + 4
            · have hres : Hid (getRecord (y :: r) = (0, [], 0, 3)) := by refine hide ?_; rw [HR.out, Hlen.out, if_pos (by omega)]
              clear HR
              go_enter Try.func51, Try.ntmps51
              go_wp2_with fail
              refine (getSize_any _ _ _ r w hbs.out hcp.out).mono ?_
              rw [Hgs.out]
              rintro e w' ⟨rfl, rfl⟩
              go_wp2
              refine bodyPost_ret (results_tmp4 rfl _ _ _) rfl ?_
              exact RecSays.err hres.out (Below.refl _ _)
            · have HR : Hid (getRecord (y :: r) = if ((y :: r).drop T).take 4 = be 4 (of [(y :: r).take T]) then (y, ((y :: r).drop F).take s, T + 4, 0) else (0, [], 0, 2)) := by
                refine hide ?_; rw [HR.out, Hlen.out, if_neg (by omega)]
              have hT4 : (T : Int) + 4 ≤ (c : Int) := by omega
              have hTc : (T : Int) ≤ (c : Int) := by omega
              have hTT : (T : Int) ≤ (T : Int) + 4 := by omega
              have hFT : (F : Int) ≤ (T : Int) := by omega
              have hcT : ¬ c = T := by omega
              have hcF : ¬ c = F := by omega
              have hb4 : Hid (BS w (some ⟨b, o + T, none⟩) 4 (((y :: r).drop T).take 4)) := HA.out.at T 4 (by omega)
              have hbT : Hid (BS w (some ⟨b, o, none⟩) T ((y :: r).take T)) := HA.out.head T (by omega)
              have hbF : Hid (BS w (some ⟨b, o + F, none⟩) s (((y :: r).drop F).take s)) := HA.out.at F s (by have := HF.out; omega)
              obtain ⟨E, hE⟩ : ∃ E : Nat, E = T + 4 := ⟨_, rfl⟩
              have hEI : (T : Int) + 4 = (E : Int) := by omega
              have hE1 : (T : Int) ≤ (E : Int) := by omega
              have hE2 : (E : Int) ≤ (c : Int) := by omega
              have hE3 : ¬ (n : Int) < (E : Int) := by omega
              have hE4 : (E : Int) ≤ 9223372036854775807 := by omega
              have hT9 : (T : Int) ≤ 9223372036854775807 := by omega
              have hwr : IntKind.i64.wrap (E : Int) = (E : Int) := by rw [IntKind.wrap_i64]; omega
              have hET : E - T = 4 := by omega
              have HE := hide hE
              have HET := hide hET
              have hb4 : Hid (BS w (some ⟨b, o + T, none⟩) (E - T) (((y :: r).drop T).take 4)) := by rw [hET]; exact hb4
              have h4p : Hid (0 < E - T) := by show 0 < E - T; omega
              clear hE hlt hET
              have hTF : T - F = s := by have := HF.out; omega
              rw [← hTF] at hbF
              have hTF2 : Hid (T - F ≤ 1000000) := by show T - F ≤ 1000000; omega
              have HTF := hide hTF
              clear hTF
              by_cases hd : ((y :: r).drop T).take 4 = be 4 (of [(y :: r).take T])
              · have hres : Hid (getRecord (y :: r) = (y, ((y :: r).drop F).take s, T + 4, 0)) := by refine hide ?_; rw [HR.out, if_pos hd]
                have Hd := hide (decide_eq_true hd)
                clear hd HR
                go_enter Try.func51, Try.ntmps51
                go_wp2_with fail
                refine (getSize_any _ _ _ r w hbs.out hcp.out).mono ?_
                rw [Hgs.out]
                rintro e w' ⟨rfl, rfl⟩
                go_wp2_with fail
                go_region_held3 (fun _ => True) (trivial) (first
                  | (go_at_call 61; refine (sumOf_any _ _ _ ((y :: r).take T) _ (by exact hbT.out.drew)).mono ?_; rintro e w2 ⟨v2, rfl, hown2, hb2⟩; obtain ⟨p2, c2, rfl, hbs2, hcp2⟩ := hown2.open (be_by _ _); simp only [be_len] at hbs2 ⊢; have HS := hide hbs2; have HZ := hide hb2; clear hown2 hbs2 hb2 hcp2)
                  | (go_at_call 60; refine (equal_as _ _ _ _ _ _ (((y :: r).drop T).take 4) (be 4 (of [(y :: r).take T])) _ true Hd.out (by exact hb4.out.drew.below HZ.out) (by exact HS.out) h4p.out (by omega)).mono ?_; rintro e w3 ⟨rfl, rfl⟩))
                have HZ2 : Hid (Below w'.heap.size w' w3) := (Below.refl _ w').drew.trans HZ.out
                clear HZ HS
                have qc2 : w3.cell? ⟨b, o, none⟩ = some (.int .u8 y) := by rw [HZ2.out.cell (World.block_lt_of_cell? w' _ qc)]; exact qc
                have hbF3 := hide (hbF.out.below HZ2.out)
                have hk0 : w3.drew.cell? ⟨b, o, none⟩ = some (.int .u8 y) ∧ Hid (Below w3.heap.size w3 w3.drew) := ⟨qc2, (Below.refl _ w3).drew⟩
                have hwy : IntKind.i64.wrap y = y := by rw [IntKind.wrap_i64]; omega
                have hnq : (0 : Int) < (n : Int) := by omega
                have hnr : 0 < n := by omega
                clear qc hbF hbT hb4 hbs HA
                go_wp2_with fail
                go_region_held3 (fun W => W.cell? ⟨b, o, none⟩ = some (.int .u8 y) ∧ Hid (Below w3.heap.size w3 W)) (first | exact hk1 | exact hk0) (first
                  | (go_at_call 62; refine (clone_any _ _ _ _ _ (by exact hbF3.out.held (by assumption)) (fun h => by cases h) hTF2.out).mono ?_; rintro e w4 ⟨v4, rfl, hown4, hb5⟩; have hk1 := held_next (by assumption) hb5; have HO := hide hown4; clear hown4 hb5))
                have hres2 := hres.out
                rw [← HE.out] at hres2
                have z := HZ2.out.size
                have ho := HO.out
                rw [HTF.out] at ho
                have hsay := RecSays.ok (w := w') hres2 (Own.mono ho (show w'.heap.size ≤ w3.drew.heap.size from z)) (HZ2.out.trans (hk1.2.out.mono z))
                have Hsay := hide hsay
                clear hsay hres2 hk1 hk0 ho
                go_wp2
                refine bodyPost_ret (results_tmp4 rfl _ _ _) rfl ?_
                exact Hsay.out
              · have hres : Hid (getRecord (y :: r) = (0, [], 0, 2)) := by refine hide ?_; rw [HR.out, if_neg hd]
                have Hd := hide (decide_eq_false hd)
                clear hd HR
                go_enter Try.func51, Try.ntmps51
                go_wp2_with fail
                refine (getSize_any _ _ _ r w hbs.out hcp.out).mono ?_
                rw [Hgs.out]
                rintro e w' ⟨rfl, rfl⟩
                go_wp2_with fail
                go_region_held3 (fun _ => True) (trivial) (first
                  | (go_at_call 61; refine (sumOf_any _ _ _ ((y :: r).take T) _ (by exact hbT.out.drew)).mono ?_; rintro e w2 ⟨v2, rfl, hown2, hb2⟩; obtain ⟨p2, c2, rfl, hbs2, hcp2⟩ := hown2.open (be_by _ _); simp only [be_len] at hbs2 ⊢; have HS := hide hbs2; have HZ := hide hb2; clear hown2 hbs2 hb2 hcp2)
                  | (go_at_call 60; refine (equal_as _ _ _ _ _ _ (((y :: r).drop T).take 4) (be 4 (of [(y :: r).take T])) _ false Hd.out (by exact hb4.out.drew.below HZ.out) (by exact HS.out) h4p.out (by omega)).mono ?_; rintro e w3 ⟨rfl, rfl⟩))
                have HZ2 : Hid (Below w'.heap.size w' w3) := (Below.refl _ w').drew.trans HZ.out
                clear HZ HS
                go_wp2
                refine bodyPost_ret (results_tmp4 rfl _ _ _) rfl ?_
                exact RecSays.err hres.out HZ2.out
          · rcases getSize_err he with hgs | hgs
            · have hres : Hid (getRecord (y :: r) = (0, [], 0, 2)) := by refine hide ?_; rw [HR.out, if_pos he, hgs]
              have Hgs := hide hgs
              clear HR he hgs
              go_enter Try.func51, Try.ntmps51
              go_wp2_with fail
              refine (getSize_any _ _ _ r w hbs.out hcp.out).mono ?_
              rw [Hgs.out]
              rintro e w' ⟨rfl, rfl⟩
              go_wp2
              refine bodyPost_ret (results_tmp4 rfl _ _ _) rfl ?_
              exact RecSays.err hres.out (Below.refl _ _)
            · have hres : Hid (getRecord (y :: r) = (0, [], 0, 3)) := by refine hide ?_; rw [HR.out, if_pos he, hgs]
              have Hgs := hide hgs
              clear HR he hgs
              go_enter Try.func51, Try.ntmps51
              go_wp2_with fail
              refine (getSize_any _ _ _ r w hbs.out hcp.out).mono ?_
              rw [Hgs.out]
              rintro e w' ⟨rfl, rfl⟩
              go_wp2
              refine bodyPost_ret (results_tmp4 rfl _ _ _) rfl ?_
              exact RecSays.err hres.out (Below.refl _ _)
end Go.Proofs.Ytofalfaiamaapaa

namespace Go.Proofs.Ytofalfaiamaapaa
open Go.RowKit
set_option linter.unusedVariables false
set_option maxHeartbeats 1000000 in
theorem may_any (k : Int) (a : Option Addr) (n c : Nat) (w : World) (r : Bool) (hr : decide (1 ≤ k ∧ k ≤ 200 ∧ n ≤ 65536) = r) :
    Calls Try.prog 37 #[.int .i64 k, .slice a n c] w fun e w' => e = .returned (.bool r) ∧ w' = w := by
  by_cases h1 : 1 ≤ k
  · by_cases h2 : k ≤ 200
    · by_cases h3 : (n : Int) ≤ 65536
      · have : r = true := by rw [← hr]; exact decide_eq_true ⟨h1, h2, by omega⟩
        subst this
        clear hr
        go_enter Try.func37, Try.ntmps37
        go_wp2
        go_ret
        exact ⟨rfl, rfl⟩
      · have : r = false := by rw [← hr]; exact decide_eq_false (by omega)
        subst this
        have d3 : decide ((n : Int) ≤ 65536) = false := by simp; omega
        clear hr h3
        go_enter Try.func37, Try.ntmps37
        go_wp2
        go_ret
        exact ⟨rfl, rfl⟩
    · have : r = false := by rw [← hr]; exact decide_eq_false (by omega)
      subst this
      have d3 : decide (k ≤ 200) = false := by simp; omega
      clear hr
      go_enter Try.func37, Try.ntmps37
      go_wp2
      go_ret
      exact ⟨rfl, rfl⟩
  · have : r = false := by rw [← hr]; exact decide_eq_false (by omega)
    subst this
    have d3 : decide (1 ≤ k) = false := by simp; omega
    clear hr
    go_enter Try.func37, Try.ntmps37
    go_wp2
    go_ret
    exact ⟨rfl, rfl⟩
end Go.Proofs.Ytofalfaiamaapaa

namespace Go.Proofs.Ytofalfaiamaapaa
set_option linter.unusedVariables false
/-- The byte at 'i' of the number that 'within' tries. -/
def fl (q : List Int) (i : Nat) : Int := if i < q.length then q.getD i 0 else if i = 0 then 1 else 0
def fill (c : Nat) (q : List Int) : List Int := (List.range c).map (fl q)
theorem fill_len (c : Nat) (q : List Int) : (fill c q).length = c := by simp [fill]
theorem fill_at (c : Nat) (q : List Int) (i : Nat) (h : i < c) : (fill c q).getD i 0 = fl q i := by
  simp [fill, List.getD_eq_getElem?_getD, h]
theorem fl_by {q : List Int} (hq : By q) (i : Nat) : 0 ≤ fl q i ∧ fl q i < 256 := by
  unfold fl
  split
  · exact getD_byte hq i
  · split <;> omega
theorem fill_by {q : List Int} (hq : By q) (c : Nat) : By (fill c q) := fun n hn => by
  obtain ⟨i, _, rfl⟩ := List.mem_map.1 hn
  exact fl_by hq i
theorem fill_take (c : Nat) (q : List Int) (h : q.length ≤ c) : (fill c q).take q.length = q := by
  apply List.ext_getElem
  · rw [List.length_take, fill_len]; omega
  · intro i h1 h2
    simp [fill, fl, h2, List.getD_eq_getElem?_getD]
theorem val_zeros : ∀ l : List Int, (∀ n ∈ l, n = 0) → val l = 0
  | [], _ => rfl
  | a :: l, h => by
    rw [val_cons, h a (List.mem_cons_self ..), val_zeros l (fun n hn => h n (List.mem_cons_of_mem _ hn))]
    simp
theorem fill_val (c : Nat) (q : List Int) (h : q.length ≤ c) (hq : 0 < q.length) : val (fill c q) = val q * 256 ^ (c - q.length) := by
  have e1 := val_append ((fill c q).take q.length) ((fill c q).drop q.length)
  rw [List.take_append_drop, fill_take c q h, List.length_drop, fill_len] at e1
  rw [e1, val_zeros ((fill c q).drop q.length), Int.add_zero]
  intro n hn
  obtain ⟨i, hi, rfl⟩ := List.mem_iff_getElem.1 hn
  rw [List.length_drop, fill_len] at hi
  have e2 : (fill c q).getD (q.length + i) 0 = 0 := by
    rw [fill_at c q _ (by omega)]
    unfold fl
    rw [if_neg (by omega), if_neg (by omega)]
  rw [List.getElem_drop, ← e2, List.getD_eq_getElem?_getD, List.getElem?_eq_getElem (by rw [fill_len]; omega)]
  rfl
theorem fill_nz (c : Nat) (q : List Int) (h : q.length < c) : nz (fill c q) ↔ nz q := by
  rcases c with _ | c
  · omega
  · unfold nz fill
    rw [List.range_succ_eq_map, List.map_cons, List.headD_cons]
    unfold fl
    rcases q with _ | ⟨d, q⟩
    · simp
    · simp
def within : List Int → Bool
  | [] => true
  | c :: q => if 8 < c ∨ c.toNat < q.length + 1 then false else decide (val (fill c.toNat q) ≤ 65536 ∧ q.length + 1 ≤ (num (val (fill c.toNat q))).length ∧ (num (val (fill c.toNat q))).take (q.length + 1) = c :: q)
theorem within_iff (r : List Int) (hr : By r) : within r = true ↔ (getSize r).2.2 = 3 := by
  rcases r with _ | ⟨c, q⟩
  · simp [within, getSize]
  · have hc := hr.head
    obtain ⟨k, rfl⟩ := Int.eq_ofNat_of_zero_le hc.1
    have e : getSize ((k : Int) :: q) = if 3 < (k : Int) ∨ ¬ nz (q.take k) ∨ 65536 < val (q.take k) * 256 ^ (k - q.length) then (0, 0, 2) else if q.length < k then (0, 0, 3) else (val (q.take k), 1 + k, 0) := rfl
    have ew : within ((k : Int) :: q) = if 8 < (k : Int) ∨ k < q.length + 1 then false else decide (val (fill k q) ≤ 65536 ∧ q.length + 1 ≤ (num (val (fill k q))).length ∧ (num (val (fill k q))).take (q.length + 1) = (k : Int) :: q) := rfl
    rw [e, ew]
    by_cases hl : q.length < k
    · have htk : q.take k = q := List.take_of_length_le (by omega)
      rw [htk, if_pos hl]
      by_cases h8 : (8 : Int) < k
      · rw [if_pos (.inl h8), if_pos (.inl (by omega))]; simp
      · rw [if_neg (by omega), decide_eq_true_iff]
        have hfb := fill_by hr.tail k
        have hfl := fill_len k q
        have hz := fill_nz k q hl
        by_cases hn : nz q
        · have hn' := hz.2 hn
          have hnum := num_val (fill k q) hfb (by omega) hn'
          have hnb := nb_val (fill k q) hfb (by omega) hn'
          rw [hfl] at hnum hnb
          rw [hnum]
          have ht : ((k : Int) :: fill k q).take (q.length + 1) = (k : Int) :: q := by rw [List.take_succ_cons, fill_take k q (by omega)]
          have hlen : q.length + 1 ≤ ((k : Int) :: fill k q).length := by rw [List.length_cons, hfl]; omega
          have key : val (fill k q) ≤ 65536 ↔ k ≤ 3 ∧ val q * 256 ^ (k - q.length) ≤ 65536 := by
            rcases Nat.eq_zero_or_pos q.length with h0 | hp
            · obtain rfl : q = [] := List.eq_nil_of_length_eq_zero h0
              constructor
              · intro h; have := nb3 h; exact ⟨by omega, by simp [val]⟩
              · rintro ⟨h, _⟩
                have h3 : k = 1 ∨ k = 2 ∨ k = 3 := by simp at hl; omega
                rcases h3 with rfl | rfl | rfl <;> decide
            · rw [fill_val k q (by omega) hp] at hnb ⊢
              constructor
              · intro h; have := nb3 h; exact ⟨by omega, h⟩
              · exact fun h => h.2
          constructor
          · rintro ⟨h, _⟩
            have := key.1 h
            rw [if_neg]
            rintro (hh | hh | hh)
            · omega
            · exact hh hn
            · omega
          · intro h
            split at h
            · simp at h
            · rename_i hh
              refine ⟨key.2 ⟨?_, ?_⟩, hlen, ht⟩
              · exact Nat.le_of_not_lt fun h1 => hh (.inl (by omega))
              · exact Int.not_lt.1 fun h1 => hh (.inr (.inr h1))
        · constructor
          · rintro ⟨_, _, h⟩
            exfalso
            apply hn
            rw [← hz]
            refine nz_of_nb _ hfb ?_
            unfold num at h
            rw [List.take_succ_cons] at h
            have := (List.cons.inj h).1
            rw [hfl]; omega
          · rw [if_pos (.inr (.inl hn))]; simp
    · rw [if_pos (.inr (by omega)), if_neg hl]
      split <;> simp
theorem take_cut (l : List Int) (a b : Nat) : l.take (a + b) = l.take a ++ (l.drop a).take b := by
  rw [List.take_add]
/-- The record of what stands there is what stands there, just if the sum is right. -/
theorem rec_same (k : Int) (r : List Int) (hr : By r) (s m : Nat) (hg : getNum r = some ((s : Int), m)) (hl : 1 + m + s + 4 ≤ (k :: r).length) :
    (record k (((k :: r).drop (1 + m)).take s) = (k :: r).take (1 + m + s + 4)) ↔ ((k :: r).drop (1 + m + s)).take 4 = be 4 (of [(k :: r).take (1 + m + s)]) := by
  obtain ⟨g0, g1, g2, g3, g4, g5, g6⟩ := getNum_some hr hg
  have hbl : (((k :: r).drop (1 + m)).take s).length = s := by rw [List.length_take, List.length_drop]; omega
  have hh : rhead k (((k :: r).drop (1 + m)).take s) = (k :: r).take (1 + m + s) := by
    unfold rhead text
    rw [hbl, g5, take_cut (k :: r) (1 + m) s, Nat.add_comm 1 m, List.take_succ_cons, List.cons_append]
  unfold record
  rw [hh, take_cut (k :: r) (1 + m + s) 4]
  constructor
  · intro h; exact (List.append_cancel_left h).symm
  · intro h; rw [h]
/-- What the document's GetRecord goes by. -/
theorem rec_within {k : Int} {r : List Int} (hr : By r) (h1 : ¬ k < 1) (h2 : ¬ 200 < k) (h : within r = true) : getRecord (k :: r) = (0, [], 0, 3) := by
  have h3 := (within_iff r hr).1 h
  rw [rec_cons, if_neg (by omega), if_pos (by omega), h3]
theorem rec_none {k : Int} {r : List Int} (hr : By r) (h1 : ¬ k < 1) (h2 : ¬ 200 < k) (h : within r = false) (hg : getNum r = none) : getRecord (k :: r) = (0, [], 0, 2) := by
  have hne : (getSize r).2.2 ≠ 0 := fun h0 => by obtain ⟨s, m, _, _, _, _, _, h5⟩ := getSize_ok hr h0; rw [hg] at h5; cases h5
  rcases getSize_err hne with hs | hs
  · rw [rec_cons, if_neg (by omega), if_pos hne, hs]
  · have := (within_iff r hr).2 (by rw [hs]); rw [h] at this; cases this
theorem rec_big {k : Int} {r : List Int} (hr : By r) (h1 : ¬ k < 1) (h2 : ¬ 200 < k) (h : within r = false) {u : Int} {m : Nat} (hg : getNum r = some (u, m)) (hu : 65536 < u) : getRecord (k :: r) = (0, [], 0, 2) := by
  have hne : (getSize r).2.2 ≠ 0 := fun h0 => by
    obtain ⟨s, m, _, h6, _, _, _, h5⟩ := getSize_ok hr h0
    rw [hg] at h5
    simp only [Option.some.injEq, Prod.mk.injEq] at h5
    omega
  rcases getSize_err hne with hs | hs
  · rw [rec_cons, if_neg (by omega), if_pos hne, hs]
  · have := (within_iff r hr).2 (by rw [hs]); rw [h] at this; cases this
theorem rec_fits {k : Int} {r : List Int} (hr : By r) (h1 : ¬ k < 1) (h2 : ¬ 200 < k) {s m : Nat} (hg : getNum r = some ((s : Int), m)) (hu : s ≤ 65536) :
    getRecord (k :: r) = if (k :: r).length < 1 + m + s + 4 then (0, [], 0, 3) else if record k (((k :: r).drop (1 + m)).take s) = (k :: r).take (1 + m + s + 4) then (k, ((k :: r).drop (1 + m)).take s, 1 + m + s + 4, 0) else (0, [], 0, 2) := by
  have hs := getSize_num hr hg (by omega)
  rw [rec_cons, if_neg (by omega), hs]
  simp only [ne_eq, not_true_eq_false, if_false, Int.toNat_natCast]
  by_cases hl : (k :: r).length < 1 + m + s + 4
  · rw [if_pos hl, if_pos hl]
  · rw [if_neg hl, if_neg hl]
    have := rec_same k r hr s m hg (by omega)
    by_cases hd : ((k :: r).drop (1 + m + s)).take 4 = be 4 (of [(k :: r).take (1 + m + s)])
    · rw [if_pos hd, if_pos (this.2 hd)]
    · rw [if_neg hd, if_neg (fun hh => hd (this.1 hh))]
end Go.Proofs.Ytofalfaiamaapaa

namespace Go.Proofs.Ytofalfaiamaapaa
open Go.RowKit
set_option linter.unusedVariables false
theorem within_cons (k : Nat) (q : List Int) : within ((k : Int) :: q) = if 8 < (k : Int) ∨ k < q.length + 1 then false else decide (val (fill k q) ≤ 65536 ∧ q.length + 1 ≤ (num (val (fill k q))).length ∧ (num (val (fill k q))).take (q.length + 1) = (k : Int) :: q) := rfl
theorem refNum_as (x : Int) (w : World) (h0 : 0 ≤ x) (h1 : x < 18446744073709551616) :
    Calls Try.prog 41 #[.int .u64 x] w fun e w' => ∃ p c, e = .returned (.slice p (num x).length c) ∧ BS w' p (num x).length (num x) ∧ CP p (num x).length c ∧ Below w.heap.size w w' := by
  refine (refNum_any x w h0 h1).mono ?_
  rintro e w1 ⟨v, rfl, hown, hb⟩
  obtain ⟨p, c, rfl, hbs, hcp⟩ := hown.open (num_by x)
  exact ⟨p, c, rfl, hbs, hcp, hb⟩
set_option maxHeartbeats 4000000 in
set_option maxRecDepth 100000 in
theorem within_as (a : Option Addr) (n c : Nat) (l : List Int) (w : World) (r : Bool) (hr : within l = r) (hA : BS w a n l) (hC : CP a n c) :
    Calls Try.prog 47 #[.slice a n c] w fun e w' => e = .returned (.bool r) ∧ Below w.heap.size w w' := by
  rcases l with _ | ⟨y, q⟩
  · have hn : n = 0 := by have := hA.1; simpa using this.symm
    subst hn
    have : r = true := by rw [← hr]; rfl
    subst this
    clear hr
    go_enter Try.func47, Try.ntmps47
    go_wp2
    go_ret
    exact ⟨rfl, Below.refl _ _⟩
  · have HA := hide hA
    have HB : Hid (By q) := By.tail hA.2.2.1
    obtain ⟨b, o, rfl, qc, hy0, hy1, hn⟩ := hA.cell0
    have hn0 : ((n : Int) == 0) = false := by simp; omega
    have hmax := hA.2.1
    unfold maxLen at hmax
    have hmaxI : (n : Int) ≤ 9223372036854775807 := by omega
    obtain ⟨k, rfl⟩ := Int.eq_ofNat_of_zero_le hy0
    have hW := within_cons k q
    rw [hr] at hW
    have hql : q.length = n - 1 := by omega
    rw [← hn] at hW
    have HW := hide hW
    have Hql := hide hql
    have hnp : (0 : Int) < n := by omega
    have hcn := hC.1
    have hcm := hC.2.1
    unfold maxLen at hcm
    have hnc : (n : Int) ≤ (c : Int) := by omega
    have HC := hide hC
    clear hA hn hql hW hr hC hmax
    by_cases h8 : (8 : Int) < k
    · have : r = false := by rw [HW.out, if_pos (.inl h8)]
      subst this
      go_enter Try.func47, Try.ntmps47
      go_wp2
      go_ret
      exact ⟨rfl, Below.refl _ _⟩
    · have d8 : decide ((8 : Int) < k) = false := by simp; omega
      by_cases hlen : (k : Int) < (n : Int)
      · have : r = false := by rw [HW.out, if_pos (.inr (by omega))]
        subst this
        clear h8
        go_enter Try.func47, Try.ntmps47
        go_wp2
        go_ret
        exact ⟨rfl, Below.refl _ _⟩
      · have dl : decide ((k : Int) < (n : Int)) = false := by simp; omega
        have HW : Hid (r = decide (val (fill k q) ≤ 65536 ∧ n ≤ (num (val (fill k q))).length ∧ (num (val (fill k q))).take n = (k : Int) :: q)) := by refine hide ?_; rw [HW.out, if_neg (by omega)]
        have Hnk : Hid (n ≤ k) := by show n ≤ k; omega
        have Hk8 : Hid (k ≤ 8) := by show k ≤ 8; omega
        have hk8I : (k : Int) ≤ 8 := by omega
        have hnk : (n : Int) ≤ k := by omega
        have hfb := hide (fill_by HB.out k)
        clear h8 hlen
        go_enter Try.func47, Try.ntmps47
        go_wp2
        go_loop [3, 4] (fun u i => ∃ (j : Nat) (x : Int), 1 ≤ j ∧ j ≤ k + 1 ∧ i = .int .i64 j ∧ u = .int .u64 x ∧ 0 ≤ x ∧ x < 18446744073709551616 ∧ Hid (x = val ((fill k q).take (j - 1)))) (fun _ i => k + 1 - (intOf i).toNat)
        case atStart => exact ⟨1, 0, by omega, by omega, rfl, rfl, by omega, by omega, rfl⟩
        case round =>
          obtain ⟨j, x, hj1, hjk, rfl, rfl, hx0, hx1, hx⟩ := hrel
          by_cases hlt : (j : Int) ≤ (k : Int)
          · obtain ⟨i, rfl⟩ : ∃ i, j = i + 1 := ⟨j - 1, by omega⟩
            have hx : Hid (x = val ((fill k q).take i)) := hx
            have hik : i < k := by omega
            have hv := hide (val_take (fill k q) i (by rw [fill_len]; exact hik))
            rw [fill_at k q i hik] at hv
            have hx7 : x < 72057594037927936 := by
              have h1 := (val_bd ((fill k q).take i) (By.take hfb.out i)).2
              rw [← hx.out, List.length_take, fill_len] at h1
              have h2 := pow7 (min i k) (by have := Hk8.out; omega)
              omega
            by_cases hin : (i : Int) + 1 < (n : Int)
            · have hfl : Hid (fl q i = q.getD i 0) := by
                refine hide ?_
                unfold fl
                rw [if_pos (by have := Hql.out; omega)]
              have q2 : w.cell? ⟨b, o + (i + 1), none⟩ = some (.int .u8 (q.getD i 0)) := by
                rcases HA.out.2.2.2 with h0 | ⟨b', o', hh, hc⟩
                · omega
                · cases hh
                  exact hc (i + 1) (by omega)
              have hb0 := (getD_byte HB.out i).1
              have hb1 := (getD_byte HB.out i).2
              generalize q.getD i 0 = y at q2 hb0 hb1 hfl
              go_wp2
              go_round
              case rel => exact ⟨i + 1 + 1, x * 256 + y, by omega, by omega, by go_num, rfl, by omega, by omega, by show _ = val ((fill k q).take (i + 1)); rw [hv.out, hx.out, hfl.out]⟩
              case measure => simp [intOf]; omega
            · by_cases hi0 : i = 0
              · subst hi0
                have hfl : Hid (fl q 0 = 1) := by
                  refine hide ?_
                  unfold fl
                  rw [if_neg (by have := Hql.out; omega), if_pos rfl]
                go_wp2
                go_round
                case rel => exact ⟨0 + 1 + 1, x * 256 + 1, by omega, by omega, by go_num, rfl, by omega, by omega, by show _ = val ((fill k q).take (0 + 1)); rw [hv.out, hx.out, hfl.out]⟩
                case measure => simp [intOf]; omega
              · have hfl : Hid (fl q i = 0) := by
                  refine hide ?_
                  unfold fl
                  rw [if_neg (by have := Hql.out; omega), if_neg hi0]
                have hi1 : (((i : Int) + 1) == 1) = false := by simp; omega
                go_wp2
                go_round
                case rel => exact ⟨i + 1 + 1, x * 256, by omega, by omega, by go_num, by simp, by omega, by omega, by show _ = val ((fill k q).take (i + 1)); rw [hv.out, hx.out, hfl.out, Int.add_zero]⟩
                case measure => simp [intOf]; omega
          · have hjk2 : j = k + 1 := by omega
            subst hjk2
            have hx : Hid (x = val (fill k q)) := by
              have h1 := hx.out
              rw [List.take_of_length_le (by rw [fill_len]; omega)] at h1
              exact h1
            rw [← hx.out] at HW
            have dk : decide ((k : Int) + 1 ≤ (k : Int)) = false := by simp; omega
            clear hx hlt
            go_wp2_with fail
            refine (refNum_as x w hx0 hx1).mono ?_
            rintro e w1 ⟨p, cp, rfl, hbs, hcp, hb⟩
            have Hbs := hide hbs
            have Hb := hide hb
            have Hcp := hide hcp
            obtain ⟨N, hN⟩ : ∃ N, N = (num x).length := ⟨_, rfl⟩
            rw [← hN] at HW Hbs Hcp ⊢
            have hcN : (N : Int) ≤ (cp : Int) := by have := Hcp.out.1; omega
            have hcM : (cp : Int) ≤ 9223372036854775807 := by have := Hcp.out.2.1; unfold maxLen at this; omega
            clear hbs hb hcp hN
            by_cases hbig : x ≤ 65536
            · by_cases hNn : (n : Int) ≤ (N : Int)
              · have Hr : Hid (decide ((num x).take n = (k : Int) :: q) = r) := by
                  refine hide ?_
                  rw [HW.out]
                  apply decide_eq_decide.2
                  exact ⟨fun h => ⟨hbig, by omega, h⟩, fun h => h.2.2⟩
                have hnc2 : (n : Int) ≤ (cp : Int) := by omega
                have hh := hide (Hbs.out.head n (by omega))
                clear HW
                go_wp2_with fail
                refine (bytes_as _ _ _ _ _ _ ((num x).take n) ((k : Int) :: q) w1 r Hr.out hh.out (HA.out.below Hb.out)).mono ?_
                rintro e w2 ⟨rfl, hb2⟩
                have HZ := hide (Hb.out.trans (hb2.mono Hb.out.size))
                clear hb2
                cases r
                all_goals
                  go_wp2
                  go_ret
                  exact ⟨rfl, HZ.out⟩
              · have : r = false := by rw [HW.out]; exact decide_eq_false (by omega)
                subst this
                have d2 : decide ((n : Int) ≤ (N : Int)) = false := by simp; omega
                clear HW
                go_wp2
                go_ret
                exact ⟨rfl, Hb.out⟩
            · have : r = false := by rw [HW.out]; exact decide_eq_false (by omega)
              subst this
              have d2 : decide (x ≤ 65536) = false := by simp; omega
              clear HW
              go_wp2
              go_ret
              exact ⟨rfl, Hb.out⟩
end Go.Proofs.Ytofalfaiamaapaa

namespace Go.Proofs.Ytofalfaiamaapaa
open Go.RowKit
set_option linter.unusedVariables false
theorem rec_out {k : Int} {r : List Int} (h : k < 1 ∨ 200 < k) : getRecord (k :: r) = (0, [], 0, 2) := by rw [rec_cons, if_pos h]
theorem within_nil : within [] = true := rfl
theorem refGetNum_none (a : Option Addr) (n c : Nat) (l : List Int) (w : World) (hg : getNum l = none) (hA : BS w a n l) (hC : CP a n c) :
    Calls Try.prog 33 #[.slice a n c] w fun e w' => e = .returned (.tuple #[.int .u64 0, .int .i64 0]) ∧ Below w.heap.size w w' := by
  refine (refGetNum_any a n c l w hA hC).mono ?_
  rintro e w1 ⟨(⟨_, rfl⟩ | ⟨x, m, h, rfl⟩), hb⟩
  · exact ⟨rfl, hb⟩
  · rw [hg] at h; cases h
theorem refGetNum_is (a : Option Addr) (n c : Nat) (l : List Int) (w : World) (x : Int) (m : Nat) (hg : getNum l = some (x, m)) (hA : BS w a n l) (hC : CP a n c) :
    Calls Try.prog 33 #[.slice a n c] w fun e w' => e = .returned (.tuple #[.int .u64 x, .int .i64 (m : Int)]) ∧ Below w.heap.size w w' := by
  refine (refGetNum_any a n c l w hA hC).mono ?_
  rintro e w1 ⟨(⟨h, rfl⟩ | ⟨x, m, h, rfl⟩), hb⟩
  · rw [hg] at h; cases h
  · rw [hg] at h
    simp only [Option.some.injEq, Prod.mk.injEq] at h
    obtain ⟨rfl, rfl⟩ := h
    exact ⟨rfl, hb⟩
set_option maxHeartbeats 8000000 in
set_option maxRecDepth 100000 in
theorem refGetRec_any (a : Option Addr) (n c : Nat) (l : List Int) (w : World) (hA : BS w a n l) (hC : CP a n c) :
    Calls Try.prog 32 #[.slice a n c] w fun e w' => RecSays l w e w' := by
  rcases l with _ | ⟨y, r⟩
  · have hn : n = 0 := by have := hA.1; simpa using this.symm
    subst hn
    go_enter Try.func32, Try.ntmps32
    go_wp2
    refine bodyPost_ret (results_tmp4 rfl _ _ _) rfl ?_
    exact RecSays.err rfl (Below.refl _ _)
  · have HA := hide hA
    have HB : Hid (By r) := By.tail hA.2.2.1
    obtain ⟨b, o, rfl, qc, hy0, hy1, hn⟩ := hA.cell0
    have hn0 : ((n : Int) == 0) = false := by simp; omega
    have hmaxI : (n : Int) ≤ 9223372036854775807 := by have := hA.2.1; unfold maxLen at this; omega
    have hrl : r.length = n - 1 := by omega
    have Hrl := hide hrl
    have hnp : (1 : Int) ≤ n := by omega
    have hcn : (n : Int) ≤ c := by have := hC.1; omega
    have hcm : (c : Int) ≤ 9223372036854775807 := by have := hC.2.1; unfold maxLen at this; omega
    clear hA hn hrl hC
    by_cases h1 : y < 1
    · have hres := hide (rec_out (r := r) (.inl h1))
      go_enter Try.func32, Try.ntmps32
      go_wp2
      refine bodyPost_ret (results_tmp4 rfl _ _ _) rfl ?_
      exact RecSays.err hres.out (Below.refl _ _)
    · have d1 : decide (y < 1) = false := by simp; omega
      have H1 := hide h1
      by_cases h2 : 200 < y
      · have hres := hide (rec_out (r := r) (.inr h2))
        clear h1
        go_enter Try.func32, Try.ntmps32
        go_wp2
        refine bodyPost_ret (results_tmp4 rfl _ _ _) rfl ?_
        exact RecSays.err hres.out (Below.refl _ _)
      · have d2 : decide (200 < y) = false := by simp; omega
        have H2 := hide h2
        clear h1 h2
        by_cases hc1 : c = 1
        · subst hc1
          have hn1 : n = 1 := by omega
          subst hn1
          obtain rfl : r = [] := List.eq_nil_of_length_eq_zero Hrl.out
          have hres := hide (rec_within (k := y) HB.out H1.out H2.out within_nil)
          go_enter Try.func32, Try.ntmps32
          go_wp2_with fail
          refine (within_as _ 0 _ [] w true within_nil (BS.nil _ _) ⟨by omega, by decide, fun h => by cases h⟩).mono ?_
          rintro e w1 ⟨rfl, hb⟩
          have Hb := hide hb
          clear hb
          go_wp2
          refine bodyPost_ret (results_tmp4 rfl _ _ _) rfl ?_
          exact RecSays.err hres.out Hb.out
        · have hbs : Hid (BS w (some ⟨b, o + 1, none⟩) (n - 1) r) := by
            have q1 := HA.out.at 1 (n - 1) (by omega)
            have q2 : (((y :: r).drop 1).take (n - 1)) = r := by
              show r.take (n - 1) = r
              exact List.take_of_length_le (by rw [Hrl.out]; exact Nat.le_refl _)
            rw [q2] at q1
            exact q1
          have hcp : Hid (CP (some ⟨b, o + 1, none⟩) (n - 1) (c - 1)) := CP.some (by omega) (by unfold maxLen; omega)
          rcases hwi : within r with _ | _
          · have Hwi := hide hwi
            clear hwi
            rcases hgn : getNum r with _ | ⟨u, m⟩
            · have hres := hide (rec_none (k := y) HB.out H1.out H2.out Hwi.out hgn)
              have Hgn := hide hgn
              clear hgn
              go_enter Try.func32, Try.ntmps32
              go_wp2_with fail
              refine (within_as _ _ _ r w false Hwi.out hbs.out hcp.out).mono ?_
              rintro e w1 ⟨rfl, hb⟩
              have Hb := hide hb
              have hbs1 := hide (hbs.out.below hb)
              clear hb
              go_wp2_with fail
              refine (refGetNum_none _ _ _ r w1 Hgn.out hbs1.out hcp.out).mono ?_
              rintro e w2 ⟨rfl, hb⟩
              have Hb2 := hide (Hb.out.trans (hb.mono Hb.out.size))
              clear hb
              go_wp2
              refine bodyPost_ret (results_tmp4 rfl _ _ _) rfl ?_
              exact RecSays.err hres.out Hb2.out
            · obtain ⟨g0, g1, g2, g3, g4, g5, g6⟩ := getNum_some HB.out hgn
              have hm0 : ((m : Int) == 0) = false := by simp; omega
              have hm9 : (m : Int) ≤ 9 := by omega
              have hm1 : (1 : Int) ≤ (m : Int) := by omega
              have Hmr : Hid (m ≤ r.length) := g4
              clear g2 g3 g4 g5 g6
              by_cases hu : 65536 < u
              · have hres := hide (rec_big (k := y) HB.out H1.out H2.out Hwi.out hgn hu)
                have Hgn := hide hgn
                clear hgn
                go_enter Try.func32, Try.ntmps32
                go_wp2_with fail
                refine (within_as _ _ _ r w false Hwi.out hbs.out hcp.out).mono ?_
                rintro e w1 ⟨rfl, hb⟩
                have Hb := hide hb
                have hbs1 := hide (hbs.out.below hb)
                clear hb
                go_wp2_with fail
                refine (refGetNum_is _ _ _ r w1 u m Hgn.out hbs1.out hcp.out).mono ?_
                rintro e w2 ⟨rfl, hb⟩
                have Hb2 := hide (Hb.out.trans (hb.mono Hb.out.size))
                clear hb
                go_wp2
                refine bodyPost_ret (results_tmp4 rfl _ _ _) rfl ?_
                exact RecSays.err hres.out Hb2.out
              · obtain ⟨s, rfl⟩ := Int.eq_ofNat_of_zero_le g0
                have hs : s ≤ 65536 := by omega
                have hres := hide (rec_fits (k := y) HB.out H1.out H2.out hgn hs)
                have Hgn := hide hgn
                have dU : decide ((65536 : Int) < (s : Int)) = false := by simp; omega
                have hsI : (s : Int) ≤ 65536 := by omega
                have Hs := hide hs
                have hlen : Hid ((y :: r).length = n) := HA.out.1
                obtain ⟨F, hF⟩ : ∃ F : Nat, 1 + m = F := ⟨_, rfl⟩
                obtain ⟨T, hT⟩ : ∃ T : Nat, F + s = T := ⟨_, rfl⟩
                obtain ⟨E, hE⟩ : ∃ E : Nat, T + 4 = E := ⟨_, rfl⟩
                have hFI : (1 : Int) + (m : Int) = (F : Int) := by omega
                have hTI : (F : Int) + (s : Int) = (T : Int) := by omega
                have hEI : (T : Int) + 4 = (E : Int) := by omega
                rw [hlen.out, hF, hT, hE] at hres
                have HF := hide (And.intro hF (And.intro hT hE))
                clear hgn hu hs hF hT hE g0 g1
                by_cases hlt : (n : Int) < (E : Int)
                · have hres : Hid (getRecord (y :: r) = (0, [], 0, 3)) := by refine hide ?_; rw [hres.out, if_pos (by omega)]
                  go_enter Try.func32, Try.ntmps32
                  go_wp2_with fail
                  refine (within_as _ _ _ r w false Hwi.out hbs.out hcp.out).mono ?_
                  rintro e w1 ⟨rfl, hb⟩
                  have Hb := hide hb
                  have hbs1 := hide (hbs.out.below hb)
                  clear hb
                  go_wp2_with fail
                  refine (refGetNum_is _ _ _ r w1 s m Hgn.out hbs1.out hcp.out).mono ?_
                  rintro e w2 ⟨rfl, hb⟩
                  have Hb2 := hide (Hb.out.trans (hb.mono Hb.out.size))
                  clear hb
                  go_wp2
                  refine bodyPost_ret (results_tmp4 rfl _ _ _) rfl ?_
                  exact RecSays.err hres.out Hb2.out
                · have hres : Hid (getRecord (y :: r) = if record y (((y :: r).drop F).take s) = (y :: r).take E then (y, ((y :: r).drop F).take s, E, 0) else (0, [], 0, 2)) := by refine hide ?_; rw [hres.out, if_neg (by omega)]
                  have hEc : (E : Int) ≤ (c : Int) := by omega
                  have hET : (E : Int) - 4 = (T : Int) := by omega
                  have hTc : (T : Int) ≤ (c : Int) := by omega
                  have hFT : (F : Int) ≤ (T : Int) := by omega
                  have hcF : ¬ c = F := by omega
                  have hE4 : (E : Int) ≤ 9223372036854775807 := by omega
                  have hT9 : (T : Int) ≤ 9223372036854775807 := by omega
                  have hTF : T - F = s := by have := HF.out; omega
                  have hbE : Hid (BS w (some ⟨b, o, none⟩) E ((y :: r).take E)) := HA.out.head E (by omega)
                  have hbF : Hid (BS w (some ⟨b, o + F, none⟩) (T - F) (((y :: r).drop F).take s)) := by rw [hTF]; exact HA.out.at F s (by have := HF.out; omega)
                  have hbl : Hid ((((y :: r).drop F).take s).length = s) := by have := hbF.out.1; rw [hTF] at this; exact this
                  have hbB : Hid (By (((y :: r).drop F).take s)) := hbF.out.2.2.1
                  have HTF := hide hTF
                  have hwy : IntKind.i64.wrap y = y := by rw [IntKind.wrap_i64]; omega
                  have hnq : (0 : Int) < (n : Int) := by omega
                  have hnr : 0 < n := by omega
                  obtain ⟨t, ht⟩ : ∃ t, ((y :: r).drop F).take s = t := ⟨_, rfl⟩
                  rw [ht] at hres hbF hbl hbB
                  clear hTF ht
                  go_enter Try.func32, Try.ntmps32
                  go_wp2_with fail
                  refine (within_as _ _ _ r w false Hwi.out hbs.out hcp.out).mono ?_
                  rintro e w1 ⟨rfl, hb⟩
                  have Hb := hide hb
                  have hbs1 := hide (hbs.out.below hb)
                  clear hb
                  go_wp2_with fail
                  refine (refGetNum_is _ _ _ r w1 s m Hgn.out hbs1.out hcp.out).mono ?_
                  rintro e w2 ⟨rfl, hb⟩
                  have Hb2 := hide (Hb.out.trans (hb.mono Hb.out.size))
                  clear hb hbs1 Hb
                  go_wp2_with (at_builtin; refine Stop.at ?_)
                  unfold Stop
                  refine append_bytes rfl _ _ rfl w.heap.size _ [] t rfl (Own.made w2 w.heap.size _ rfl Hb2.out.size) _ (T - F) (c - F) rfl (by intro h; cases h) ((hbF.out.below Hb2.out).alloc _) (by have := hbl.out; have := Hs.out; simp; omega) (by have := Hb2.out.size; simp; omega) ?_
                  intro v w3 hown hgrow hbel
                  rw [List.nil_append] at hown
                  have HE3 := hide (hbel w (Hb2.out.alloc Hb2.out.size _))
                  obtain ⟨p3, c3, rfl, hb3, hc3⟩ := hown.open hbB.out
                  rw [hbl.out] at hb3 hc3 hown ⊢
                  have Hown := hide hown
                  have hbs3 := hide hb3
                  have hcp3 := hide hc3
                  have qc3 : w3.cell? ⟨b, o, none⟩ = some (.int .u8 y) := by rw [HE3.out.cell (World.block_lt_of_cell? w _ qc)]; exact qc
                  have hbE3 := hide (hbE.out.below HE3.out)
                  have hk0 : w3.drew.cell? ⟨b, o, none⟩ = some (.int .u8 y) ∧ Hid (Below w3.heap.size w3 w3.drew) := ⟨qc3, (Below.refl _ w3).drew⟩
                  have hy1' : Hid (1 ≤ y) := by have := H1.out; show 1 ≤ y; omega
                  have hy2' : Hid (y ≤ 200) := by have := H2.out; show y ≤ 200; omega
                  have Hrb := hide (record_by hy0 hy1 hbB.out)
                  clear hown hgrow hbel Hb2 hb3 hc3 qc hbE hbF hbs HA
                  by_cases hd : record y t = (y :: r).take E
                  · have hres : Hid (getRecord (y :: r) = (y, t, E, 0)) := by refine hide ?_; rw [hres.out, if_pos hd]
                    have Hd := hide (decide_eq_true hd)
                    clear hd
                    go_wp2_with fail
                    go_region_held3 (fun W => W.cell? ⟨b, o, none⟩ = some (.int .u8 y) ∧ Hid (Below w3.heap.size w3 W)) (first | exact hk2 | exact hk1 | exact hk0) (first
                      | (go_at_call 40; refine (refRecord_any y _ _ _ t _ (by exact hbs3.out.held (by assumption)) hcp3.out.2.2 hy1'.out hy2'.out Hs.out).mono ?_; rintro e w4 ⟨v4, rfl, hown4, hb4⟩; obtain ⟨p4, c4, rfl, hbs4, hcp4⟩ := hown4.open Hrb.out; have hk1 := held_next (by assumption) hb4; have HS := hide hbs4; clear hown4 hbs4 hcp4 hb4)
                      | (go_at_call 36; refine (bytes_as _ _ _ _ _ _ (record y t) ((y :: r).take E) _ true Hd.out (by exact HS.out) (by exact hbE3.out.held (by assumption))).mono ?_; rintro e w5 ⟨rfl, hb5⟩; have hk2 := held_next (by assumption) hb5; clear hb5))
                    have hk3 := hk2.2
                    have hk4 := hk2.1
                    clear hk0 hk1 HS
                    have Hsay := hide (RecSays.ok (w := w) hres.out (Own.below Hown.out hk3.out) (HE3.out.trans (hk3.out.mono HE3.out.size)))
                    clear hk2
                    go_wp2
                    refine bodyPost_ret (results_tmp4 rfl _ _ _) rfl ?_
                    exact Hsay.out
                  · have hres : Hid (getRecord (y :: r) = (0, [], 0, 2)) := by refine hide ?_; rw [hres.out, if_neg hd]
                    have Hd := hide (decide_eq_false hd)
                    clear hd
                    go_wp2_with fail
                    go_region_held3 (fun W => W.cell? ⟨b, o, none⟩ = some (.int .u8 y) ∧ Hid (Below w3.heap.size w3 W)) (first | exact hk2 | exact hk1 | exact hk0) (first
                      | (go_at_call 40; refine (refRecord_any y _ _ _ t _ (by exact hbs3.out.held (by assumption)) hcp3.out.2.2 hy1'.out hy2'.out Hs.out).mono ?_; rintro e w4 ⟨v4, rfl, hown4, hb4⟩; obtain ⟨p4, c4, rfl, hbs4, hcp4⟩ := hown4.open Hrb.out; have hk1 := held_next (by assumption) hb4; have HS := hide hbs4; clear hown4 hbs4 hcp4 hb4)
                      | (go_at_call 36; refine (bytes_as _ _ _ _ _ _ (record y t) ((y :: r).take E) _ false Hd.out (by exact HS.out) (by exact hbE3.out.held (by assumption))).mono ?_; rintro e w5 ⟨rfl, hb5⟩; have hk2 := held_next (by assumption) hb5; clear hb5))
                    have hk3 := hk2.2
                    clear hk0 hk1 HS
                    have Hsay := hide (RecSays.err (w := w) hres.out (HE3.out.trans (hk3.out.mono HE3.out.size)))
                    clear hk2
                    go_wp2
                    refine bodyPost_ret (results_tmp4 rfl _ _ _) rfl ?_
                    exact Hsay.out
          · have hres := hide (rec_within (k := y) HB.out H1.out H2.out hwi)
            have Hwi := hide hwi
            clear hwi
            go_enter Try.func32, Try.ntmps32
            go_wp2_with fail
            refine (within_as _ _ _ r w true Hwi.out hbs.out hcp.out).mono ?_
            rintro e w1 ⟨rfl, hb⟩
            have Hb := hide hb
            clear hb
            go_wp2
            refine bodyPost_ret (results_tmp4 rfl _ _ _) rfl ?_
            exact RecSays.err hres.out Hb.out
end Go.Proofs.Ytofalfaiamaapaa

