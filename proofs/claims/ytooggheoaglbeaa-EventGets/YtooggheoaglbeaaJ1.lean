/- Texts of this claim, joined: Math, Base, Of, Ref, Run, Row, Cut, WMath, WOwn, WLen, WNum, WVal, WPut, WGet, WRefGet, WText, WGetText, WPack, WPacks, WOwnP. -/
import Derived.Laws.Bits64
import Derived.Test.YtooggheoaglbeaaRows
import Derived.WalkKit
import Derived.WalkSpells
import Derived.WalkLawsBesides
import Derived.Handy
import Derived.Lib.SlBytesConst
import Derived.Laws.AppendOwnNone
import Derived.Laws.BytesArg
import Derived.Lib.Tables
import Derived.Deep.RegionWith
import Derived.Deep.RegionHeld3
/- The sum of bytes as plain functions on integers, step by step as the Go text reckons it; bounds of each; how parts join. Nothing is asked but what each theorem names. -/
namespace Go.Proofs.Ytooggheoaglbeaa

def stp (r b : Int) : Int := if (r / 2147483648 != b) = true then bits .xor .u32 (r * 2 % 4294967296) 79764919 else r * 2 % 4294967296
def fd : Nat → Int → Int → Int
  | 0, r, _ => r
  | k + 1, r, o => fd k (stp r (o / 128)) (o * 2 % 256)
def feed (r o : Int) : Int := fd 8 r o
def cpl (r : Int) : Int := bits .xor .u32 IntKind.u32.max r
def on (s : Int) (l : List Int) : Int := cpl (l.foldl feed (cpl s))
def of (ps : List (List Int)) : Int := ps.foldl on 0

theorem u32_wrap (n : Int) : IntKind.u32.wrap n = n % 4294967296 := by simp [IntKind.wrap, IntKind.bits, IntKind.signed]

theorem xor32_bd (a b : Int) : 0 ≤ bits .xor .u32 a b ∧ bits .xor .u32 a b < 4294967296 := by
  show 0 ≤ IntKind.u32.wrap _ ∧ IntKind.u32.wrap _ < 4294967296
  rw [u32_wrap]; omega

theorem xor32_nat (a b : Nat) (ha : a < 4294967296) (hb : b < 4294967296) :
    bits .xor .u32 (a : Int) (b : Int) = ((a ^^^ b : Nat) : Int) := by
  have hx : a ^^^ b < 2 ^ 32 := Nat.xor_lt_two_pow (by omega) (by omega)
  have h1 : (BitVec.ofInt 32 (a : Int)).toNat = a := by
    rw [BitVec.ofInt_natCast, BitVec.toNat_ofNat]; exact Nat.mod_eq_of_lt (by omega)
  have h2 : (BitVec.ofInt 32 (b : Int)).toNat = b := by
    rw [BitVec.ofInt_natCast, BitVec.toNat_ofNat]; exact Nat.mod_eq_of_lt (by omega)
  show IntKind.u32.wrap ((BitVec.ofInt 32 (a : Int) ^^^ BitVec.ofInt 32 (b : Int)).toNat : Int) = _
  rw [BitVec.toNat_xor, h1, h2, u32_wrap]
  omega

theorem stp_bd (r b : Int) : 0 ≤ stp r b ∧ stp r b < 4294967296 := by
  unfold stp; split
  · exact xor32_bd _ _
  · omega
theorem fd_bd (k : Nat) : ∀ (r o : Int), 0 ≤ r → r < 4294967296 → 0 ≤ fd k r o ∧ fd k r o < 4294967296 := by
  induction k with
  | zero => intro r o h1 h2; exact ⟨h1, h2⟩
  | succ k ih => intro r o _ _; exact ih _ _ (stp_bd _ _).1 (stp_bd _ _).2
theorem feed_bd (r o : Int) (h1 : 0 ≤ r) (h2 : r < 4294967296) : 0 ≤ feed r o ∧ feed r o < 4294967296 := fd_bd 8 r o h1 h2
theorem cpl_bd (r : Int) : 0 ≤ cpl r ∧ cpl r < 4294967296 := xor32_bd _ _
theorem foldl_bd (l : List Int) : ∀ (r : Int), 0 ≤ r → r < 4294967296 → 0 ≤ l.foldl feed r ∧ l.foldl feed r < 4294967296 := by
  induction l with
  | nil => intro r h1 h2; exact ⟨h1, h2⟩
  | cons a l ih => intro r h1 h2; exact ih _ (feed_bd _ _ h1 h2).1 (feed_bd _ _ h1 h2).2
theorem on_bd (s : Int) (l : List Int) : 0 ≤ on s l ∧ on s l < 4294967296 := cpl_bd _
theorem of_bd_from (ps : List (List Int)) : ∀ s, 0 ≤ s → s < 4294967296 → 0 ≤ ps.foldl on s ∧ ps.foldl on s < 4294967296 := by
  induction ps with
  | nil => intro r h1 h2; exact ⟨h1, h2⟩
  | cons a l ih => intro r _ _; exact ih _ (on_bd _ _).1 (on_bd _ _).2
theorem of_bd (ps : List (List Int)) : 0 ≤ of ps ∧ of ps < 4294967296 := of_bd_from ps 0 (by omega) (by omega)

theorem cpl_cpl (r : Int) (h1 : 0 ≤ r) (h2 : r < 4294967296) : cpl (cpl r) = r := by
  obtain ⟨n, rfl⟩ := Int.eq_ofNat_of_zero_le h1
  unfold cpl
  rw [show IntKind.u32.max = ((4294967295 : Nat) : Int) from by decide]
  have hn : n < 4294967296 := by omega
  rw [xor32_nat _ _ (by omega) hn, xor32_nat _ _ (by omega) (Nat.xor_lt_two_pow (n := 32) (by omega) (by omega)), ← Nat.xor_assoc, Nat.xor_self, Nat.zero_xor]

theorem on_nil (s : Int) (h1 : 0 ≤ s) (h2 : s < 4294967296) : on s [] = s := cpl_cpl s h1 h2
theorem on_append (s : Int) (l m : List Int) : on s (l ++ m) = on (on s l) m := by
  unfold on
  rw [List.foldl_append, cpl_cpl _ (foldl_bd l _ (cpl_bd s).1 (cpl_bd s).2).1 (foldl_bd l _ (cpl_bd s).1 (cpl_bd s).2).2]
theorem awake_eq : of [[49, 50, 51, 52], [53, 54, 55, 56, 57]] = 4236843288 := by decide +kernel

end Go.Proofs.Ytooggheoaglbeaa

/- What each function of package sum does: it answers the plain function of the same name and leaves the world as it was. Asked: the bytes lie in memory as said. -/
namespace Go.Proofs.Ytooggheoaglbeaa
open Go.RowKit

theorem hide {p : Prop} (h : p) : Hid p := h
theorem unhide {p : Prop} (h : Hid p) : p := h
theorem ret_int {k : IntKind} {a b : Int} (h : a = b) : Ending.returned (.int k a) = .returned (.int k b) := by rw [h]

/-- A slice value's bytes: 'l', each a byte; where there is one at all, they lie in one row of cells. -/
def BS (w : World) (a : Option Addr) (len : Nat) (l : List Int) : Prop :=
  l.length = len ∧ len ≤ maxLen ∧ (∀ n ∈ l, 0 ≤ n ∧ n < 256) ∧ (len = 0 ∨ ∃ b off, a = some ⟨b, off, none⟩ ∧ ∀ i, i < len → w.cell? ⟨b, off + i, none⟩ = some (.int .u8 (l.getD i 0)))

theorem foldl_drop (f : Int → Int → Int) (l : List Int) (k : Nat) (x : Int) (h : k < l.length) : (l.drop k).foldl f x = (l.drop (k + 1)).foldl f (f x (l.getD k 0)) := by
  rw [List.drop_eq_getElem_cons h, List.foldl_cons]
  simp [List.getD_eq_getElem?_getD, h]
theorem getD_byte {l : List Int} (hl : ∀ n ∈ l, 0 ≤ n ∧ n < 256) (k : Nat) : 0 ≤ l.getD k 0 ∧ l.getD k 0 < 256 := by
  by_cases h : k < l.length
  · have : l.getD k 0 = l[k] := by simp [List.getD_eq_getElem?_getD, h]
    rw [this]; exact hl _ (List.getElem_mem h)
  · have : l.getD k 0 = 0 := by simp [List.getD_eq_getElem?_getD, Nat.not_lt.mp h]
    rw [this]; omega

end Go.Proofs.Ytooggheoaglbeaa

/- What 'Of' does: the sum of the parts, one behind the other. Asked: the parts lie in memory as said. -/
namespace Go.Proofs.Ytooggheoaglbeaa
open Go.RowKit

/-- A slice of slices of bytes: the parts 'ps'. -/
def PS (w : World) (a : Option Addr) (n : Nat) (ps : List (List Int)) : Prop :=
  ps.length = n ∧ n ≤ maxLen ∧ (n = 0 ∨ ∃ b off, a = some ⟨b, off, none⟩ ∧ ∀ i, i < n → ∃ x len cap, w.cell? ⟨b, off + i, none⟩ = some (.slice x len cap) ∧ BS w x len (ps.getD i []))

/-- Every cell that could be read can be read still, and holds what it held. -/
def Ext (w w' : World) : Prop := ∀ p v, w.cell? p = some v → w'.cell? p = some v
theorem Ext.refl (w : World) : Ext w w := fun _ _ h => h
theorem Ext.trans {a b c : World} (h : Ext a b) (k : Ext b c) : Ext a c := fun p v hp => k p v (h p v hp)
theorem Ext.alloc {a w : World} (h : Ext a w) (o : Obj) : Ext a (w.alloc o) := fun p v hp => Lib.cell?_alloc_marked o (h p v hp)
theorem Ext.below {a w w' : World} (h : Ext a w) (hb : Below w.heap.size w w') : Ext a w' := fun p v hp => by
  have h1 := h p v hp
  have hlt : p.block < w.heap.size := by
    rcases Nat.lt_or_ge p.block w.heap.size with h' | h'
    · exact h'
    · simp [World.cell?, Array.getElem?_eq_none h'] at h1
  rw [hb.cell hlt]; exact h1
theorem BS.ext {w w' : World} {a : Option Addr} {len : Nat} {l : List Int} (h : BS w a len l) (hx : Ext w w') : BS w' a len l := by
  obtain ⟨h1, h2, h3, h4⟩ := h
  refine ⟨h1, h2, h3, ?_⟩
  rcases h4 with h0 | ⟨b, off, ha, hc⟩
  · exact .inl h0
  · exact .inr ⟨b, off, ha, fun i hi => hx _ _ (hc i hi)⟩
theorem BS.new (w : World) (g : Nat) (hg : g = w.heap.size) (l : List Int) (C : Array Value) (hC : C = (l.map (Value.int .u8)).toArray) (fr : Nat × Nat) (n : Nat) (hn : l.length = n) (hmax : n ≤ maxLen) (hby : ∀ x ∈ l, 0 ≤ x ∧ x < 256) :
    BS (w.alloc (.cells C 5 fr)) (some ⟨g, 0, none⟩) n l := by
  subst hg hC
  refine ⟨hn, hmax, hby, .inr ⟨_, 0, rfl, fun i hi => ?_⟩⟩
  rw [World.cell?_alloc_mark]
  subst hn
  simp [List.getD_eq_getElem?_getD, hi]
theorem PS.new (w : World) (g : Nat) (hg : g = w.heap.size) (qs : List (Option Addr × Nat × Nat × List Int)) (C : Array Value) (hC : C = (qs.map fun q => Value.slice q.1 q.2.1 q.2.2.1).toArray) (fr : Nat × Nat)
    (n : Nat) (hn : qs.length = n) (hmax : n ≤ maxLen) (ps : List (List Int)) (hps : ps = qs.map fun q => q.2.2.2) (hq : ∀ q ∈ qs, BS w q.1 q.2.1 q.2.2.2) :
    PS (w.alloc (.cells C 37 fr)) (some ⟨g, 0, none⟩) n ps := by
  subst hg hC hps
  refine ⟨by simpa using hn, hmax, .inr ⟨_, 0, rfl, fun i hi => ?_⟩⟩
  rw [World.cell?_alloc_mark]
  subst hn
  refine ⟨qs[i].1, qs[i].2.1, qs[i].2.2.1, by simp [hi], ?_⟩
  have := (hq qs[i] (List.getElem_mem hi)).ext ((Ext.refl w).alloc (.cells (qs.map fun q => Value.slice q.1 q.2.1 q.2.2.1).toArray 37 fr))
  simpa [List.getD_eq_getElem?_getD, hi] using this

theorem foldl_drop2 (f : Int → List Int → Int) (l : List (List Int)) (k : Nat) (x : Int) (h : k < l.length) : (l.drop k).foldl f x = (l.drop (k + 1)).foldl f (f x (l.getD k [])) := by
  rw [List.drop_eq_getElem_cons h, List.foldl_cons]
  simp [List.getD_eq_getElem?_getD, h]

theorem conv_at (w : World) (C : Array Value) (n c g : Nat) (hg : g = w.heap.size) :
    (convert 37 37 (.slice (some ⟨g, 0, none⟩) n c)).run Try.prog (w.alloc (.cells C 5)) = .ok (.slice (some ⟨g, 0, none⟩) n c) (w.alloc (.cells C 5 (C.size, C.size + 1))) := by
  subst hg; exact Lib.run_convert_bytes_const w 37 5 C n c Try.underlying37 Try.underlying5

end Go.Proofs.Ytooggheoaglbeaa

/- What the document's answer (package hucksterref01) does: the bits of at most 100000 bytes in new memory, and the register behind bits. Asked: the bytes lie in memory as said. -/
namespace Go.Proofs.Ytooggheoaglbeaa
open Go.RowKit

def pw (j : Nat) : Int := [128, 64, 32, 16, 8, 4, 2, 1].getD j 0
def bitsOf (o : Int) : List Int := (List.range 8).map fun j => o / pw j % 2
def allBits (l : List Int) : List Int := l.flatMap bitsOf

theorem pw_step (j : Nat) (h : j < 8) : pw j / 2 = pw (j + 1) ∧ 0 < pw j ∧ pw j ≤ 128 := by
  match j, h with
  | 0, _ => decide
  | 1, _ => decide
  | 2, _ => decide
  | 3, _ => decide
  | 4, _ => decide
  | 5, _ => decide
  | 6, _ => decide
  | 7, _ => decide
theorem pw_pos (j : Nat) (h : 0 < pw j) : j < 8 := by
  rcases Nat.lt_or_ge j 8 with h' | h'
  · exact h'
  · simp [pw, List.getD_eq_getElem?_getD, List.getElem?_eq_none (l := [128, 64, 32, 16, 8, 4, 2, (1 : Int)]) (by simpa using h')] at h
theorem bits_len (o : Int) : (bitsOf o).length = 8 := by simp [bitsOf]
theorem bits_take (o : Int) (j : Nat) (h : j < 8) : (bitsOf o).take (j + 1) = (bitsOf o).take j ++ [o / pw j % 2] := by
  rw [List.take_succ_eq_append_getElem (by rw [bits_len]; exact h)]
  simp [bitsOf]
theorem all_snoc (l : List Int) (k : Nat) (h : k < l.length) : allBits (l.take (k + 1)) = allBits (l.take k) ++ bitsOf (l.getD k 0) := by
  unfold allBits
  rw [List.take_succ_eq_append_getElem h, List.flatMap_append]
  simp [List.getD_eq_getElem?_getD, h]
theorem all_len (l : List Int) : (allBits l).length = 8 * l.length := by
  unfold allBits
  induction l with
  | nil => rfl
  | cons a l ih => rw [List.flatMap_cons, List.length_append, bits_len, ih, List.length_cons]; omega

theorem Try.info3 : (Try.prog.info? 3).map (fun i => (i.zero, i.size, i.bytes)) = some (some (.int .i64 0), 1, 8) := by kernel_rfl

theorem rel_app {N n : Nat} {w wr w1 : World} {u : Value} {xs : List Value} {o : Obj} (hw : N ≤ w.heap.size) (hown : wr.ownsRow N 3 1 u n xs) (hnx : Below N w wr)
    (hgrow : (wr.alloc o).grownBy w1 u.ownBlock) : Below N w w1 :=
  (hnx.alloc (by have := hnx.size; omega) o).grown hgrow (by have := hnx.size; simp; omega) (fun j hj => by have := (hown.lt j hj).1; omega)

end Go.Proofs.Ytooggheoaglbeaa

/- What the document's 'run', 'Of' and 'On' do: the register behind bits, and so the very sums that package sum gives. Asked: at most 100000 bytes, lying in memory as said. -/
namespace Go.Proofs.Ytooggheoaglbeaa
open Go.RowKit

theorem feed_bits (r o : Int) (h0 : 0 ≤ o) (h1 : o < 256) : (bitsOf o).foldl stp r = feed r o := by
  have e0 : o / 128 % 2 = o / 128 := by omega
  have e1 : o * 2 % 256 / 128 = o / 64 % 2 := by omega
  have e2 : o * 2 % 256 * 2 % 256 / 128 = o / 32 % 2 := by omega
  have e3 : o * 2 % 256 * 2 % 256 * 2 % 256 / 128 = o / 16 % 2 := by omega
  have e4 : o * 2 % 256 * 2 % 256 * 2 % 256 * 2 % 256 / 128 = o / 8 % 2 := by omega
  have e5 : o * 2 % 256 * 2 % 256 * 2 % 256 * 2 % 256 * 2 % 256 / 128 = o / 4 % 2 := by omega
  have e6 : o * 2 % 256 * 2 % 256 * 2 % 256 * 2 % 256 * 2 % 256 * 2 % 256 / 128 = o / 2 % 2 := by omega
  have e7 : o * 2 % 256 * 2 % 256 * 2 % 256 * 2 % 256 * 2 % 256 * 2 % 256 * 2 % 256 / 128 = o / 1 % 2 := by omega
  have hb : bitsOf o = [o / 128 % 2, o / 64 % 2, o / 32 % 2, o / 16 % 2, o / 8 % 2, o / 4 % 2, o / 2 % 2, o / 1 % 2] := rfl
  rw [hb]
  simp only [List.foldl, feed, fd]
  rw [e0, e1, e2, e3, e4, e5, e6, e7]

theorem all_foldl (l : List Int) (hl : ∀ n ∈ l, 0 ≤ n ∧ n < 256) : ∀ r, (allBits l).foldl stp r = l.foldl feed r := by
  induction l with
  | nil => intro r; rfl
  | cons a l ih =>
    intro r
    unfold allBits
    rw [List.flatMap_cons, List.foldl_append, feed_bits r a (hl a (by simp)).1 (hl a (by simp)).2, List.foldl_cons]
    exact ih (fun n hn => hl n (by simp [hn])) _

/-- A slice value's ints. -/
def IS (w : World) (a : Option Addr) (n : Nat) (l : List Int) : Prop :=
  l.length = n ∧ n ≤ 800000 ∧ (n = 0 ∨ ∃ b off, a = some ⟨b, off, none⟩ ∧ ∀ i, i < n → w.cell? ⟨b, off + i, none⟩ = some (.int .i64 (l.getD i 0)))

theorem IS.own {w : World} {N : Nat} {v : Value} {n : Nat} {l : List Int} (h : w.ownsRow N 3 1 v n (l.map (Value.int .i64))) (hn : n ≤ 800000) :
    ∃ a cap, v = .slice a n cap ∧ IS w a n l := by
  obtain ⟨hx, h2⟩ := h
  have hl : l.length = n := by simpa using hx
  rcases h2 with ⟨rfl, rfl⟩ | ⟨g, cap, cur, rfl, hb, hg, hc1, hc2, hs, ht⟩
  · exact ⟨none, 0, rfl, hl, hn, .inl rfl⟩
  · have hw : w.ownsRow N 3 1 (.slice (some ⟨g, 0, none⟩) n cap) n (l.map (Value.int .i64)) := ⟨hx, .inr ⟨g, cap, cur, rfl, hb, hg, hc1, hc2, hs, ht⟩⟩
    refine ⟨some ⟨g, 0, none⟩, cap, rfl, hl, hn, .inr ⟨g, 0, rfl, fun i hi => ?_⟩⟩
    rw [Nat.zero_add, hw.cellAt i (by omega)]
    subst hl
    simp [List.getD_eq_getElem?_getD, hi]

theorem cpl_lit (r : Int) : bits .xor .u32 4294967295 r = cpl r := rfl
theorem cpl_zero : cpl 0 = 4294967295 := by decide +kernel

end Go.Proofs.Ytooggheoaglbeaa

/- What a statement is told of bytes that came in, and that they lie in memory as the walks ask. -/
namespace Go.Proofs.Ytooggheoaglbeaa
open Go.RowKit

/-- A slice of integers that came in: it is nil; or it leads to a row of 'cap' cells, the numbers 'zs' (the first 'len' are its elements, the rest its spare room), each fitting its kind. -/
def IsRow (k : IntKind) (w : World) (a : Option Addr) (len cap : Nat) (zs : List Int) : Prop :=
  (a = none ∧ len = 0 ∧ cap = 0 ∧ zs = []) ∨
  ∃ x, a = some x ∧ len ≤ cap ∧ cap ≤ maxLen ∧ zs.length = cap ∧ (∀ i, i < zs.length → w.cell? (x.add i) = some (.int k (zs.getD i 0))) ∧ ∀ n ∈ zs, (Lit.int k n).wf = true

theorem IsRow.bs {w : World} {a : Option Addr} {len cap : Nat} {zs : List Int} (h : IsRow .u8 w a len cap zs) : ∃ l, BS w a len l := by
  rcases h with ⟨rfl, rfl, rfl, rfl⟩ | ⟨x, rfl, hl, hm, hz, hcell, hwz⟩
  · exact ⟨[], rfl, by decide, (fun n hn => by cases hn), .inl rfl⟩
  · refine ⟨zs.take len, by rw [List.length_take]; omega, by omega, fun n hn => ?_, ?_⟩
    · have h1 := hwz n (List.mem_of_mem_take hn)
      simp [Lit.wf, IntKind.min, IntKind.max, IntKind.bits, IntKind.signed] at h1
      omega
    · rcases Nat.eq_zero_or_pos len with h0 | hp
      · exact .inl h0
      · obtain ⟨b, off, spot⟩ := x
        have hspot : spot = none := by simpa [Addr.add] using World.cell?_spot (hcell 0 (by omega))
        subst hspot
        refine .inr ⟨b, off, rfl, fun i hi => ?_⟩
        have h1 := hcell i (by omega)
        have h2 : (zs.take len).getD i 0 = zs.getD i 0 := by simp [List.getD_eq_getElem?_getD, hi]
        rw [h2]
        by_cases hi0 : i = 0
        · subst hi0; simpa [Addr.add] using h1
        · simpa [Addr.add, hi0] using h1

theorem one_ps (w : World) (a : Option Addr) (len cap : Nat) (l : List Int) (h : BS w a len l) : PS (w.alloc (.cells #[.slice a len cap] 37)) (some ⟨w.heap.size, 0, none⟩) 1 [l] := by
  refine PS.new _ _ rfl [(a, len, cap, l)] _ rfl _ 1 rfl (by decide) _ rfl ?_
  intro q hq
  simp only [List.mem_cons, List.not_mem_nil, or_false] at hq
  rcases hq with rfl
  exact h
end Go.Proofs.Ytooggheoaglbeaa

/- Bytes cut out of bytes lie in memory as the walks ask; sums of parts. -/
namespace Go.Proofs.Ytooggheoaglbeaa
open Go.RowKit

theorem Ext.drew {a w : World} (h : Ext a w) : Ext a w.drew := fun p v hp => h p v hp
theorem PS.drew {w : World} {a : Option Addr} {n : Nat} {ps : List (List Int)} (h : PS w a n ps) : PS w.drew a n ps := h
theorem BS.drew {w : World} {a : Option Addr} {n : Nat} {l : List Int} (h : BS w a n l) : BS w.drew a n l := h

/-- What 'x[i:h]' leads to. -/
def slA (a : Option Addr) (cap i : Nat) : Option Addr := if cap = i then a else a.map (fun x => x.add i)

theorem BS.cut {w : World} {a : Option Addr} {len : Nat} {l : List Int} (hB : BS w a len l) (i h cap : Nat) (h1 : i ≤ h) (h2 : h ≤ len) (h3 : len ≤ cap) :
    BS w (slA a cap i) (h - i) ((l.take h).drop i) := by
  obtain ⟨g1, g2, g3, g4⟩ := hB
  refine ⟨by rw [List.length_drop, List.length_take]; omega, by omega, fun n hn => g3 n (List.mem_of_mem_take (List.mem_of_mem_drop hn)), ?_⟩
  rcases Nat.eq_zero_or_pos (h - i) with h0 | hp
  · exact .inl h0
  · rcases g4 with h0 | ⟨b, off, rfl, hc⟩
    · omega
    · refine .inr ⟨b, off + i, ?_, fun t ht => ?_⟩
      · unfold slA
        rw [if_neg (by omega)]
        by_cases hi : i = 0
        · subst hi; simp [Addr.add]
        · simp [Addr.add, hi]
      · have h4 : ((l.take h).drop i).getD t 0 = l.getD (i + t) 0 := by
          have h5 : i + t < h := by omega
          simp [List.getD_eq_getElem?_getD, h5]
        rw [h4, Nat.add_assoc]
        exact hc (i + t) (by omega)

theorem BS.head {w : World} {a : Option Addr} {len : Nat} {l : List Int} (hB : BS w a len l) (h : Nat) (h2 : h ≤ len) : BS w a h (l.take h) := by
  obtain ⟨g1, g2, g3, g4⟩ := hB
  refine ⟨by rw [List.length_take]; omega, by omega, fun n hn => g3 n (List.mem_of_mem_take hn), ?_⟩
  rcases Nat.eq_zero_or_pos h with h0 | hp
  · exact .inl h0
  · rcases g4 with h0 | ⟨b, off, rfl, hc⟩
    · omega
    · refine .inr ⟨b, off, rfl, fun t ht => ?_⟩
      have h4 : (l.take h).getD t 0 = l.getD t 0 := by simp [List.getD_eq_getElem?_getD, ht]
      rw [h4]
      exact hc t (by omega)

theorem of_three (l : List Int) (i k : Nat) (h : i ≤ k) : of [l.take i, (l.take k).drop i, l.drop k] = of [l] := by
  show on (on (on 0 (l.take i)) ((l.take k).drop i)) (l.drop k) = on 0 l
  rw [← on_append, ← on_append]
  congr 1
  have h1 : l.take i = (l.take k).take i := by rw [List.take_take, Nat.min_eq_left h]
  rw [h1, ← List.append_assoc, List.take_append_drop, List.take_append_drop]
theorem on_of (l : List Int) (k : Nat) : on (of [l.take k]) (l.drop k) = of [l] := by
  show on (on 0 (l.take k)) (l.drop k) = on 0 l
  rw [← on_append, List.take_append_drop]
theorem PS.none (w : World) : PS w Option.none 0 [] := ⟨rfl, by decide, .inl rfl⟩

theorem three_ps (w : World) (a : Option Addr) (len cap : Nat) (l : List Int) (hB : BS w a len l) (i k : Nat) (h1 : i ≤ k) (h2 : k ≤ len) (h3 : len ≤ cap) :
    PS (w.alloc (.cells #[.slice a i cap, .slice (slA a cap i) (k - i) (cap - i), .slice (slA a cap k) (len - k) (cap - k)] 37)) (some ⟨w.heap.size, 0, .none⟩) 3 [l.take i, (l.take k).drop i, l.drop k] := by
  refine PS.new _ _ rfl [(a, i, cap, l.take i), (slA a cap i, k - i, cap - i, (l.take k).drop i), (slA a cap k, len - k, cap - k, l.drop k)] _ rfl _ 3 rfl (by decide) _ rfl ?_
  intro q hq
  simp only [List.mem_cons, List.not_mem_nil, or_false] at hq
  rcases hq with rfl | rfl | rfl
  · exact hB.head i (by omega)
  · exact hB.cut i k cap h1 h2 h3
  · have := hB.cut k len cap h2 (Nat.le_refl _) h3
    rw [List.take_of_length_le (by rw [hB.1]; exact Nat.le_refl _)] at this
    exact this
theorem one_ps' (w : World) (a : Option Addr) (len cap : Nat) (l : List Int) (h : BS w a len l) (k : Nat) (hk : k ≤ len) :
    PS ((w.alloc (.cells #[.slice a len cap] 37)).alloc (.cells #[.slice a k cap] 37)) (some ⟨w.heap.size + 1, 0, Option.none⟩) 1 [l.take k] := by
  have h1 := one_ps (w.alloc (.cells #[.slice a len cap] 37)) a k cap (l.take k) ((h.head k hk).ext ((Ext.refl w).alloc _))
  simpa using h1
theorem two_bs (w : World) (a : Option Addr) (len cap : Nat) (l : List Int) (h : BS w a len l) (k : Nat) (hk : k ≤ len) (hc : len ≤ cap) :
    BS ((w.alloc (.cells #[.slice a len cap] 37)).alloc (.cells #[.slice a k cap] 37)) (slA a cap k) (len - k) (l.drop k) := by
  have h1 := (h.cut k len cap hk (Nat.le_refl _) hc).ext (((Ext.refl w).alloc (.cells #[.slice a len cap] 37)).alloc (.cells #[.slice a k cap] 37))
  rw [List.take_of_length_le (by rw [h.1]; exact Nat.le_refl _)] at h1
  exact h1
end Go.Proofs.Ytooggheoaglbeaa

/- Numbers, texts and packs as bytes, as plain functions on lists of integers; what is put is got, and what is got, put again, is the same bytes. Nothing is asked but what each theorem names. -/
namespace Go.Proofs.Ytooggheoaglbeaa

def By (l : List Int) : Prop := ∀ n ∈ l, 0 ≤ n ∧ n < 256
theorem By.nil : By [] := fun _ h => by cases h
theorem By.cons {a : Int} {l : List Int} (h0 : 0 ≤ a) (h1 : a < 256) (h : By l) : By (a :: l) := fun n hn => by
  rcases List.mem_cons.1 hn with rfl | hn
  · exact ⟨h0, h1⟩
  · exact h n hn
theorem By.append {l m : List Int} (h : By l) (k : By m) : By (l ++ m) := fun n hn => by
  rcases List.mem_append.1 hn with hn | hn
  · exact h n hn
  · exact k n hn
theorem By.take {l : List Int} (h : By l) (k : Nat) : By (l.take k) := fun n hn => h n (List.mem_of_mem_take hn)
theorem By.drop {l : List Int} (h : By l) (k : Nat) : By (l.drop k) := fun n hn => h n (List.mem_of_mem_drop hn)
theorem By.tail {a : Int} {l : List Int} (h : By (a :: l)) : By l := fun n hn => h n (List.mem_cons_of_mem _ hn)
theorem By.head {a : Int} {l : List Int} (h : By (a :: l)) : 0 ≤ a ∧ a < 256 := h a (List.mem_cons_self ..)
theorem By.flat {ps : List (List Int)} {f : List Int → List Int} (h : ∀ p ∈ ps, By (f p)) : By (ps.flatMap f) := fun n hn => by
  obtain ⟨p, hp, hn⟩ := List.mem_flatMap.1 hn
  exact h p hp n hn

/-- 'k' bytes of 'x', the highest first. -/
def be : Nat → Int → List Int
  | 0, _ => []
  | k + 1, x => (x / 256 ^ k % 256) :: be k x
def val (l : List Int) : Int := l.foldl (fun x o => x * 256 + o) 0
/-- How many bytes 'x' has. -/
def nb (x : Int) : Nat :=
  if x < 1 then 0 else if x < 256 then 1 else if x < 65536 then 2 else if x < 16777216 then 3 else if x < 4294967296 then 4
  else if x < 1099511627776 then 5 else if x < 281474976710656 then 6 else if x < 72057594037927936 then 7 else 8
def num (x : Int) : List Int := (nb x : Int) :: be (nb x) x

theorem pow_pos' (k : Nat) : (0 : Int) < 256 ^ k := Int.pow_pos (by decide)
theorem pow_s (k : Nat) : (256 : Int) ^ (k + 1) = 256 ^ k * 256 := Int.pow_succ ..
theorem be_len (k : Nat) (x : Int) : (be k x).length = k := by
  induction k with
  | zero => rfl
  | succ k ih => simp [be, ih]
theorem be_by (k : Nat) (x : Int) : By (be k x) := by
  induction k with
  | zero => exact By.nil
  | succ k ih => exact By.cons (by omega) (by omega) ih
theorem nb_le (x : Int) : nb x ≤ 8 := by unfold nb; repeat' split
                                         all_goals omega
theorem num_by (x : Int) : By (num x) := By.cons (by omega) (by have := nb_le x; omega) (be_by _ _)
theorem num_len (x : Int) : (num x).length = nb x + 1 := by simp [num, be_len]
theorem nb_hi (x : Int) (h : x < 18446744073709551616) : x < 256 ^ nb x := by
  unfold nb
  repeat' split
  all_goals omega
theorem nb_lo (x : Int) : nb x = 0 ∨ (256 : Int) ^ (nb x - 1) ≤ x := by
  unfold nb
  repeat' split
  all_goals first | (left; rfl) | (right; simp; omega)
theorem nb_is (x : Int) (k : Nat) (h0 : 0 ≤ x) (hk : k ≤ 8) (hi : x < 256 ^ k) (lo : k = 0 ∨ (256 : Int) ^ (k - 1) ≤ x) : nb x = k := by
  have h8 : k = 0 ∨ k = 1 ∨ k = 2 ∨ k = 3 ∨ k = 4 ∨ k = 5 ∨ k = 6 ∨ k = 7 ∨ k = 8 := by omega
  rcases h8 with rfl | rfl | rfl | rfl | rfl | rfl | rfl | rfl | rfl
  all_goals
    simp at hi lo
    unfold nb
    repeat' split
    all_goals omega

theorem foldl_val (l : List Int) : ∀ a : Int, l.foldl (fun x o => x * 256 + o) a = a * 256 ^ l.length + val l := by
  unfold val
  induction l with
  | nil => intro a; simp
  | cons d r ih =>
    intro a
    rw [List.foldl_cons, List.foldl_cons, ih, ih (0 * 256 + d), List.length_cons, pow_s, Int.zero_mul, Int.zero_add, Int.add_mul, Int.mul_assoc, Int.mul_comm 256 (256 ^ r.length), Int.add_assoc]
theorem val_cons (d : Int) (r : List Int) : val (d :: r) = d * 256 ^ r.length + val r := by
  show r.foldl (fun x o => x * 256 + o) (0 * 256 + d) = _
  rw [foldl_val, Int.zero_mul, Int.zero_add]
theorem val_append (l m : List Int) : val (l ++ m) = val l * 256 ^ m.length + val m := by
  show (l ++ m).foldl (fun x o => x * 256 + o) 0 = _
  rw [List.foldl_append, foldl_val]; rfl
theorem val_snoc (l : List Int) (d : Int) : val (l ++ [d]) = val l * 256 + d := by rw [val_append]; simp [val]
theorem val_bd (l : List Int) (h : By l) : 0 ≤ val l ∧ val l < 256 ^ l.length := by
  induction l with
  | nil => exact ⟨by decide, by decide⟩
  | cons d r ih =>
    have i := ih h.tail
    have hd := h.head
    rw [val_cons, List.length_cons, pow_s]
    have hp := pow_pos' r.length
    have h1 : 0 ≤ d * 256 ^ r.length := Int.mul_nonneg hd.1 (by omega)
    have h2 : d * 256 ^ r.length ≤ 255 * 256 ^ r.length := Int.mul_le_mul_of_nonneg_right (by omega) (by omega)
    omega
theorem be_mod (k : Nat) : ∀ (x c : Int), be k (c * 256 ^ k + x) = be k x := by
  induction k with
  | zero => intro x c; rfl
  | succ k ih =>
    intro x c
    show (_ :: _) = (_ :: _)
    have e : c * 256 ^ (k + 1) + x = c * 256 * 256 ^ k + x := by rw [pow_s, Int.mul_assoc, Int.mul_comm (256 ^ k) 256]
    rw [e, ih x (c * 256), Int.mul_comm (c * 256), Int.add_comm, Int.add_mul_ediv_left _ _ (by have := pow_pos' k; omega)]
    congr 1
    omega
theorem be_val (l : List Int) (h : By l) : be l.length (val l) = l := by
  induction l with
  | nil => rfl
  | cons d r ih =>
    have hd := h.head
    have b := val_bd r h.tail
    rw [val_cons, List.length_cons]
    show (_ :: _) = _
    rw [be_mod, ih h.tail, Int.add_comm, Int.mul_comm d, Int.add_mul_ediv_left _ _ (by have := pow_pos' r.length; omega), Int.ediv_eq_zero_of_lt b.1 b.2]
    congr 1
    omega
theorem val_be (k : Nat) (x : Int) : val (be k x) = x % 256 ^ k := by
  induction k with
  | zero => simp [be, val, Int.emod_one]
  | succ k ih =>
    show val (_ :: _) = _
    rw [val_cons, ih, be_len, pow_s]
    have hp := pow_pos' k
    have h1 := Int.mul_ediv_add_emod x (256 ^ k)
    have h2 : x % (256 ^ k * 256) = x - (256 ^ k * 256) * (x / (256 ^ k * 256)) := by have := Int.mul_ediv_add_emod x (256 ^ k * 256); omega
    rw [h2, ← Int.ediv_ediv_of_nonneg (by omega)]
    have h3 : x / 256 ^ k % 256 = x / 256 ^ k - 256 * (x / 256 ^ k / 256) := by omega
    rw [h3, Int.sub_mul, Int.mul_comm (x / 256 ^ k), Int.mul_comm (256 * _) (256 ^ k), ← Int.mul_assoc]
    omega

/-- No nought ahead. -/
abbrev nz (d : List Int) : Prop := d.headD 1 ≠ 0

theorem nb_val (d : List Int) (h : By d) (h8 : d.length ≤ 8) (hz : nz d) : nb (val d) = d.length := by
  have b := val_bd d h
  refine nb_is _ _ b.1 h8 b.2 ?_
  match d, h, hz with
  | [], _, _ => exact .inl rfl
  | a :: r, h, hz =>
    right
    have ha : 1 ≤ a := by
      have := h.head
      have : a ≠ 0 := hz
      omega
    have hr := (val_bd r h.tail).1
    have hp := pow_pos' r.length
    rw [val_cons, List.length_cons]
    have : 1 * 256 ^ r.length ≤ a * 256 ^ r.length := Int.mul_le_mul_of_nonneg_right ha (by omega)
    simp only [Nat.add_sub_cancel]
    omega
theorem nz_of_nb (d : List Int) (h : By d) (hn : nb (val d) = d.length) : nz d := by
  match d, h, hn with
  | [], _, _ => exact (by decide : (1 : Int) ≠ 0)
  | a :: r, h, hn =>
    intro ha
    have ha : a = 0 := ha
    subst ha
    have b := val_bd r h.tail
    rw [val_cons, Int.zero_mul, Int.zero_add, List.length_cons] at hn
    rcases nb_lo (val r) with h0 | h1
    · omega
    · rw [hn, Nat.add_sub_cancel] at h1
      omega
theorem num_val (d : List Int) (h : By d) (h8 : d.length ≤ 8) (hz : nz d) : num (val d) = (d.length : Int) :: d := by
  unfold num
  rw [nb_val d h h8 hz, be_val d h]
theorem num_val_iff (d : List Int) (h : By d) (h8 : d.length ≤ 8) : num (val d) = (d.length : Int) :: d ↔ nz d := by
  refine ⟨fun e => nz_of_nb d h ?_, num_val d h h8⟩
  have := congrArg List.length e
  rw [num_len] at this
  simpa using this

/-- The number that bytes begin with, and how many these are. -/
def getNum : List Int → Option (Int × Nat)
  | [] => none
  | c :: r => if 8 < c ∨ r.length < c.toNat ∨ ¬ nz (r.take c.toNat) then none else some (val (r.take c.toNat), c.toNat + 1)

theorem getNum_cons (c : Int) (r : List Int) : getNum (c :: r) = if 8 < c ∨ r.length < c.toNat ∨ ¬ nz (r.take c.toNat) then none else some (val (r.take c.toNat), c.toNat + 1) := rfl
theorem pow8 (k : Nat) (h : k ≤ 8) : (256 : Int) ^ k ≤ 18446744073709551616 := by
  have h8 : k = 0 ∨ k = 1 ∨ k = 2 ∨ k = 3 ∨ k = 4 ∨ k = 5 ∨ k = 6 ∨ k = 7 ∨ k = 8 := by omega
  rcases h8 with rfl | rfl | rfl | rfl | rfl | rfl | rfl | rfl | rfl <;> decide
theorem getNum_some {b : List Int} (hb : By b) {x : Int} {n : Nat} (h : getNum b = some (x, n)) :
    0 ≤ x ∧ x < 18446744073709551616 ∧ 1 ≤ n ∧ n ≤ 9 ∧ n ≤ b.length ∧ num x = b.take n ∧ nb x + 1 = n := by
  match b, hb, h with
  | c :: r, hb, h =>
    rw [getNum_cons] at h
    split at h
    · cases h
    · rename_i hc
      simp only [Option.some.injEq, Prod.mk.injEq] at h
      obtain ⟨rfl, rfl⟩ := h
      have hc0 := hb.head
      have hd : By (r.take c.toNat) := hb.tail.take _
      have hl : (r.take c.toNat).length = c.toNat := by rw [List.length_take]; omega
      have bd := val_bd _ hd
      have hp := pow8 c.toNat (by omega)
      rw [hl] at bd
      have hnz : nz (r.take c.toNat) := by
        rcases Decidable.em (nz (r.take c.toNat)) with h' | h'
        · exact h'
        · exact absurd (.inr (.inr h')) hc
      refine ⟨bd.1, by omega, by omega, by omega, by simp; omega, ?_, ?_⟩
      · rw [num_val _ hd (by omega) hnz, hl, List.take_succ_cons]
        congr 1
        omega
      · rw [nb_val _ hd (by omega) hnz, hl]
theorem getNum_num (x : Int) (h0 : 0 ≤ x) (h1 : x < 18446744073709551616) (m : List Int) : getNum (num x ++ m) = some (x, (num x).length) := by
  have h8 := nb_le x
  have hl := be_len (nb x) x
  have ht : (be (nb x) x ++ m).take (nb x) = be (nb x) x := by rw [List.take_append_of_le_length (by omega), List.take_of_length_le (by omega)]
  have hv : val (be (nb x) x) = x := by rw [val_be]; exact Int.emod_eq_of_lt h0 (nb_hi x h1)
  have hz : nz (be (nb x) x) := nz_of_nb _ (be_by _ _) (by rw [hv, hl])
  show (if 8 < (nb x : Int) ∨ (be (nb x) x ++ m).length < (nb x : Int).toNat ∨ ¬ nz ((be (nb x) x ++ m).take (nb x : Int).toNat) then none else some (val ((be (nb x) x ++ m).take (nb x : Int).toNat), (nb x : Int).toNat + 1)) = _
  rw [Int.toNat_natCast, ht, if_neg, hv, num_len]
  rintro (h | h | h)
  · omega
  · rw [List.length_append] at h; omega
  · exact h hz

def text (t : List Int) : List Int := num t.length ++ t
def getText (b : List Int) : Option (List Int × Nat) :=
  match getNum b with
  | none => none
  | some (u, n) => if 65536 < u ∨ b.length < n + u.toNat then none else some ((b.drop n).take u.toNat, n + u.toNat)
theorem text_by {t : List Int} (h : By t) : By (text t) := (num_by _).append h
theorem getText_some {b : List Int} (hb : By b) {t : List Int} {n : Nat} (h : getText b = some (t, n)) :
    1 ≤ n ∧ n ≤ b.length ∧ text t = b.take n ∧ t.length ≤ 65536 ∧ By t := by
  unfold getText at h
  split at h
  · cases h
  · rename_i u k hk
    split at h
    · cases h
    · rename_i hu
      simp only [Option.some.injEq, Prod.mk.injEq] at h
      obtain ⟨rfl, rfl⟩ := h
      obtain ⟨g0, g1, g2, g3, g4, g5, g6⟩ := getNum_some hb hk
      have hl : ((b.drop k).take u.toNat).length = u.toNat := by rw [List.length_take, List.length_drop]; omega
      refine ⟨by omega, by omega, ?_, by omega, (hb.drop _).take _⟩
      unfold text
      rw [hl, Int.toNat_of_nonneg g0, g5, List.take_add]
theorem getText_text (t : List Int) (ht : t.length ≤ 65536) (m : List Int) : getText (text t ++ m) = some (t, (text t).length) := by
  unfold getText text
  rw [List.append_assoc, getNum_num _ (by omega) (by omega)]
  simp only []
  rw [if_neg, List.drop_left, Int.toNat_natCast, List.take_left, List.length_append]
  rw [List.length_append, List.length_append]
  omega

def pack (l : List (List Int)) : List Int := num l.length ++ l.flatMap text
/-- So many texts. -/
def gets : Nat → List Int → Option (List (List Int) × Nat)
  | 0, _ => some ([], 0)
  | k + 1, b => match getText b with
    | none => none
    | some (t, n) => match gets k (b.drop n) with
      | none => none
      | some (l, m) => some (t :: l, n + m)
def unpack (b : List Int) (most : Int) : Option (List (List Int) × Nat) :=
  match getNum b with
  | none => none
  | some (u, n) => if most < u then none else match gets u.toNat (b.drop n) with
    | none => none
    | some (l, m) => some (l, n + m)
theorem gets_some (k : Nat) : ∀ {b : List Int} (_ : By b) {l : List (List Int)} {n : Nat} (_ : gets k b = some (l, n)),
    n ≤ b.length ∧ l.length = k ∧ l.flatMap text = b.take n ∧ ∀ t ∈ l, t.length ≤ 65536 ∧ By t := by
  induction k with
  | zero =>
    intro b _ l n h
    simp only [gets, Option.some.injEq, Prod.mk.injEq] at h
    obtain ⟨rfl, rfl⟩ := h
    exact ⟨Nat.zero_le _, rfl, rfl, fun t ht => by cases ht⟩
  | succ k ih =>
    intro b hb l n h
    unfold gets at h
    split at h
    · cases h
    · rename_i t m hm
      split at h
      · cases h
      · rename_i l' m' hm'
        simp only [Option.some.injEq, Prod.mk.injEq] at h
        obtain ⟨rfl, rfl⟩ := h
        obtain ⟨g1, g2, g3, g4, g5⟩ := getText_some hb hm
        obtain ⟨i1, i2, i3, i4⟩ := ih (hb.drop m) hm'
        rw [List.length_drop] at i1
        refine ⟨by omega, by simp [i2], ?_, fun x hx => ?_⟩
        · rw [List.flatMap_cons, i3, g3, List.take_add]
        · rcases List.mem_cons.1 hx with rfl | hx
          · exact ⟨g4, g5⟩
          · exact i4 x hx
theorem gets_texts (l : List (List Int)) (hl : ∀ t ∈ l, t.length ≤ 65536) (m : List Int) : gets l.length (l.flatMap text ++ m) = some (l, (l.flatMap text).length) := by
  induction l with
  | nil => rfl
  | cons t l ih =>
    rw [List.length_cons, List.flatMap_cons, List.append_assoc]
    unfold gets
    rw [getText_text t (hl t (List.mem_cons_self ..))]
    simp only []
    rw [List.drop_left, ih (fun x hx => hl x (List.mem_cons_of_mem _ hx))]
    simp
theorem unpack_some {b : List Int} (hb : By b) {most : Int} {l : List (List Int)} {n : Nat} (h : unpack b most = some (l, n)) :
    1 ≤ n ∧ n ≤ b.length ∧ pack l = b.take n ∧ ∀ t ∈ l, t.length ≤ 65536 ∧ By t := by
  unfold unpack at h
  split at h
  · cases h
  · rename_i u k hk
    obtain ⟨g0, g1, g2, g3, g4, g5, g6⟩ := getNum_some hb hk
    split at h
    · cases h
    · split at h
      · cases h
      · rename_i l' m' hm'
        simp only [Option.some.injEq, Prod.mk.injEq] at h
        obtain ⟨rfl, rfl⟩ := h
        obtain ⟨i1, i2, i3, i4⟩ := gets_some _ (hb.drop k) hm'
        rw [List.length_drop] at i1
        refine ⟨by omega, by omega, ?_, i4⟩
        unfold pack
        rw [i2, Int.toNat_of_nonneg g0, g5, i3, List.take_add]
theorem unpack_pack (l : List (List Int)) (hn : l.length < 9223372036854775808) (hl : ∀ t ∈ l, t.length ≤ 65536) (m : List Int) (most : Int) (hm : (l.length : Int) ≤ most) :
    unpack (pack l ++ m) most = some (l, (pack l).length) := by
  unfold unpack pack
  rw [List.append_assoc, getNum_num _ (by omega) (by omega)]
  simp only []
  rw [if_neg (by omega), List.drop_left, Int.toNat_natCast, gets_texts l hl]
  simp
end Go.Proofs.Ytooggheoaglbeaa

/- Bytes in memory that the call has made ('Own'), and 'append' onto them as one law. -/
namespace Go.Proofs.Ytooggheoaglbeaa
open Go.RowKit

/-- A slice value whose bytes 'l' lie in a block of the call's own, at 'N' or above. -/
def Own (N : Nat) (w : World) (v : Value) (l : List Int) : Prop := w.ownsRow N 5 1 v l.length (l.map (Value.int .u8))
/-- What is known of a slice value's room. -/
def CP (p : Option Addr) (len cap : Nat) : Prop := len ≤ cap ∧ cap ≤ maxLen ∧ (p = none → cap = 0)

/-- To stop a walk at an operation: 'refine Stop.at ?_' in its arm; 'unfold Stop' behind it. -/
def Stop (p : Prop) : Prop := p
theorem Stop.at {p : Prop} (h : Stop p) : p := h

theorem Own.mono {N N' : Nat} {w : World} {v : Value} {l : List Int} (h : Own N w v l) (hN : N' ≤ N) : Own N' w v l := ⟨h.1, h.2.imp id fun ⟨g, cap, cur, h1, h2, h3⟩ => ⟨g, cap, cur, h1, Nat.le_trans hN h2, h3⟩⟩
theorem Own.alloc {N : Nat} {w : World} {v : Value} {l : List Int} (h : Own N w v l) (o : Obj) : Own N (w.alloc o) v l := World.ownsRow.alloc h o
theorem Own.drew {N : Nat} {w : World} {v : Value} {l : List Int} (h : Own N w v l) : Own N w.drew v l := World.ownsRow.drew h
theorem Own.below {N : Nat} {w w' : World} {v : Value} {l : List Int} (h : Own N w v l) (hb : Below w.heap.size w w') : Own N w' v l := by
  refine ⟨h.1, ?_⟩
  rcases h.2 with hn | ⟨g, cap, cur, rfl, hb', hgg, rest⟩
  · exact .inl hn
  · refine .inr ⟨g, cap, cur, rfl, hb', ?_, rest⟩
    rw [hb.block g (Array.getElem?_eq_some_iff.1 hgg).1]
    exact hgg
theorem Own.open {N : Nat} {w : World} {v : Value} {l : List Int} (h : Own N w v l) (hl : By l) : ∃ p cap, v = .slice p l.length cap ∧ BS w p l.length l ∧ CP p l.length cap := by
  have h0 := h
  obtain ⟨_, h2⟩ := h
  rcases h2 with ⟨rfl, h2⟩ | ⟨g, cap, cur, rfl, hb, hg, hc1, hc2, hs, ht⟩
  · exact ⟨none, 0, by rw [h2], ⟨rfl, by rw [h2]; decide, hl, .inl h2⟩, by omega, by decide, fun _ => rfl⟩
  · refine ⟨some ⟨g, 0, none⟩, cap, rfl, ⟨rfl, by omega, hl, .inr ⟨g, 0, rfl, fun i hi => ?_⟩⟩, hc1, hc2, fun h => by cases h⟩
    rw [Nat.zero_add, World.ownsRow.cellAt h0 i (by omega)]
    simp [List.getD_eq_getElem?_getD, hi]
theorem Own.made (w : World) (N g : Nat) (hg : g = w.heap.size) (hN : N ≤ w.heap.size) : Own N (w.alloc (.cells #[] 5)) (.slice (some ⟨g, 0, none⟩) 0 0) [] := by
  subst hg; exact World.ownsRow_made w #[] 0 hN (by decide) rfl
theorem Own.madeN (w : World) (N g : Nat) (hg : g = w.heap.size) (hN : N ≤ w.heap.size) (C : Array Value) (c : Nat) (hC : C.size = c) (hc : c ≤ maxLen) : Own N (w.alloc (.cells C 5)) (.slice (some ⟨g, 0, none⟩) 0 c) [] := by
  subst hg; exact World.ownsRow_made w C c hN hc (by omega)
theorem Own.lit (w : World) (N g : Nat) (hg : g = w.heap.size) (hN : N ≤ w.heap.size) (l : List Int) (C : Array Value) (hC : C = (l.map (Value.int .u8)).toArray) (n : Nat) (hn : n = l.length) (hl : l.length ≤ maxLen) :
    Own N (w.alloc (.cells C 5)) (.slice (some ⟨g, 0, none⟩) n n) l := by
  subst hn hC hg
  exact ⟨by simp, .inr ⟨w.heap.size, l.length, (l.map (Value.int .u8)).toArray, rfl, hN, heap_alloc_new w _, Nat.le_refl _, hl, by simp, by rw [List.take_of_length_le] <;> simp⟩⟩
theorem Own.one (w : World) (N g : Nat) (hg : g = w.heap.size) (hN : N ≤ w.heap.size) (x : Int) : Own N (w.alloc (.cells #[.int .u8 x] 5)) (.slice (some ⟨g, 0, none⟩) 1 1) [x] :=
  Own.lit w N g hg hN [x] _ rfl 1 rfl (by simp [maxLen])
theorem BS.below {w w' : World} {p : Option Addr} {len : Nat} {l : List Int} (h : BS w p len l) (hb : Below w.heap.size w w') : BS w' p len l := h.ext ((Ext.refl w).below hb)
theorem BS.alloc {w : World} {p : Option Addr} {len : Nat} {l : List Int} (h : BS w p len l) (o : Obj) : BS (w.alloc o) p len l := h.ext ((Ext.refl w).alloc o)
theorem BS.one (w : World) (g : Nat) (hg : g = w.heap.size) (x : Int) (h0 : 0 ≤ x) (h1 : x < 256) : BS (w.alloc (.cells #[.int .u8 x] 5)) (some ⟨g, 0, none⟩) 1 [x] :=
  BS.new w g hg [x] _ rfl _ 1 rfl (by decide) (By.cons h0 h1 By.nil)
theorem CP.some {a : Addr} {n c : Nat} (h : n ≤ c) (hc : c ≤ maxLen) : CP (some a) n c := ⟨h, hc, fun h => by cases h⟩
theorem BS.nil (w : World) (p : Option Addr) : BS w p 0 [] := ⟨rfl, by decide, By.nil, .inl rfl⟩

theorem Try.infoU8 : (Try.prog.info? 5).map (fun i => (i.zero, i.size, i.bytes)) = some (some (.int .u8 0), 1, 1) := by kernel_rfl

/-- 'append(v, x...)', 'v' the call's own. -/
theorem append_bytes {w : World} {ops : Array Oper} {rest : List Oper} {o : Oper} {a : Act} {Q : Exit → Act → World → Prop} (hgd : o.guard = none) (s x : Operand)
    (ho : o.op = .call { callee := .builtin .append, args := #[s, x], argTypes := #[37, 37] })
    (N : Nat) (v : Value) (l m : List Int) (hs : a.eval s = v) (hown : Own N w v l) (p : Option Addr) (len cap : Nat) (hx : a.eval x = .slice p len cap) (hp : p = none → cap = 0) (hB : BS w p len m)
    (hbig : l.length + m.length ≤ 140737488355328) (hN : N ≤ w.heap.size)
    (h : ∀ v' w', Own N w' v' (l ++ m) → w.grownBy w' v.ownBlock → (∀ w0, Below N w0 w → Below N w0 w') → wpList Try.prog ops Q rest (a.put o.dst v') w') : wpList Try.prog ops Q (o :: rest) a w := by
  obtain ⟨i0, hi, hz0, hz1, hz2⟩ := info_parts Try.infoU8
  obtain ⟨g1, g2, g3, g4⟩ := hB
  rcases p with _ | ad
  · have hc := hp rfl
    have hl0 : len = 0 := by
      rcases g4 with h0 | ⟨b, off, hh, _⟩
      · exact h0
      · cases hh
    subst hc hl0
    obtain rfl : m = [] := List.eq_nil_of_length_eq_zero g1
    refine wpList_append_own_none hgd s x _ ho N 5 i0 1 Try.underlying37 hi v _ _ hs hown hx ?_
    refine h v w (by rw [List.append_nil]; exact hown) ⟨rfl, rfl, rfl, Nat.le_refl _, fun _ _ _ => rfl⟩ (fun _ h => h)
  · refine wpList_append_own w hgd s x 37 ho N 5 i0 (.int .u8 0) 1 1 Try.underlying37 hi hz0 hz1 hz2 rfl (by decide) v _ _ hs hown ad len cap (m.map (Value.int .u8)) hx (by simp [g1]) ?_ ?_ (by rw [← g1]; unfold maxLen; omega) (by rw [← g1]; omega) hN ?_
    · intro j u hj
      rw [List.getElem?_map, Option.map_eq_some_iff] at hj
      obtain ⟨y, hy, rfl⟩ := hj
      obtain ⟨hj1, hx2⟩ := List.getElem?_eq_some_iff.1 hy
      rcases g4 with h0 | ⟨b, off, hh, hc⟩
      · omega
      · cases hh
        have h1 := hc j (by omega)
        have h2 : m.getD j 0 = y := by simp [List.getD_eq_getElem?_getD, hy]
        rw [h2] at h1
        have h3 : (⟨b, off, none⟩ : Addr).add j = ⟨b, off + j, none⟩ := by
          by_cases hj0 : j = 0
          · subst hj0; simp [Addr.add]
          · simp [Addr.add, hj0]
        rw [h3]
        exact h1
    · intro u hu
      rw [List.mem_map] at hu
      obtain ⟨y, _, rfl⟩ := hu
      rfl
    · intro v' w' h1 h2 _
      refine h v' w' ?_ h2 (fun w0 hb => hb.grown h2 hN (fun j hj => (World.ownsRow.lt hown j hj).1))
      have e : l.length + len = (l ++ m).length := by rw [List.length_append, g1]
      rw [e, ← List.map_append] at h1
      exact h1
end Go.Proofs.Ytooggheoaglbeaa

/- math/bits.Len64: how many bits; in bytes, rounded up, it is 'nb'. -/
namespace Go.Proofs.Ytooggheoaglbeaa
open Go.RowKit

set_option maxRecDepth 100000 in
theorem tab_all : ∀ y : Fin 256, Lib.len8tab.data[y.1]!.toNat ≤ 8 ∧ (Lib.len8tab.data[y.1]!.toNat = 0 ↔ y.1 = 0) := by decide +kernel
set_option maxRecDepth 100000 in
theorem tab_size : Lib.len8tab.size = 256 := by decide +kernel
theorem tab_get (y : Nat) (h : y < Lib.len8tab.size) : (Lib.len8tab[y]'h).toNat ≤ 8 ∧ ((Lib.len8tab[y]'h).toNat = 0 ↔ y = 0) := by
  have h' : y < 256 := by rw [← tab_size]; exact h
  have := tab_all ⟨y, h'⟩
  have e : Lib.len8tab[y]'h = Lib.len8tab.data[y]! := by
    have hd : y < Lib.len8tab.data.size := h
    rw [getElem!_pos Lib.len8tab.data y hd]; rfl
  rw [e]; exact this
theorem nb_way (j : Nat) (x : Int) (hx : 0 ≤ x) (hj : j ≤ 7) (h1 : 1 ≤ x / 256 ^ j) (h2 : x / 256 ^ j < 256) : nb x = j + 1 := by
  have hp := pow_pos' j
  refine nb_is x (j + 1) hx (by omega) ?_ (.inr ?_)
  · rw [pow_s, Int.mul_comm]
    have := (Int.ediv_lt_iff_lt_mul hp).1 h2
    exact this
  · rw [Nat.add_sub_cancel]
    have := (Int.le_ediv_iff_mul_le hp).1 h1
    omega
theorem len_fin (j : Nat) (x y : Int) (h : y.toNat < Lib.len8tab.size) (hx : 0 ≤ x) (hj : j ≤ 7) (hy : y = x / 256 ^ j) (h2 : y < 256) (hlo : j = 0 ∨ 1 ≤ y) :
    ∃ t : Nat, (Lib.len8tab[y.toNat]'h).toNat = t ∧ t ≤ 8 ∧ (8 * (j : Int) + t + 7) / 8 = nb x := by
  obtain ⟨g1, g2⟩ := tab_get y.toNat h
  refine ⟨_, rfl, g1, ?_⟩
  by_cases h0 : 1 ≤ y
  · rw [nb_way j x hx hj (by omega) (by omega)]
    have : (Lib.len8tab[y.toNat]'h).toNat ≠ 0 := fun e => by have := g2.1 e; omega
    omega
  · have hj0 : j = 0 := by omega
    subst hj0
    simp at hy
    subst hy
    have hx0 : y = 0 := by omega
    have : (Lib.len8tab[y.toNat]'h).toNat = 0 := g2.2 (by omega)
    rw [this, hx0]
    decide
theorem wrap_a (k t : Nat) (hk : k ≤ 56) (ht : t ≤ 8) : wrap64 ((k : Int) + wrap64 (t : Int)) = (k : Int) + t := by unfold wrap64; omega
theorem wrap_b (t : Nat) (ht : t ≤ 8) : wrap64 (wrap64 (t : Int)) = (t : Int) := by unfold wrap64; omega

set_option maxRecDepth 100000 in
set_option maxHeartbeats 4000000 in
theorem len64_any (x : Int) (w : World) (h0 : 0 ≤ x) (h1 : x < 18446744073709551616) :
    Calls Try.prog 87 #[.int .u64 x] w fun e w' => ∃ L : Int, e = .returned (.int .i64 L) ∧ 0 ≤ L ∧ L ≤ 64 ∧ (L + 7) / 8 = nb x ∧ w' = w := by
  have ts := tab_size
  by_cases c1 : 4294967296 ≤ x
  · by_cases c2 : 65536 ≤ x / 4294967296
    · by_cases c3 : 256 ≤ x / 4294967296 / 65536
      · obtain ⟨t, ht, ht8, hn⟩ := len_fin 7 x (x / 4294967296 / 65536 / 256) (by omega) h0 (by omega) (by omega) (by omega) (.inr (by omega))
        have A := hide (And.intro ht hn)
        clear ht hn
        go_enter Try.func87, Try.ntmps87
        go_wp2
        go_ret
        obtain ⟨ht, hn⟩ := unhide A
        refine ⟨_, rfl, ?_⟩
        erw [ht, wrap_a 56 t (by omega) ht8]
        exact ⟨by omega, by omega, hn, rfl⟩
      · obtain ⟨t, ht, ht8, hn⟩ := len_fin 6 x (x / 4294967296 / 65536) (by omega) h0 (by omega) (by omega) (by omega) (.inr (by omega))
        have A := hide (And.intro ht hn)
        clear ht hn
        go_enter Try.func87, Try.ntmps87
        go_wp2
        go_ret
        obtain ⟨ht, hn⟩ := unhide A
        refine ⟨_, rfl, ?_⟩
        erw [ht, wrap_a 48 t (by omega) ht8]
        exact ⟨by omega, by omega, hn, rfl⟩
    · by_cases c3 : 256 ≤ x / 4294967296
      · obtain ⟨t, ht, ht8, hn⟩ := len_fin 5 x (x / 4294967296 / 256) (by omega) h0 (by omega) (by omega) (by omega) (.inr (by omega))
        have A := hide (And.intro ht hn)
        clear ht hn
        go_enter Try.func87, Try.ntmps87
        go_wp2
        go_ret
        obtain ⟨ht, hn⟩ := unhide A
        refine ⟨_, rfl, ?_⟩
        erw [ht, wrap_a 40 t (by omega) ht8]
        exact ⟨by omega, by omega, hn, rfl⟩
      · obtain ⟨t, ht, ht8, hn⟩ := len_fin 4 x (x / 4294967296) (by omega) h0 (by omega) (by omega) (by omega) (.inr (by omega))
        have A := hide (And.intro ht hn)
        clear ht hn
        go_enter Try.func87, Try.ntmps87
        go_wp2
        go_ret
        obtain ⟨ht, hn⟩ := unhide A
        refine ⟨_, rfl, ?_⟩
        erw [ht, wrap_a 32 t (by omega) ht8]
        exact ⟨by omega, by omega, hn, rfl⟩
  · by_cases c2 : 65536 ≤ x
    · by_cases c3 : 256 ≤ x / 65536
      · obtain ⟨t, ht, ht8, hn⟩ := len_fin 3 x (x / 65536 / 256) (by omega) h0 (by omega) (by omega) (by omega) (.inr (by omega))
        have A := hide (And.intro ht hn)
        clear ht hn
        go_enter Try.func87, Try.ntmps87
        go_wp2
        go_ret
        obtain ⟨ht, hn⟩ := unhide A
        refine ⟨_, rfl, ?_⟩
        erw [ht, wrap_a 24 t (by omega) ht8]
        exact ⟨by omega, by omega, hn, rfl⟩
      · obtain ⟨t, ht, ht8, hn⟩ := len_fin 2 x (x / 65536) (by omega) h0 (by omega) (by omega) (by omega) (.inr (by omega))
        have A := hide (And.intro ht hn)
        clear ht hn
        go_enter Try.func87, Try.ntmps87
        go_wp2
        go_ret
        obtain ⟨ht, hn⟩ := unhide A
        refine ⟨_, rfl, ?_⟩
        erw [ht, wrap_a 16 t (by omega) ht8]
        exact ⟨by omega, by omega, hn, rfl⟩
    · by_cases c3 : 256 ≤ x
      · obtain ⟨t, ht, ht8, hn⟩ := len_fin 1 x (x / 256) (by omega) h0 (by omega) (by omega) (by omega) (.inr (by omega))
        have A := hide (And.intro ht hn)
        clear ht hn
        go_enter Try.func87, Try.ntmps87
        go_wp2
        go_ret
        obtain ⟨ht, hn⟩ := unhide A
        refine ⟨_, rfl, ?_⟩
        erw [ht, wrap_a 8 t (by omega) ht8]
        exact ⟨by omega, by omega, hn, rfl⟩
      · obtain ⟨t, ht, ht8, hn⟩ := len_fin 0 x (x) (by omega) h0 (by omega) (by omega) (by omega) (.inl rfl)
        have A := hide (And.intro ht hn)
        clear ht hn
        go_enter Try.func87, Try.ntmps87
        go_wp2
        go_ret
        obtain ⟨ht, hn⟩ := unhide A
        refine ⟨_, rfl, ?_⟩
        erw [ht, wrap_b t ht8]
        exact ⟨by omega, by omega, by simpa using hn, rfl⟩
end Go.Proofs.Ytooggheoaglbeaa

/- What 'Bytes', 'noughtAhead', 'value', 'Num' and 'GetNum' do, the program's and the document's. -/
namespace Go.Proofs.Ytooggheoaglbeaa
open Go.RowKit
set_option linter.unusedVariables false

theorem ret_bool {a b : Bool} (h : a = b) : Ending.returned (.bool a) = .returned (.bool b) := by rw [h]
theorem drop_ne {l m : List Int} (k : Nat) (hl : k < l.length) (hm : k < m.length) (hne : l.getD k 0 ≠ m.getD k 0) : ¬ l = m := fun h => hne (by rw [h])
theorem take_eq {l m : List Int} (k : Nat) (hl : k < l.length) (hm : k < m.length) (h : l.take k = m.take k) (he : l.getD k 0 = m.getD k 0) : l.take (k + 1) = m.take (k + 1) := by
  rw [List.take_succ_eq_append_getElem hl, List.take_succ_eq_append_getElem hm, h]
  simp [List.getD_eq_getElem?_getD, hl, hm] at he
  rw [he]

set_option maxHeartbeats 400000 in
theorem bytes_any (a b : Option Addr) (n c m d : Nat) (l k : List Int) (w : World) (hA : BS w a n l) (hB : BS w b m k) :
    Calls Try.prog 18 #[.slice a n c, .slice b m d] w fun e w' => e = .returned (.bool (decide (l = k))) ∧ Below w.heap.size w w' := by
  obtain ⟨g1, g2, g3, g4⟩ := hA
  obtain ⟨h1, h2, h3, h4⟩ := hB
  have G1 := hide g1
  have H1 := hide h1
  have G4 := hide g4
  have H4 := hide h4
  unfold maxLen at g2 h2
  clear g1 h1 g3 h3 g4 h4
  by_cases hnm : n = m
  · subst hnm
    go_enter Try.func18, Try.ntmps18
    go_wp2
    go_loopw [5] (fun i wr => ∃ j : Nat, j ≤ n ∧ i = .int .i64 j ∧ Hid (l.take j = k.take j) ∧ Hid (Below w.heap.size w wr)) (fun i _ => n - (intOf i).toNat)
    case atStart => exact ⟨0, by omega, rfl, rfl, Below.refl _ _⟩
    case round =>
      obtain ⟨j, hj, rfl, hE, hW⟩ := hrel
      by_cases hlt : j < n
      · rcases G4.out with h0 | ⟨b1, o1, rfl, hc1⟩
        · omega
        rcases H4.out with h0 | ⟨b2, o2, rfl, hc2⟩
        · omega
        have q1 : wr.cell? ⟨b1, o1 + j, none⟩ = some (.int .u8 (l.getD j 0)) := by rw [hW.out.cell (World.block_lt_of_cell? w _ (hc1 j hlt))]; exact hc1 j hlt
        have q2 : wr.cell? ⟨b2, o2 + j, none⟩ = some (.int .u8 (k.getD j 0)) := by rw [hW.out.cell (World.block_lt_of_cell? w _ (hc2 j hlt))]; exact hc2 j hlt
        clear hc1 hc2 G4 H4
        have hE2 := fun he => hide (take_eq j (by rw [G1.out]; exact hlt) (by rw [H1.out]; exact hlt) hE.out he)
        have hN2 : ∀ he : l.getD j 0 ≠ k.getD j 0, Hid (¬ l = k) := fun he e => he (by rw [e])
        generalize l.getD j 0 = x at q1 hE2 hN2
        generalize k.getD j 0 = y at q2 hE2 hN2
        by_cases he : x = y
        · have hE3 := hE2 he
          subst he
          clear hN2 hE2
          go_wp2
          go_region
          go_wp2
          go_roundw
          case rel => exact ⟨j + 1, by omega, by go_num, hE3, hW.out.drew⟩
          case measure => simp [intOf]; omega
        · have hlk := hN2 he
          have he2 : (x != y) = true := by simpa using he
          clear hE2 hN2 he
          go_wp2
          go_region
          go_wp2
          go_ret
          exact ⟨ret_bool (by simp [hlk.out]), hW.out.drew⟩
      · have : j = n := by omega
        subst this
        have hlk : Hid (l = k) := by
          have := hE.out
          rw [List.take_of_length_le (by rw [G1.out]; exact Nat.le_refl _), List.take_of_length_le (by rw [H1.out]; exact Nat.le_refl _)] at this
          exact this
        go_wp2
        go_ret
        exact ⟨ret_bool (by simp [hlk.out]), hW.out⟩
  · have hne : ((n : Int) != (m : Int)) = true := by simp; omega
    have hlk : Hid (¬ l = k) := fun e => hnm (by rw [← G1.out, ← H1.out, e])
    go_enter Try.func18, Try.ntmps18
    go_wp2
    go_ret
    exact ⟨ret_bool (by simp [hlk.out]), Below.refl _ _⟩
end Go.Proofs.Ytooggheoaglbeaa

/- What 'noughtAhead' and 'value' do. -/
namespace Go.Proofs.Ytooggheoaglbeaa
open Go.RowKit
set_option linter.unusedVariables false

set_option maxHeartbeats 400000 in
theorem ahead_any (a : Option Addr) (n c : Nat) (l : List Int) (w : World) (hA : BS w a n l) :
    Calls Try.prog 101 #[.slice a n c] w fun e w' => e = .returned (.bool (decide (¬ nz l))) ∧ w' = w := by
  obtain ⟨g1, g2, g3, g4⟩ := hA
  unfold maxLen at g2
  by_cases hn : 0 < n
  · rcases g4 with h0 | ⟨b, o, rfl, hc⟩
    · omega
    have q := hc 0 hn
    rw [Nat.add_zero] at q
    have hz : Hid (decide (¬ nz l) = (l.getD 0 0 == 0)) := by
      rcases l with _ | ⟨x, r⟩
      · simp at g1; omega
      · simp [nz]; rfl
    generalize l.getD 0 0 = x at q hz
    clear hc g1 g3
    go_enter Try.func101, Try.ntmps101
    go_wp2
    go_ret
    exact ⟨ret_bool hz.out.symm, rfl⟩
  · have hn0 : n = 0 := by omega
    subst hn0
    obtain rfl : l = [] := List.eq_nil_of_length_eq_zero g1
    clear g3 g4 g1
    go_enter Try.func101, Try.ntmps101
    go_wp2
    go_ret
    exact ⟨ret_bool (by decide), rfl⟩

theorem val_take (l : List Int) (k : Nat) (h : k < l.length) : val (l.take (k + 1)) = val (l.take k) * 256 + l.getD k 0 := by
  rw [List.take_succ_eq_append_getElem h, val_snoc]
  simp [List.getD_eq_getElem?_getD, h]
theorem pow7 (k : Nat) (h : k ≤ 7) : (256 : Int) ^ k ≤ 72057594037927936 := by
  have h8 : k = 0 ∨ k = 1 ∨ k = 2 ∨ k = 3 ∨ k = 4 ∨ k = 5 ∨ k = 6 ∨ k = 7 := by omega
  rcases h8 with rfl | rfl | rfl | rfl | rfl | rfl | rfl | rfl <;> decide

theorem or64 (x y : Int) (hx0 : 0 ≤ x) (hx1 : x < 72057594037927936) (hy0 : 0 ≤ y) (hy1 : y < 256) : bits .or .u64 (x * 256) y = x * 256 + y := by
  obtain ⟨a, rfl⟩ := Int.eq_ofNat_of_zero_le hx0
  obtain ⟨b, rfl⟩ := Int.eq_ofNat_of_zero_le hy0
  have e : ((a : Int) * 256) = ((a * 256 : Nat) : Int) := by omega
  have h1 : (BitVec.ofInt 64 ((a * 256 : Nat) : Int)).toNat = a * 256 := by rw [BitVec.ofInt_natCast, BitVec.toNat_ofNat]; exact Nat.mod_eq_of_lt (by omega)
  have h2 : (BitVec.ofInt 64 (b : Int)).toNat = b := by rw [BitVec.ofInt_natCast, BitVec.toNat_ofNat]; exact Nat.mod_eq_of_lt (by omega)
  have h3 : a * 256 ||| b = a * 256 + b := by
    have := Nat.shiftLeft_add_eq_or_of_lt (i := 8) (b := b) (by omega) a
    rw [Nat.shiftLeft_eq] at this
    exact this.symm
  rw [e]
  show IntKind.u64.wrap ((BitVec.ofInt 64 ((a * 256 : Nat) : Int) ||| BitVec.ofInt 64 (b : Int)).toNat : Int) = _
  rw [BitVec.toNat_or, h1, h2, h3, IntKind.wrap_u64]
  omega

set_option maxHeartbeats 400000 in
theorem value_any (a : Option Addr) (n c : Nat) (l : List Int) (w : World) (hA : BS w a n l) (h8 : n ≤ 8) :
    Calls Try.prog 102 #[.slice a n c] w fun e w' => e = .returned (.int .u64 (val l)) ∧ w' = w := by
  obtain ⟨g1, g2, g3, g4⟩ := hA
  have G1 := hide g1
  have G3 := hide g3
  have G4 := hide g4
  clear g1 g2 g3 g4
  go_enter Try.func102, Try.ntmps102
  go_wp2
  go_loop [3, 8] (fun r i => ∃ (k : Nat) (x : Int), k ≤ n ∧ i = .int .i64 k ∧ r = .int .u64 x ∧ Hid (x = val (l.take k)) ∧ 0 ≤ x ∧ x < 18446744073709551616) (fun _ i => n - (intOf i).toNat)
  case atStart => exact ⟨0, 0, by omega, rfl, rfl, rfl, by omega, by omega⟩
  case round =>
    obtain ⟨k, x, hk, rfl, rfl, hx, hx0, hx1⟩ := hrel
    by_cases hlt : k < n
    · rcases G4.out with h0 | ⟨b, off, rfl, hc⟩
      · omega
      have q := hc k hlt
      have hb0 := (getD_byte G3.out k).1
      have hb1 := (getD_byte G3.out k).2
      have hv := hide (val_take l k (by rw [G1.out]; exact hlt))
      have hx7 : x < 72057594037927936 := by
        have h1 := (val_bd (l.take k) (By.take G3.out k)).2
        rw [← hx.out, List.length_take, G1.out] at h1
        have h2 := pow7 (min k n) (by omega)
        omega
      clear hc
      generalize l.getD k 0 = y at q hb0 hb1 hv
      go_wp2
      go_round
      case rel => exact ⟨k + 1, x * 256 + y, by omega, by go_num, by rw [or64 x y hx0 hx7 hb0 hb1], by rw [hx.out]; exact hv.out.symm, by omega, by omega⟩
      case measure => simp [intOf]; omega
    · have hkl : k = n := by omega
      subst hkl
      have hE : Hid (x = val l) := by have h2 := hx.out; rw [List.take_of_length_le (by rw [G1.out]; exact Nat.le_refl _)] at h2; exact h2
      go_wp2
      go_ret
      exact ⟨ret_int hE.out, rfl⟩
end Go.Proofs.Ytooggheoaglbeaa

/- What 'Num' does, the program's and the document's: the number's bytes, in new memory. -/
namespace Go.Proofs.Ytooggheoaglbeaa
open Go.RowKit
set_option linter.unusedVariables false

theorem be_step (x : Int) (k : Nat) (h0 : 0 ≤ x) : be (k + 1) x = x / 2 ^ (8 * k) % 256 :: be k x := by
  have : (2 : Int) ^ (8 * k) = 256 ^ k := by rw [Int.pow_mul]; rfl
  rw [this]; rfl
theorem make_cap (c : Nat) (hc : c ≤ 1000000) : ∃ C : Array Value, C.size = c ∧ ∀ w : World, (Instr.makeSlice 37 (.int .i64 0) (.int .i64 (c : Int))).run Try.prog w = .ok (.slice (some ⟨w.heap.size, 0, none⟩) 0 c) (w.alloc (.cells C 5)) := by
  obtain ⟨i0, hi, hz0, hz1, hz2⟩ := info_parts Try.infoU8
  refine ⟨madeCells (Value.int .u8 0).cells (c * i0.size), ?_, fun w => ?_⟩
  · rw [size_madeCells, hz1]; simp
  · have h := run_make (P := Try.prog) w 37 5 i0 (.int .u8 0) Try.underlying37 hi hz0 .i64 .i64 0 (c : Int) (by omega) (by omega) (by rw [hz2]; omega) (by omega)
    simpa using h

set_option maxHeartbeats 1000000 in
set_option maxRecDepth 100000 in
theorem num_any (x : Int) (w : World) (h0 : 0 ≤ x) (h1 : x < 18446744073709551616) :
    Calls Try.prog 60 #[.int .u64 x] w fun e w' => ∃ v, e = .returned v ∧ Own w.heap.size w' v (num x) ∧ Below w.heap.size w w' := by
  have hnb := nb_le x
  obtain ⟨n, hn⟩ : ∃ n, n = nb x := ⟨_, rfl⟩
  rw [← hn] at hnb
  obtain ⟨C, hC, mk⟩ := make_cap (1 + n) (by omega)
  have mk : ∀ w : World, (Instr.makeSlice 37 (.int .i64 0) (.int .i64 (1 + (n : Int)))).run Try.prog w = .ok (.slice (some ⟨w.heap.size, 0, none⟩) 0 (1 + n)) (w.alloc (.cells C 5)) := fun w => by rw [← mk w]; congr 2
  have hNum : Hid (num x = (n : Int) :: be n x) := by rw [hn]; rfl
  have HN := hide hn
  go_enter Try.func60, Try.ntmps60
  go_wp2_with fail
  refine (len64_any x w h0 h1).mono ?_
  rintro e w1 ⟨L, rfl, hL0, hL1, hL, rfl⟩
  rw [← hn] at hL
  clear hn
  have hL2 : (L + 8 - 1).tdiv 8 = (n : Int) := by rw [Int.tdiv_eq_ediv_of_nonneg (by omega), ← hL]; congr 1; omega
  have hown0 := hide ((Own.madeN w1 w1.heap.size _ rfl (Nat.le_refl _) C (1 + n) hC (by unfold maxLen; omega)).alloc (.cells #[.int .u8 (n : Int)] 5))
  have hbs0 := hide (BS.one (w1.alloc (.cells C 5)) (w1.heap.size + 1) (by simp) (n : Int) (by omega) (by omega))
  go_wp2_with (at_builtin; refine Stop.at ?_)
  unfold Stop
  refine append_bytes rfl _ _ rfl w1.heap.size _ _ [(n : Int)] rfl hown0.out _ _ _ rfl (by intro h; cases h) hbs0.out (by simp) (by simp; omega) ?_
  intro v' w2 hown hgrow hbel
  have Hown := hide hown
  have Hbel := hide (hbel w1 (((Below.refl _ w1).alloc (Nat.le_refl _) _).alloc (by simp) _))
  clear hown hgrow hbel hown0 hbs0
  go_wp2
  go_loopw [4, 5] (fun v i wr => ∃ (m : Int) (j : Nat) (acc : List Int), i = .int .i64 m ∧ -1 ≤ m ∧ m < 8 ∧ Hid (m + 1 = j) ∧ Hid (acc ++ be j x = num x) ∧ Hid (Own w1.heap.size wr v acc) ∧ Hid (Below w1.heap.size w1 wr)) (fun _ i _ => (intOf i + 1).toNat)
  case atStart => exact ⟨(n : Int) - 1, n, [(n : Int)], rfl, by omega, by omega, by show (n : Int) - 1 + 1 = n; omega, hNum.out.symm, Hown.out, Hbel.out⟩
  case round =>
    obtain ⟨m, j, acc, rfl, hm0, hm8, hmj, hacc, hown, hbel⟩ := hrel
    by_cases hm : 0 ≤ m
    · obtain ⟨k, rfl⟩ := Int.eq_ofNat_of_zero_le hm
      have hjk : j = k + 1 := by have := hmj.out; omega
      subst hjk
      have hstep := hide (be_step x k h0)
      have hsz := hbel.out.size
      go_wp2_with (at_builtin; refine Stop.at ?_)
      unfold Stop
      have hl : acc.length + (k + 1) ≤ 9 := by have h := congrArg List.length hacc.out; rw [List.length_append, be_len, num_len, ← HN.out] at h; omega
      refine append_bytes rfl _ _ rfl w1.heap.size _ _ [x / 2 ^ (8 * k) % 256] rfl (hown.out.alloc _) _ _ _ rfl (by intro h; cases h) (BS.one wr _ rfl _ (by omega) (by omega)) (by simp; omega) (by simp; omega) ?_
      intro v2 w2 hown2 hgrow hbel2
      have Hown2 := hide hown2
      have Hbel2 := hide (hbel2 w1 (hbel.out.alloc (by omega) _))
      have hacc2 : Hid ((acc ++ [x / 2 ^ (8 * k) % 256]) ++ be k x = num x) := by rw [← hacc.out, hstep.out, List.append_assoc]; rfl
      clear hown2 hgrow hbel2 hown hbel hacc hstep
      go_wp2
      go_roundw
      case rel => exact ⟨(k : Int) - 1, k, _, rfl, by omega, by omega, by show (k : Int) - 1 + 1 = k; omega, hacc2, Hown2, Hbel2⟩
      case measure => simp [intOf]
    · have hj : j = 0 := by have := hmj.out; omega
      subst hj
      have hE : Hid (acc = num x) := by have := hacc.out; rw [show be 0 x = [] from rfl, List.append_nil] at this; exact this
      have hown2 : Hid (Own w1.heap.size wr u4 (num x)) := by rw [← hE.out]; exact hown
      clear hown
      go_wp2
      go_ret
      exact ⟨_, rfl, hown2.out, hbel.out⟩

theorem div_s (x : Int) (j : Nat) : x / 256 ^ (j + 1) = x / 256 ^ j / 256 := by rw [pow_s, Int.ediv_ediv_of_nonneg (Int.le_of_lt (pow_pos' j))]
theorem be_cons (x : Int) (j : Nat) : be (j + 1) x = x / 256 ^ j % 256 :: be j x := rfl

set_option maxHeartbeats 1000000 in
set_option maxRecDepth 100000 in
theorem refNum_any (x : Int) (w : World) (h0 : 0 ≤ x) (h1 : x < 18446744073709551616) :
    Calls Try.prog 70 #[.int .u64 x] w fun e w' => ∃ v, e = .returned v ∧ Own w.heap.size w' v (num x) ∧ Below w.heap.size w w' := by
  go_enter Try.func70, Try.ntmps70
  go_wp2
  go_loopw [0, 3] (fun u v wr => ∃ (j : Nat) (y : Int) (p : Option Addr) (cap : Nat), u = .int .u64 y ∧ 0 ≤ y ∧ y < 18446744073709551616 ∧ Hid (y = x / 256 ^ j) ∧ v = .slice p j cap ∧ Hid (p = none → cap = 0) ∧ Hid (BS wr p j (be j x)) ∧ Hid (Below w.heap.size w wr) ∧ Hid (j = 0 ∨ (256 : Int) ^ (j - 1) ≤ x) ∧ j ≤ 8) (fun u _ _ => (intOf u).toNat)
  case atStart => exact ⟨0, x, _, 0, rfl, h0, h1, by show x = x / 1; omega, rfl, fun _ => rfl, BS.nil _ _, (Below.refl _ _).alloc (Nat.le_refl _) _, .inl rfl, by omega⟩
  case round =>
    obtain ⟨j, y, p, cap, rfl, hy0, hy1, hy, rfl, hp, hbs, hbel, hlo, hj8⟩ := hrel
    have hsz := hbel.out.size
    by_cases hpos : 0 < y
    · have hxj : Hid ((256 : Int) ^ j ≤ x) := by
        have := hy.out
        have h1 : 1 ≤ x / 256 ^ j := by omega
        have := (Int.le_ediv_iff_mul_le (pow_pos' j)).1 h1
        show _ ≤ _
        omega
      have hj7 : j < 8 := by
        have h2 := hxj.out
        rcases Nat.lt_or_ge j 8 with h | h
        · exact h
        · have : j = 8 := by omega
          subst this
          omega
      have hcons := hide (be_cons x j)
      go_wp2_with (at_builtin; refine Stop.at ?_)
      unfold Stop
      refine append_bytes rfl _ _ rfl w.heap.size _ _ (be j x) rfl (Own.one wr w.heap.size _ rfl hsz (y % 256)) p j cap rfl hp.out (hbs.out.alloc _) (by rw [be_len]; simp; omega) (by simp; omega) ?_
      intro v2 w2 hown2 hgrow hbel2
      have Hbel2 := hide (hbel2 w (hbel.out.alloc (by omega) _))
      have hE : [y % 256] ++ be j x = be (j + 1) x := by rw [hcons.out, ← hy.out]; rfl
      rw [hE] at hown2
      obtain ⟨p2, cap2, rfl, hbs2, hcp2⟩ := Own.open hown2 (be_by _ _)
      rw [be_len] at hbs2 hcp2
      rw [be_len]
      have Hbs2 := hide hbs2
      have Hcp2 := hide hcp2.2.2
      clear hown2 hgrow hbel2 hbel hbs hbs2 hcp2 hE
      have hdiv : y / 256 = x / 256 ^ (j + 1) := by rw [div_s, ← hy.out]
      have Hdiv := hide hdiv
      clear hdiv
      go_wp2
      go_roundw
      case rel => exact ⟨j + 1, y / 256, p2, cap2, rfl, by omega, by omega, Hdiv, rfl, Hcp2, Hbs2, Hbel2, .inr hxj.out, by omega⟩
      case measure => simp [intOf]; omega
    · have hy00 : y = 0 := by omega
      subst hy00
      have hnb : Hid (nb x = j) := by
        refine nb_is x j h0 hj8 ?_ hlo.out
        have h2 := hy.out
        have h3 : x / 256 ^ j < 1 := by omega
        have := (Int.ediv_lt_iff_lt_mul (pow_pos' j)).1 h3
        omega
      have hE : Hid ([(j : Int)] ++ be j x = num x) := by unfold num; rw [hnb.out]; rfl
      go_wp2_with (at_builtin; refine Stop.at ?_)
      unfold Stop
      refine append_bytes rfl _ _ rfl w.heap.size _ _ (be j x) rfl (Own.one wr w.heap.size _ rfl hsz (j : Int)) p j cap rfl hp.out (hbs.out.alloc _) (by rw [be_len]; simp; omega) (by simp; omega) ?_
      intro v2 w2 hown2 hgrow hbel2
      have Hbel2 := hide (hbel2 w (hbel.out.alloc (by omega) _))
      rw [hE.out] at hown2
      have Hown2 := hide hown2
      clear hown2 hgrow hbel2
      go_wp2
      go_ret
      exact ⟨_, rfl, Hown2.out, Hbel2.out⟩
end Go.Proofs.Ytooggheoaglbeaa

/- What 'GetNum' does, the program's and the document's. -/
namespace Go.Proofs.Ytooggheoaglbeaa
open Go.RowKit
set_option linter.unusedVariables false

theorem BS.cell0 {w : World} {a : Option Addr} {n : Nat} {x : Int} {l : List Int} (h : BS w a n (x :: l)) : ∃ b o, a = some ⟨b, o, none⟩ ∧ w.cell? ⟨b, o, none⟩ = some (.int .u8 x) ∧ 0 ≤ x ∧ x < 256 ∧ n = l.length + 1 := by
  obtain ⟨g1, g2, g3, g4⟩ := h
  rcases g4 with h0 | ⟨b, o, rfl, hc⟩
  · subst h0; simp at g1
  · have q := hc 0 (by rw [← g1]; simp)
    exact ⟨b, o, rfl, by simpa using q, (By.head g3).1, (By.head g3).2, by rw [← g1]; simp⟩

theorem BS.at {w : World} {b o n : Nat} {l : List Int} (h : BS w (some ⟨b, o, none⟩) n l) (i k : Nat) (hk : i + k ≤ n) : BS w (some ⟨b, o + i, none⟩) k ((l.drop i).take k) := by
  obtain ⟨g1, g2, g3, g4⟩ := h
  refine ⟨by rw [List.length_take, List.length_drop]; omega, by omega, By.take (By.drop g3 i) k, ?_⟩
  rcases Nat.eq_zero_or_pos k with h0 | hp
  · exact .inl h0
  · rcases g4 with h0 | ⟨b', o', hh, hc⟩
    · omega
    · cases hh
      refine .inr ⟨_, _, rfl, fun t ht => ?_⟩
      have h4 : ((l.drop i).take k).getD t 0 = l.getD (i + t) 0 := by simp [List.getD_eq_getElem?_getD, ht]
      rw [h4, Nat.add_assoc]
      exact hc (i + t) (by omega)

set_option maxHeartbeats 1000000 in
set_option maxRecDepth 100000 in
theorem getNum_any (a : Option Addr) (n c : Nat) (l : List Int) (w : World) (hA : BS w a n l) (hC : CP a n c) :
    Calls Try.prog 90 #[.slice a n c] w fun e w' => ((getNum l = none ∧ e = .returned (.tuple #[.int .u64 0, .int .i64 0, .int .i64 2])) ∨ ∃ (x : Int) (m : Nat), getNum l = some (x, m) ∧ e = .returned (.tuple #[.int .u64 x, .int .i64 (m : Int), .int .i64 0])) ∧ w' = w := by
  rcases l with _ | ⟨y, r⟩
  · have hn : n = 0 := by have := hA.1; simpa using this.symm
    subst hn
    go_enter Try.func90, Try.ntmps90
    go_wp2
    go_ret3
    exact ⟨.inl ⟨rfl, rfl⟩, rfl⟩
  · have HA := hide hA
    obtain ⟨b, o, rfl, q, hy0, hy1, hn⟩ := hA.cell0
    have hn0 : ((n : Int) == 0) = false := by simp; omega
    have hmax := hA.2.1
    unfold maxLen at hmax
    have hGN := hide (getNum_cons y r)
    obtain ⟨k, rfl⟩ := Int.eq_ofNat_of_zero_le hy0
    have hrl : r.length = n - 1 := by omega
    have Hrl := hide hrl
    have hnp : 0 < n := by omega
    clear hA hn hrl
    by_cases h8 : 8 < k
    · have h8' : (8 : Int) < k := by omega
      go_enter Try.func90, Try.ntmps90
      go_wp2
      go_ret3
      exact ⟨.inl ⟨by rw [hGN.out, if_pos (.inl h8')], rfl⟩, rfl⟩
    · by_cases hlen : n < 1 + k
      · have hlen' : (n : Int) < 1 + k := by omega
        go_enter Try.func90, Try.ntmps90
        go_wp2
        go_ret3
        exact ⟨.inl ⟨by rw [hGN.out, if_pos (.inr (.inl (by have := Hrl.out; simp; omega)))], rfl⟩, rfl⟩
      · have hlen' : ¬ (n : Int) < 1 + k := by omega
        have hcn := hC.1
        have hcm := hC.2.1
        unfold maxLen at hcm
        by_cases hc1 : c = 1
        · subst hc1
          have hn1 : n = 1 := by omega
          have hk0 : k = 0 := by omega
          subst hn1 hk0
          go_enter Try.func90, Try.ntmps90
          go_wp2_with fail
          refine (ahead_any _ 0 _ [] w (BS.nil _ _)).mono ?_
          rintro e w' ⟨rfl, rfl⟩
          go_wp2_with fail
          refine (value_any _ 0 _ [] w' (BS.nil _ _) (by omega)).mono ?_
          rintro e w' ⟨rfl, rfl⟩
          go_wp2
          go_ret3
          exact ⟨.inr ⟨0, 1, by have := List.eq_nil_of_length_eq_zero Hrl.out; subst this; decide, rfl⟩, rfl⟩
        · have hbs := hide (HA.out.at 1 k (by omega))
          have hdr : Hid ((((k : Int) :: r).drop 1).take k = r.take k) := rfl
          have hn8 : k ≤ 8 := by omega
          by_cases hz : nz (r.take k)
          · have hres : Hid (getNum ((k : Int) :: r) = some (val (r.take k), 1 + k)) := by
              refine hide ?_
              rw [hGN.out, if_neg]
              · simp; omega
              · rintro (h | h | h)
                · omega
                · have := Hrl.out; simp at h; omega
                · exact h (by simpa using hz)
            have hzd : (decide (¬ nz (r.take k))) = false := decide_eq_false (fun h => h hz)
            have Hzd := hide hzd
            clear hGN hzd hz
            go_enter Try.func90, Try.ntmps90
            go_wp2_with fail
            refine (ahead_any _ _ _ (r.take k) w hbs.out).mono ?_
            rintro e w' ⟨rfl, rfl⟩
            rw [Hzd.out]
            go_wp2_with fail
            refine (value_any _ _ _ (r.take k) w' hbs.out hn8).mono ?_
            rintro e w' ⟨rfl, rfl⟩
            go_wp2
            go_ret3
            exact ⟨.inr ⟨_, _, hres.out, by simp⟩, rfl⟩
          · have hres : Hid (getNum ((k : Int) :: r) = none) := by
              refine hide ?_
              rw [hGN.out, if_pos]
              exact .inr (.inr (by simpa using hz))
            have hzd : (decide (¬ nz (r.take k))) = true := decide_eq_true hz
            have Hzd := hide hzd
            clear hGN hzd hz
            go_enter Try.func90, Try.ntmps90
            go_wp2_with fail
            refine (ahead_any _ _ _ (r.take k) w hbs.out).mono ?_
            rintro e w' ⟨rfl, rfl⟩
            rw [Hzd.out]
            go_wp2
            go_ret3
            exact ⟨.inl ⟨hres.out, rfl⟩, rfl⟩
end Go.Proofs.Ytooggheoaglbeaa

/- What the document's 'GetNum' does. -/
namespace Go.Proofs.Ytooggheoaglbeaa
open Go.RowKit
set_option linter.unusedVariables false

theorem bytes_as (a b : Option Addr) (n c m d : Nat) (l k : List Int) (w : World) (r : Bool) (hr : decide (l = k) = r) (hA : BS w a n l) (hB : BS w b m k) :
    Calls Try.prog 18 #[.slice a n c, .slice b m d] w fun e w' => e = .returned (.bool r) ∧ Below w.heap.size w w' := by
  rw [← hr]; exact bytes_any a b n c m d l k w hA hB

theorem num_is (k : Nat) (r : List Int) (hk : k ≤ r.length) (h8 : k ≤ 8) (hr : By r) : decide (num (val (r.take k)) = ((k : Int) :: r).take (k + 1)) = decide (nz (r.take k)) := by
  have hl : (r.take k).length = k := by rw [List.length_take]; omega
  have := num_val_iff (r.take k) (hr.take k) (by omega)
  rw [hl] at this
  simp only [List.take_succ_cons]
  exact decide_eq_decide.2 this

set_option maxHeartbeats 4000000 in
set_option maxRecDepth 100000 in
theorem refGetNum_any (a : Option Addr) (n c : Nat) (l : List Int) (w : World) (hA : BS w a n l) (hC : CP a n c) :
    Calls Try.prog 72 #[.slice a n c] w fun e w' => ((getNum l = none ∧ e = .returned (.tuple #[.int .u64 0, .int .i64 0])) ∨ ∃ (x : Int) (m : Nat), getNum l = some (x, m) ∧ e = .returned (.tuple #[.int .u64 x, .int .i64 (m : Int)])) ∧ Below w.heap.size w w' := by
  rcases l with _ | ⟨y, r⟩
  · have hn : n = 0 := by have := hA.1; simpa using this.symm
    subst hn
    go_enter Try.func72, Try.ntmps72
    go_wp2
    go_ret2
    exact ⟨.inl ⟨rfl, rfl⟩, Below.refl _ _⟩
  · have HA := hide hA
    have HB : Hid (By r) := By.tail hA.2.2.1
    obtain ⟨b, o, rfl, q, hy0, hy1, hn⟩ := hA.cell0
    have hn0 : ((n : Int) == 0) = false := by simp; omega
    have hmax := hA.2.1
    unfold maxLen at hmax
    have hGN := hide (getNum_cons y r)
    obtain ⟨k, rfl⟩ := Int.eq_ofNat_of_zero_le hy0
    have hrl : r.length = n - 1 := by omega
    have Hrl := hide hrl
    have hnp : 0 < n := by omega
    clear hA hn hrl
    by_cases h8 : 8 < k
    · have h8' : (8 : Int) < k := by omega
      go_enter Try.func72, Try.ntmps72
      go_wp2
      go_ret2
      exact ⟨.inl ⟨by rw [hGN.out, if_pos (.inl h8')], rfl⟩, Below.refl _ _⟩
    · by_cases hlen : n < 1 + k
      · have hlen' : (n : Int) < k + 1 := by omega
        have h8' : decide ((8 : Int) < k) = false := by simp; omega
        go_enter Try.func72, Try.ntmps72
        go_wp2
        go_ret2
        exact ⟨.inl ⟨by rw [hGN.out, if_pos (.inr (.inl (by have := Hrl.out; simp; omega)))], rfl⟩, Below.refl _ _⟩
      · have hlen' : ¬ (n : Int) < k + 1 := by omega
        have h8' : decide ((8 : Int) < k) = false := by simp; omega
        have hcn := hC.1
        have hcm := hC.2.1
        unfold maxLen at hcm
        have hHead := hide (HA.out.head (k + 1) (by omega))
        go_enter Try.func72, Try.ntmps72
        go_wp2
        go_loop [5, 6] (fun u i => ∃ (j : Nat) (x : Int), 1 ≤ j ∧ j ≤ k + 1 ∧ i = .int .i64 j ∧ u = .int .u64 x ∧ 0 ≤ x ∧ x < 18446744073709551616 ∧ Hid (x = val (r.take (j - 1)))) (fun _ i => k + 1 - (intOf i).toNat)
        case atStart => exact ⟨1, 0, by omega, by omega, rfl, rfl, by omega, by omega, rfl⟩
        case round =>
          obtain ⟨j, x, hj1, hjk, rfl, rfl, hx0, hx1, hx⟩ := hrel
          by_cases hlt : j < k + 1
          · obtain ⟨i, rfl⟩ : ∃ i, j = i + 1 := ⟨j - 1, by omega⟩
            have hx : Hid (x = val (r.take i)) := hx
            have q2 : w.cell? ⟨b, o + (i + 1), none⟩ = some (.int .u8 (r.getD i 0)) := by
              rcases HA.out.2.2.2 with h0 | ⟨b', o', hh, hc⟩
              · omega
              · cases hh
                exact hc (i + 1) (by omega)
            have hb0 := (getD_byte HB.out i).1
            have hb1 := (getD_byte HB.out i).2
            have hv := hide (val_take r i (by rw [Hrl.out]; omega))
            have hx7 : x < 72057594037927936 := by
              have h1 := (val_bd (r.take i) (By.take HB.out i)).2
              rw [← hx.out, List.length_take, Hrl.out] at h1
              have h2 := pow7 (min i (n - 1)) (by omega)
              omega
            generalize r.getD i 0 = y at q2 hb0 hb1 hv
            have hltI : (i : Int) + 1 < (n : Int) := by omega
            go_wp2
            go_round
            case rel => exact ⟨i + 1 + 1, x * 256 + y, by omega, by omega, by go_num, rfl, by omega, by omega, by show _ = val (r.take (i + 1)); rw [hv.out, hx.out]⟩
            case measure => simp [intOf]; omega
          · have hjk2 : j = k + 1 := by omega
            subst hjk2
            have hx : Hid (x = val (r.take k)) := hx
            have hnis := hide (num_is k r (by rw [Hrl.out]; omega) (by omega) HB.out)
            rw [← hx.out] at hnis
            have hci : (k : Int) + 1 ≤ (c : Int) := by omega
            have hc0 : (0 : Int) ≤ (k : Int) + 1 := by omega
            by_cases hz : nz (r.take k)
            · have hres : Hid (getNum ((k : Int) :: r) = some (x, k + 1)) := by
                refine hide ?_
                rw [hGN.out, if_neg]
                · simp [hx.out]
                · rintro (h | h | h)
                  · omega
                  · have := Hrl.out; simp at h; omega
                  · exact h (by simpa using hz)
              have hd : decide (num x = ((k : Int) :: r).take (k + 1)) = true := by rw [hnis.out]; simpa using hz
              have Hd := hide hd
              clear hd hz hGN hnis
              go_wp2_with fail
              go_region_held3 (fun _ => True) (trivial) (first
                | (go_at_call 70; refine (refNum_any x _ hx0 hx1).mono ?_; rintro e w1 ⟨v, rfl, hown, hb⟩; obtain ⟨p, cap, rfl, hbs, hcp⟩ := hown.open (num_by x); have Hbs := hide hbs; have Hb := hide hb; clear hown hbs hb)
                | (go_at_call 18; refine (bytes_as _ _ _ _ _ _ (num x) (((k : Int) :: r).take (k + 1)) _ true Hd.out (by exact Hbs.out) (by exact hHead.out.drew.below Hb.out)).mono ?_; rintro e w2 ⟨rfl, hb2⟩))
              go_wp2
              go_ret2
              have z := Hb.out.size
              exact ⟨.inr ⟨_, _, hres.out, by simp⟩, ((Below.refl _ w).drew.trans Hb.out).trans (hb2.mono z)⟩
            · have hres : Hid (getNum ((k : Int) :: r) = none) := by
                refine hide ?_
                rw [hGN.out, if_pos]
                exact .inr (.inr (by simpa using hz))
              have hd : decide (num x = ((k : Int) :: r).take (k + 1)) = false := by rw [hnis.out]; simpa using hz
              have Hd := hide hd
              clear hd hz hGN hnis
              go_wp2_with fail
              go_region_held3 (fun _ => True) (trivial) (first
                | (go_at_call 70; refine (refNum_any x _ hx0 hx1).mono ?_; rintro e w1 ⟨v, rfl, hown, hb⟩; obtain ⟨p, cap, rfl, hbs, hcp⟩ := hown.open (num_by x); have Hbs := hide hbs; have Hb := hide hb; clear hown hbs hb)
                | (go_at_call 18; refine (bytes_as _ _ _ _ _ _ (num x) (((k : Int) :: r).take (k + 1)) _ false Hd.out (by exact Hbs.out) (by exact hHead.out.drew.below Hb.out)).mono ?_; rintro e w2 ⟨rfl, hb2⟩))
              go_wp2
              go_ret2
              have z := Hb.out.size
              exact ⟨.inl ⟨hres.out, rfl⟩, ((Below.refl _ w).drew.trans Hb.out).trans (hb2.mono z)⟩
end Go.Proofs.Ytooggheoaglbeaa

/- What 'Text', bytes.Clone and 'GetText' do, the program's and the document's. -/
namespace Go.Proofs.Ytooggheoaglbeaa
open Go.RowKit
set_option linter.unusedVariables false

theorem CP.cut {a : Option Addr} {n c : Nat} (h : CP a n c) (i k : Nat) (hk : k ≤ n) (hi : i ≤ k) : CP (slA a c i) (k - i) (c - i) := by
  obtain ⟨h1, h2, h3⟩ := h
  refine ⟨by omega, by omega, fun hn => ?_⟩
  unfold slA at hn
  split at hn
  · have := h3 hn; omega
  · rcases a with _ | x
    · have := h3 rfl; omega
    · simp at hn
theorem CP.head {a : Option Addr} {n c : Nat} (h : CP a n c) (k : Nat) (hk : k ≤ n) : CP a k c := ⟨Nat.le_trans hk h.1, h.2.1, h.2.2⟩

theorem q_nil (w : World) (a : Option Addr) (n c : Nat) : (binOp .eql 37 (.slice a n c) (.slice none 0 0)).run Try.prog w = .ok (.bool a.isNone) w := Lib.run_eql_slice_nil w _ _ a n c 0 0 Try.underlying37

set_option maxHeartbeats 1000000 in
set_option maxRecDepth 100000 in
theorem clone_any (a : Option Addr) (n c : Nat) (l : List Int) (w : World) (hA : BS w a n l) (hp : a = none → c = 0) (hbig : n ≤ 1000000) :
    Calls Try.prog 103 #[.slice a n c] w fun e w' => ∃ v, e = .returned v ∧ Own w.heap.size w' v l ∧ Below w.heap.size w w' := by
  have hl := hide hA.1
  have qn := q_nil
  rcases a with _ | x
  · have hc := hp rfl
    have hn0 : n = 0 := by
      rcases hA.2.2.2 with h0 | ⟨b, o, hh, _⟩
      · exact h0
      · cases hh
    subst hc hn0
    obtain rfl := List.eq_nil_of_length_eq_zero hl.out
    go_enter Try.func103, Try.ntmps103
    go_wp2
    go_ret
    exact ⟨_, rfl, ⟨rfl, .inl ⟨rfl, rfl⟩⟩, Below.refl _ _⟩
  · have HA := hide hA
    clear hA
    go_enter Try.func103, Try.ntmps103
    go_wp2_with (at_builtin; refine Stop.at ?_)
    unfold Stop
    refine append_bytes rfl _ _ rfl w.heap.size _ _ l rfl (Own.made w w.heap.size _ rfl (Nat.le_refl _)) _ n c rfl hp (HA.out.alloc _) (by rw [hl.out]; simp; omega) (by simp) ?_
    intro v w1 hown hgrow hbel
    have Hown := hide hown
    have Hbel := hide (hbel w ((Below.refl _ w).alloc (Nat.le_refl _) _))
    clear hown hgrow hbel
    go_wp2
    go_ret
    exact ⟨_, rfl, Hown.out, Hbel.out⟩

set_option maxHeartbeats 1000000 in
set_option maxRecDepth 100000 in
theorem text_any (a : Option Addr) (n c : Nat) (l : List Int) (w : World) (hA : BS w a n l) (hp : a = none → c = 0) (hbig : n ≤ 1000000) :
    Calls Try.prog 61 #[.slice a n c] w fun e w' => ∃ v, e = .returned v ∧ Own w.heap.size w' v (text l) ∧ Below w.heap.size w w' := by
  have hl := hide hA.1
  have HA := hide hA
  clear hA
  have hnb := num_len (n : Int)
  have hnb8 := nb_le (n : Int)
  go_enter Try.func61, Try.ntmps61
  go_wp2_with fail
  refine (num_any (n : Int) w (by omega) (by omega)).mono ?_
  rintro e w1 ⟨v, rfl, hown, hb⟩
  have Hown := hide hown
  have Hb := hide hb
  have hsz := hb.size
  clear hown hb
  go_wp2_with (at_builtin; refine Stop.at ?_)
  unfold Stop
  refine append_bytes rfl _ _ rfl w.heap.size _ _ l rfl Hown.out a n c rfl hp (HA.out.below Hb.out) (by rw [hl.out, hnb]; omega) hsz ?_
  intro v2 w2 hown2 hgrow hbel
  have Hown2 := hide hown2
  have Hbel := hide (hbel w Hb.out)
  clear hown2 hgrow hbel
  go_wp2
  go_ret
  refine ⟨_, rfl, ?_, Hbel.out⟩
  have := Hown2.out
  unfold text
  rw [hl.out]
  exact this

set_option maxHeartbeats 1000000 in
set_option maxRecDepth 100000 in
theorem refText_any (a : Option Addr) (n c : Nat) (l : List Int) (w : World) (hA : BS w a n l) (hp : a = none → c = 0) (hbig : n ≤ 1000000) :
    Calls Try.prog 71 #[.slice a n c] w fun e w' => ∃ v, e = .returned v ∧ Own w.heap.size w' v (text l) ∧ Below w.heap.size w w' := by
  have hl := hide hA.1
  have HA := hide hA
  clear hA
  have hnb := num_len (n : Int)
  have hnb8 := nb_le (n : Int)
  go_enter Try.func71, Try.ntmps71
  go_wp2_with fail
  refine (refNum_any (n : Int) w (by omega) (by omega)).mono ?_
  rintro e w1 ⟨v, rfl, hown, hb⟩
  have Hown := hide hown
  have Hb := hide hb
  have hsz := hb.size
  clear hown hb
  go_wp2_with (at_builtin; refine Stop.at ?_)
  unfold Stop
  refine append_bytes rfl _ _ rfl w.heap.size _ _ l rfl Hown.out a n c rfl hp (HA.out.below Hb.out) (by rw [hl.out, hnb]; omega) hsz ?_
  intro v2 w2 hown2 hgrow hbel
  have Hown2 := hide hown2
  have Hbel := hide (hbel w Hb.out)
  clear hown2 hgrow hbel
  go_wp2
  go_ret
  refine ⟨_, rfl, ?_, Hbel.out⟩
  have := Hown2.out
  unfold text
  rw [hl.out]
  exact this
end Go.Proofs.Ytooggheoaglbeaa

/- What 'GetText' does, the program's and the document's. -/
namespace Go.Proofs.Ytooggheoaglbeaa
open Go.RowKit
set_option linter.unusedVariables false

theorem getText_of {l : List Int} {u m : Nat} (h : getNum l = some ((u : Int), m)) : getText l = if 65536 < u ∨ l.length < m + u then none else some ((l.drop m).take u, m + u) := by
  unfold getText
  rw [h]
  simp only [Int.toNat_natCast]
  congr 1
  simp only [eq_iff_iff]
  omega
theorem take_drop' (l : List Int) (m u : Nat) : (l.take (m + u)).drop m = (l.drop m).take u := by
  rw [List.drop_take]; congr 1; omega

set_option maxHeartbeats 1000000 in
set_option maxRecDepth 100000 in
theorem getText_any (a : Option Addr) (n c : Nat) (l : List Int) (w : World) (hA : BS w a n l) (hC : CP a n c) :
    Calls Try.prog 91 #[.slice a n c] w fun e w' => ((getText l = none ∧ e = .returned (.tuple #[.slice none 0 0, .int .i64 0, .int .i64 2])) ∨ ∃ (t : List Int) (m : Nat) (v : Value), getText l = some (t, m) ∧ e = .returned (.tuple #[v, .int .i64 (m : Int), .int .i64 0]) ∧ Own w.heap.size w' v t) ∧ Below w.heap.size w w' := by
  have hmax := hA.2.1
  have hcm := hC.2.1
  have hcn := hC.1
  unfold maxLen at hmax hcm
  have HA := hide hA
  have HC := hide hC
  have hsl : ∀ i : Nat, (if c = i then a else Option.map (fun x => x.add i) a) = slA a c i := fun _ => rfl
  clear hA hC
  go_enter Try.func91, Try.ntmps91
  go_wp2_with fail
  refine (getNum_any a n c l w HA.out HC.out).mono ?_
  rintro e w1 ⟨(⟨hg, rfl⟩ | ⟨x, m, hg, rfl⟩), rfl⟩
  · have hres : Hid (getText l = none) := by unfold getText; rw [hg]; rfl
    clear hg
    go_wp2
    go_ret3
    exact ⟨.inl ⟨hres.out, rfl⟩, Below.refl _ _⟩
  · obtain ⟨g0, g1, g2, g3, g4, g5, g6⟩ := getNum_some HA.out.2.2.1 hg
    have Hg5 := hide (And.intro g5 g6)
    clear g5 g6
    obtain ⟨u, rfl⟩ := Int.eq_ofNat_of_zero_le g0
    have hres := hide (getText_of hg)
    have hlen := hide HA.out.1
    rw [hlen.out] at g4
    clear hg
    by_cases hu : 65536 < u
    · have hu' : (65536 : Int) < u := by omega
      go_wp2
      go_ret3
      exact ⟨.inl ⟨by rw [hres.out, if_pos (.inl hu)], rfl⟩, Below.refl _ _⟩
    · have hu' : decide ((65536 : Int) < u) = false := by simp; omega
      by_cases hn : n < m + u
      · have hn' : (n : Int) - m < u := by omega
        go_wp2
        go_ret3
        exact ⟨.inl ⟨by rw [hres.out, hlen.out, if_pos (.inr hn)], rfl⟩, Below.refl _ _⟩
      · have hn' : ¬ (n : Int) - m < u := by omega
        obtain ⟨k, hk⟩ : ∃ k : Nat, k = m + u := ⟨_, rfl⟩
        have hK : (m : Int) + (u : Int) = (k : Int) := by omega
        have hk1 : (m : Int) ≤ (k : Int) := by omega
        have hk2 : (k : Int) ≤ (c : Int) := by omega
        have Hk := hide hk
        have hcut := hide (HA.out.cut m k c (by omega) (by omega) hcn)
        have hcp := hide (HC.out.cut m k (by omega) (by omega))
        have hkm : Hid (k - m ≤ 1000000) := by show k - m ≤ 1000000; omega
        have i1 : (u : Int) ≤ 65536 := by omega
        have i2 : (m : Int) ≤ 9 := by omega
        have i3 : (n : Int) ≤ 9223372036854775807 := by omega
        have i4 := hide hcn
        have i5 := hide hn
        have i6 := hide hu
        clear hk g0 g1 g2 g3 g4 hu hn hmax hcm hcn
        go_wp2_with fail
        refine (clone_any _ _ _ _ w1 hcut.out hcp.out.2.2 hkm.out).mono ?_
        rintro e w2 ⟨v, rfl, hown, hb⟩
        have Hown := hide hown
        have Hb := hide hb
        clear hown hb
        go_wp2
        go_ret3
        refine ⟨.inr ⟨_, k, v, ?_, rfl, Hown.out⟩, Hb.out⟩
        rw [hres.out, hlen.out, if_neg (by have := i5.out; have := i6.out; omega), Hk.out, take_drop']

set_option maxHeartbeats 1000000 in
set_option maxRecDepth 100000 in
theorem refGetText_any (a : Option Addr) (n c : Nat) (l : List Int) (w : World) (hA : BS w a n l) (hC : CP a n c) :
    Calls Try.prog 73 #[.slice a n c] w fun e w' => ((getText l = none ∧ e = .returned (.tuple #[.slice none 0 0, .int .i64 0])) ∨ ∃ (t : List Int) (m : Nat) (v : Value), getText l = some (t, m) ∧ e = .returned (.tuple #[v, .int .i64 (m : Int)]) ∧ Own w.heap.size w' v t) ∧ Below w.heap.size w w' := by
  have hmax := hA.2.1
  have hcm := hC.2.1
  have hcn := hC.1
  unfold maxLen at hmax hcm
  have HA := hide hA
  have HC := hide hC
  have hsl : ∀ i : Nat, (if c = i then a else Option.map (fun x => x.add i) a) = slA a c i := fun _ => rfl
  clear hA hC
  go_enter Try.func73, Try.ntmps73
  go_wp2_with fail
  refine (refGetNum_any a n c l w HA.out HC.out).mono ?_
  rintro e w1 ⟨(⟨hg, rfl⟩ | ⟨x, m, hg, rfl⟩), hb⟩
  · have hres : Hid (getText l = none) := by unfold getText; rw [hg]; rfl
    have Hb := hide hb
    clear hg hb
    go_wp2
    go_ret2
    exact ⟨.inl ⟨hres.out, rfl⟩, Hb.out⟩
  · obtain ⟨g0, g1, g2, g3, g4, g5, g6⟩ := getNum_some HA.out.2.2.1 hg
    have Hg5 := hide (And.intro g5 g6)
    have Hb := hide hb
    have hsz := hb.size
    clear g5 g6 hb
    obtain ⟨u, rfl⟩ := Int.eq_ofNat_of_zero_le g0
    have hres := hide (getText_of hg)
    have hlen := hide HA.out.1
    rw [hlen.out] at g4
    have hm0 : ((m : Int) == 0) = false := by simp; omega
    clear hg
    by_cases hu : 65536 < u
    · have hu' : (65536 : Int) < u := by omega
      go_wp2
      go_ret2
      exact ⟨.inl ⟨by rw [hres.out, if_pos (.inl hu)], rfl⟩, Hb.out⟩
    · have hu' : decide ((65536 : Int) < u) = false := by simp; omega
      obtain ⟨k, hk⟩ : ∃ k : Nat, k = m + u := ⟨_, rfl⟩
      have hK : (m : Int) + (u : Int) = (k : Int) := by omega
      have Hk := hide hk
      by_cases hn : n < m + u
      · have hn' : (n : Int) < k := by omega
        clear hk
        go_wp2
        go_ret2
        exact ⟨.inl ⟨by rw [hres.out, hlen.out, if_pos (.inr hn)], rfl⟩, Hb.out⟩
      · have hn' : ¬ (n : Int) < k := by omega
        have hk1 : (m : Int) ≤ (k : Int) := by omega
        have hk2 : (k : Int) ≤ (c : Int) := by omega
        have hcut := hide (HA.out.cut m k c (by omega) (by omega) hcn)
        have hcp := hide (HC.out.cut m k (by omega) (by omega))
        have hkm : Hid (k - m ≤ 1000000) := by show k - m ≤ 1000000; omega
        have i1 : (u : Int) ≤ 65536 := by omega
        have i2 : (m : Int) ≤ 9 := by omega
        have i3 : (n : Int) ≤ 9223372036854775807 := by omega
        have i4 := hide hcn
        have i5 := hide hn
        have i6 := hide hu
        clear hk g0 g1 g2 g3 g4 hu hn hmax hcm hcn
        go_wp2_with (at_builtin; refine Stop.at ?_)
        unfold Stop
        refine append_bytes rfl _ _ rfl w.heap.size _ _ _ rfl (Own.made w1 w.heap.size _ rfl hsz) _ _ _ rfl hcp.out.2.2 ((hcut.out.below Hb.out).alloc _) (by have := hkm.out; rw [hcut.out.1]; simp; omega) (by simp; omega) ?_
        intro v w2 hown hgrow hbel
        have Hown := hide hown
        have Hbel := hide (hbel w (Hb.out.alloc hsz _))
        clear hown hgrow hbel
        go_wp2
        go_ret2
        refine ⟨.inr ⟨_, k, v, ?_, rfl, Hown.out⟩, Hbel.out⟩
        rw [hres.out, hlen.out, if_neg (by have := i5.out; have := i6.out; omega), Hk.out, take_drop']
        rfl
end Go.Proofs.Ytooggheoaglbeaa

/- What 'Pack' does, the program's and the document's; texts in memory. -/
namespace Go.Proofs.Ytooggheoaglbeaa
open Go.RowKit
set_option linter.unusedVariables false

/-- A slice of slices of bytes: the texts 'ps', each with its room. -/
def PC (w : World) (a : Option Addr) (n : Nat) (ps : List (List Int)) : Prop :=
  ps.length = n ∧ n ≤ maxLen ∧ (n = 0 ∨ ∃ b off, a = some ⟨b, off, none⟩ ∧ ∀ i, i < n → ∃ x len cap, w.cell? ⟨b, off + i, none⟩ = some (.slice x len cap) ∧ BS w x len (ps.getD i []) ∧ CP x len cap)
theorem PC.ext {w w' : World} {a : Option Addr} {n : Nat} {ps : List (List Int)} (h : PC w a n ps) (hx : Ext w w') : PC w' a n ps := by
  obtain ⟨h1, h2, h3⟩ := h
  refine ⟨h1, h2, ?_⟩
  rcases h3 with h0 | ⟨b, off, ha, hc⟩
  · exact .inl h0
  · refine .inr ⟨b, off, ha, fun i hi => ?_⟩
    obtain ⟨x, len, cap, q1, q2, q3⟩ := hc i hi
    exact ⟨x, len, cap, hx _ _ q1, q2.ext hx, q3⟩
theorem PC.below {w w' : World} {a : Option Addr} {n : Nat} {ps : List (List Int)} (h : PC w a n ps) (hb : Below w.heap.size w w') : PC w' a n ps := h.ext ((Ext.refl w).below hb)
theorem PC.drew {w : World} {a : Option Addr} {n : Nat} {ps : List (List Int)} (h : PC w a n ps) : PC w.drew a n ps := h
theorem PC.alloc {w : World} {a : Option Addr} {n : Nat} {ps : List (List Int)} (h : PC w a n ps) (o : Obj) : PC (w.alloc o) a n ps := h.ext ((Ext.refl w).alloc o)
theorem PC.at {w : World} {a : Option Addr} {n : Nat} {ps : List (List Int)} (h : PC w a n ps) (i : Nat) (hi : i < n) : ∃ b off x len cap, a = some ⟨b, off, none⟩ ∧ w.cell? ⟨b, off + i, none⟩ = some (.slice x len cap) ∧ BS w x len (ps.getD i []) ∧ CP x len cap := by
  rcases h.2.2 with h0 | ⟨b, off, rfl, hc⟩
  · omega
  · obtain ⟨x, len, cap, q⟩ := hc i hi
    exact ⟨b, off, x, len, cap, rfl, q⟩
theorem getD_mem {ps : List (List Int)} {i : Nat} (h : i < ps.length) : ps.getD i [] ∈ ps := by
  have : ps.getD i [] = ps[i] := by simp [List.getD_eq_getElem?_getD, h]
  rw [this]; exact List.getElem_mem h
theorem PC.by {w : World} {a : Option Addr} {n : Nat} {ps : List (List Int)} (h : PC w a n ps) : ∀ p ∈ ps, By p := by
  intro p hp
  obtain ⟨i, hi, rfl⟩ := List.getElem_of_mem hp
  obtain ⟨b, off, x, len, cap, _, _, hb, _⟩ := h.at i (by rw [← h.1]; exact hi)
  have : ps.getD i [] = ps[i] := by simp [List.getD_eq_getElem?_getD, hi]
  rw [← this]
  exact hb.2.2.1
theorem drop_flat (ps : List (List Int)) (k : Nat) (h : k < ps.length) : (ps.drop k).flatMap text = text (ps.getD k []) ++ (ps.drop (k + 1)).flatMap text := by
  rw [List.drop_eq_getElem_cons h, List.flatMap_cons]
  simp [List.getD_eq_getElem?_getD, h]
theorem text_len (t : List Int) : (text t).length ≤ t.length + 9 := by
  unfold text
  rw [List.length_append, num_len]
  have := nb_le t.length
  omega

set_option maxHeartbeats 1000000 in
set_option maxRecDepth 100000 in
theorem pack_any (a : Option Addr) (n c : Nat) (ps : List (List Int)) (w : World) (hA : PC w a n ps) (hn : n ≤ 1000) (hps : ∀ p ∈ ps, p.length ≤ 100000) :
    Calls Try.prog 31 #[.slice a n c] w fun e w' => ∃ v, e = .returned v ∧ Own w.heap.size w' v (pack ps) ∧ Below w.heap.size w w' := by
  have hl := hide hA.1
  have HA := hide hA
  have Hps := hide hps
  clear hA hps
  have hnb := num_len (n : Int)
  have hnb8 := nb_le (n : Int)
  have hnI : (n : Int) ≤ 1000 := by omega
  have Hn := hide hn
  have Hnb := hide hnb
  clear hn hnb
  go_enter Try.func31, Try.ntmps31
  go_wp2_with fail
  refine (num_any (n : Int) w (by omega) (by omega)).mono ?_
  rintro e w1 ⟨v, rfl, hown, hb⟩
  have Hown := hide hown
  have Hb := hide hb
  clear hown hb
  go_wp2
  go_loopw [3, 12] (fun v i wr => ∃ (k : Nat) (acc : List Int), k ≤ n ∧ i = .int .i64 k ∧ Hid (acc ++ (ps.drop k).flatMap text = pack ps) ∧ Hid (acc.length ≤ 9 + k * 100009) ∧ Hid (Own w.heap.size wr v acc) ∧ Hid (Below w.heap.size w wr)) (fun _ i _ => n - (intOf i).toNat)
  case atStart => exact ⟨0, num n, by omega, rfl, by unfold pack; rw [hl.out]; rfl, by have := Hnb.out; show _ ≤ _; omega, Hown.out, Hb.out⟩
  case round =>
    obtain ⟨k, acc, hk, rfl, hacc, hal, hown, hbel⟩ := hrel
    have hsz := hbel.out.size
    by_cases hlt : k < n
    · have hkl : k < ps.length := by rw [hl.out]; exact hlt
      obtain ⟨b, off, x, len, cap, rfl, q, hbs, hcp⟩ := (HA.out.below hbel.out).at k hlt
      have Hbs := hide hbs
      have Hcp := hide hcp
      have hp := hide (Hps.out _ (getD_mem hkl))
      have hlen : Hid (len ≤ 100000) := by have := hbs.1; have := hp.out; show _ ≤ _; omega
      have hdf := hide (drop_flat ps k hkl)
      clear hbs hcp hkl
      have hltI : (k : Int) < (n : Int) := by omega
      go_wp2_with fail
      refine (text_any _ _ _ _ wr Hbs.out Hcp.out.2.2 (by have := hlen.out; omega)).mono ?_
      rintro e w2 ⟨v2, rfl, hown2, hb2⟩
      obtain ⟨p2, cap2, rfl, hbs2, hcp2⟩ := hown2.open (text_by Hbs.out.2.2.1)
      have Hbs2 := hide hbs2
      have Hcp2 := hide hcp2
      have Hb2 := hide hb2
      have Hown2 := hide (hown.out.below hb2)
      have hsz2 := hb2.size
      have hbel2 := hide (hbel.out.trans (hb2.mono hsz))
      clear hown2 hbs2 hcp2 hb2 hown hbel
      go_wp2_with (at_builtin; refine Stop.at ?_)
      unfold Stop
      have htl := hide (text_len (ps.getD k []))
      refine append_bytes rfl _ _ rfl w.heap.size _ _ _ rfl Hown2.out p2 _ cap2 rfl Hcp2.out.2.2 Hbs2.out (by have := hal.out; have := htl.out; have := hp.out; have := Hn.out; omega) (by omega) ?_
      intro v3 w3 hown3 hgrow hbel3
      have Hown3 := hide hown3
      have Hbel3 := hide (hbel3 w hbel2.out)
      have hacc2 : Hid ((acc ++ text (ps.getD k [])) ++ (ps.drop (k + 1)).flatMap text = pack ps) := by rw [← hacc.out, hdf.out, List.append_assoc]; rfl
      have hal2 : Hid ((acc ++ text (ps.getD k [])).length ≤ 9 + (k + 1) * 100009) := by
        have := hal.out; have := htl.out; have := hp.out
        show _ ≤ _
        rw [List.length_append]; omega
      clear hown3 hgrow hbel3 hacc hal htl
      go_wp2
      go_roundw
      case rel => exact ⟨k + 1, _, by omega, by go_num, hacc2, hal2, Hown3, Hbel3⟩
      case measure => simp [intOf]; omega
    · have hkl : k = n := by omega
      subst hkl
      have hE : Hid (acc = pack ps) := by have h2 := hacc.out; rw [List.drop_of_length_le (by rw [hl.out]; exact Nat.le_refl _)] at h2; refine hide ?_; simpa using h2
      have hown2 : Hid (Own w.heap.size wr u3 (pack ps)) := by rw [← hE.out]; exact hown
      clear hown
      go_wp2
      go_ret
      exact ⟨_, rfl, hown2.out, hbel.out⟩

set_option maxHeartbeats 1000000 in
set_option maxRecDepth 100000 in
theorem refPack_any (a : Option Addr) (n c : Nat) (ps : List (List Int)) (w : World) (hA : PC w a n ps) (hn : n ≤ 1000) (hps : ∀ p ∈ ps, p.length ≤ 100000) :
    Calls Try.prog 47 #[.slice a n c] w fun e w' => ∃ v, e = .returned v ∧ Own w.heap.size w' v (pack ps) ∧ Below w.heap.size w w' := by
  have hl := hide hA.1
  have HA := hide hA
  have Hps := hide hps
  clear hA hps
  have hnb := num_len (n : Int)
  have hnb8 := nb_le (n : Int)
  have hnI : (n : Int) ≤ 1000 := by omega
  have Hn := hide hn
  have Hnb := hide hnb
  clear hn hnb
  go_enter Try.func47, Try.ntmps47
  go_wp2_with fail
  refine (refNum_any (n : Int) w (by omega) (by omega)).mono ?_
  rintro e w1 ⟨v, rfl, hown, hb⟩
  have Hown := hide hown
  have Hb := hide hb
  clear hown hb
  go_wp2
  go_loopw [3, 4] (fun v i wr => ∃ (k : Nat) (acc : List Int), k ≤ n ∧ i = .int .i64 k ∧ Hid (acc ++ (ps.drop k).flatMap text = pack ps) ∧ Hid (acc.length ≤ 9 + k * 100009) ∧ Hid (Own w.heap.size wr v acc) ∧ Hid (Below w.heap.size w wr)) (fun _ i _ => n - (intOf i).toNat)
  case atStart => exact ⟨0, num n, by omega, rfl, by unfold pack; rw [hl.out]; rfl, by have := Hnb.out; show _ ≤ _; omega, Hown.out, Hb.out⟩
  case round =>
    obtain ⟨k, acc, hk, rfl, hacc, hal, hown, hbel⟩ := hrel
    have hsz := hbel.out.size
    by_cases hlt : k < n
    · have hkl : k < ps.length := by rw [hl.out]; exact hlt
      obtain ⟨b, off, x, len, cap, rfl, q, hbs, hcp⟩ := (HA.out.below hbel.out).at k hlt
      have Hbs := hide hbs
      have Hcp := hide hcp
      have hp := hide (Hps.out _ (getD_mem hkl))
      have hlen : Hid (len ≤ 100000) := by have := hbs.1; have := hp.out; show _ ≤ _; omega
      have hdf := hide (drop_flat ps k hkl)
      clear hbs hcp hkl
      have hltI : (k : Int) < (n : Int) := by omega
      go_wp2_with fail
      refine (refText_any _ _ _ _ wr Hbs.out Hcp.out.2.2 (by have := hlen.out; omega)).mono ?_
      rintro e w2 ⟨v2, rfl, hown2, hb2⟩
      obtain ⟨p2, cap2, rfl, hbs2, hcp2⟩ := hown2.open (text_by Hbs.out.2.2.1)
      have Hbs2 := hide hbs2
      have Hcp2 := hide hcp2
      have Hb2 := hide hb2
      have Hown2 := hide (hown.out.below hb2)
      have hsz2 := hb2.size
      have hbel2 := hide (hbel.out.trans (hb2.mono hsz))
      clear hown2 hbs2 hcp2 hb2 hown hbel
      go_wp2_with (at_builtin; refine Stop.at ?_)
      unfold Stop
      have htl := hide (text_len (ps.getD k []))
      refine append_bytes rfl _ _ rfl w.heap.size _ _ _ rfl Hown2.out p2 _ cap2 rfl Hcp2.out.2.2 Hbs2.out (by have := hal.out; have := htl.out; have := hp.out; have := Hn.out; omega) (by omega) ?_
      intro v3 w3 hown3 hgrow hbel3
      have Hown3 := hide hown3
      have Hbel3 := hide (hbel3 w hbel2.out)
      have hacc2 : Hid ((acc ++ text (ps.getD k [])) ++ (ps.drop (k + 1)).flatMap text = pack ps) := by rw [← hacc.out, hdf.out, List.append_assoc]; rfl
      have hal2 : Hid ((acc ++ text (ps.getD k [])).length ≤ 9 + (k + 1) * 100009) := by
        have := hal.out; have := htl.out; have := hp.out
        show _ ≤ _
        rw [List.length_append]; omega
      clear hown3 hgrow hbel3 hacc hal htl
      go_wp2
      go_roundw
      case rel => exact ⟨k + 1, _, by omega, by go_num, hacc2, hal2, Hown3, Hbel3⟩
      case measure => simp [intOf]; omega
    · have hkl : k = n := by omega
      subst hkl
      have hE : Hid (acc = pack ps) := by have h2 := hacc.out; rw [List.drop_of_length_le (by rw [hl.out]; exact Nat.le_refl _)] at h2; refine hide ?_; simpa using h2
      have hown2 : Hid (Own w.heap.size wr u3 (pack ps)) := by rw [← hE.out]; exact hown
      clear hown
      go_wp2
      go_ret
      exact ⟨_, rfl, hown2.out, hbel.out⟩
end Go.Proofs.Ytooggheoaglbeaa

/- What the document's 'Packs' does: are lists of texts the same? -/
namespace Go.Proofs.Ytooggheoaglbeaa
open Go.RowKit
set_option linter.unusedVariables false

theorem take_eqP {l m : List (List Int)} (k : Nat) (hl : k < l.length) (hm : k < m.length) (h : l.take k = m.take k) (he : l.getD k [] = m.getD k []) : l.take (k + 1) = m.take (k + 1) := by
  rw [List.take_succ_eq_append_getElem hl, List.take_succ_eq_append_getElem hm, h]
  simp [List.getD_eq_getElem?_getD, hl, hm] at he
  rw [he]

end Go.Proofs.Ytooggheoaglbeaa

/- Texts in memory that the call has made ('OwnP'), and 'append' of one text as one law. -/
namespace Go.Proofs.Ytooggheoaglbeaa
open Go.RowKit
set_option linter.unusedVariables false

/-- A slice value whose texts lie in blocks of the call's own. -/
def OwnP (N : Nat) (w : World) (v : Value) (qs : List (Value × List Int)) : Prop := w.ownsRow N 37 1 v qs.length (qs.map (·.1)) ∧ ∀ q ∈ qs, Own N w q.1 q.2 ∧ By q.2

theorem ownsRow_below {N : Nat} {e : TypeId} {w w' : World} {v : Value} {n : Nat} {xs : List Value} (h : w.ownsRow N e 1 v n xs) (hb : Below w.heap.size w w') : w'.ownsRow N e 1 v n xs := by
  refine ⟨h.1, ?_⟩
  rcases h.2 with hn | ⟨g, cap, cur, rfl, hb', hgg, rest⟩
  · exact .inl hn
  · refine .inr ⟨g, cap, cur, rfl, hb', ?_, rest⟩
    rw [hb.block g (Array.getElem?_eq_some_iff.1 hgg).1]
    exact hgg
theorem OwnP.below {N : Nat} {w w' : World} {v : Value} {qs : List (Value × List Int)} (h : OwnP N w v qs) (hb : Below w.heap.size w w') : OwnP N w' v qs :=
  ⟨ownsRow_below h.1 hb, fun q hq => ⟨(h.2 q hq).1.below hb, (h.2 q hq).2⟩⟩
theorem OwnP.alloc {N : Nat} {w : World} {v : Value} {qs : List (Value × List Int)} (h : OwnP N w v qs) (o : Obj) : OwnP N (w.alloc o) v qs :=
  ⟨World.ownsRow.alloc h.1 o, fun q hq => ⟨(h.2 q hq).1.alloc o, (h.2 q hq).2⟩⟩
theorem OwnP.nil (N : Nat) (w : World) : OwnP N w (.slice none 0 0) [] := ⟨⟨rfl, .inl ⟨rfl, rfl⟩⟩, fun q hq => by cases hq⟩
theorem OwnP.made (w : World) (N g : Nat) (hg : g = w.heap.size) (hN : N ≤ w.heap.size) : OwnP N (w.alloc (.cells #[] 37)) (.slice (some ⟨g, 0, none⟩) 0 0) [] := by
  subst hg; exact ⟨World.ownsRow_made w #[] 0 hN (by decide) rfl, fun q hq => by cases hq⟩
theorem apart_of {N M : Nat} {e f : TypeId} (hef : e ≠ f) {w : World} {v u : Value} {n m : Nat} {xs ys : List Value} (h : w.ownsRow N e 1 v n xs) (k : w.ownsRow M f 1 u m ys) : u.ownBlock = none ∨ u.ownBlock ≠ v.ownBlock := by
  rcases k.2 with ⟨rfl, _⟩ | ⟨g, cap, cur, rfl, _, hg, _⟩
  · exact .inl rfl
  · right
    rcases h.2 with ⟨rfl, _⟩ | ⟨g', cap', cur', rfl, _, hg', _⟩
    · intro hh; simp [Value.ownBlock] at hh
    · intro hh
      simp [Value.ownBlock] at hh
      subst hh
      rw [hg] at hg'
      simp at hg'
      exact hef hg'.2.symm
theorem OwnP.open {N : Nat} {w : World} {v : Value} {qs : List (Value × List Int)} (h : OwnP N w v qs) : ∃ p cap, v = .slice p qs.length cap ∧ PC w p qs.length (qs.map (·.2)) ∧ CP p qs.length cap := by
  have h0 := h.1
  obtain ⟨_, h2⟩ := h.1
  rcases h2 with ⟨rfl, h2⟩ | ⟨g, cap, cur, rfl, hb, hg, hc1, hc2, hs, ht⟩
  · exact ⟨none, 0, by rw [h2], ⟨by simp, by rw [h2]; decide, .inl h2⟩, by omega, by decide, fun _ => rfl⟩
  · refine ⟨some ⟨g, 0, none⟩, cap, rfl, ⟨by simp, by omega, .inr ⟨g, 0, rfl, fun i hi => ?_⟩⟩, hc1, hc2, fun h => by cases h⟩
    obtain ⟨o1, o2⟩ := h.2 qs[i] (List.getElem_mem hi)
    obtain ⟨p, c, hv, hbs, hcp⟩ := o1.open o2
    refine ⟨p, _, c, ?_, ?_, hcp⟩
    · rw [Nat.zero_add, World.ownsRow.cellAt h0 i (by omega), ← hv]
      simp [hi]
    · have : (qs.map (·.2)).getD i [] = qs[i].2 := by simp [List.getD_eq_getElem?_getD, hi]
      rw [this]; exact hbs

theorem Try.infoTx : (Try.prog.info? 37).map (fun i => (i.zero, i.size, i.bytes)) = some (some (.slice none 0 0), 1, 24) := by kernel_rfl

/-- 'append(v, t)', 'v' texts of the call's own, 't' one more. -/
theorem append_text {w : World} {ops : Array Oper} {rest : List Oper} {o : Oper} {a : Act} {Q : Exit → Act → World → Prop} (hgd : o.guard = none) (s x : Operand)
    (ho : o.op = .call { callee := .builtin .append, args := #[s, x], argTypes := #[58, 58] })
    (N : Nat) (v : Value) (qs : List (Value × List Int)) (u : Value) (t : List Int) (g : Nat) (hg : g = w.heap.size) (hs : a.eval s = v) (hown : OwnP N w v qs) (hu : Own N w u t) (ht : By t) (hx : a.eval x = .slice (some ⟨g, 0, none⟩) 1 1)
    (hbig : qs.length ≤ 1000000) (hN : N ≤ w.heap.size)
    (h : ∀ v' w', OwnP N w' v' (qs ++ [(u, t)]) → (∀ w0, Below N w0 w → Below N w0 w') → wpList Try.prog ops Q rest (a.put o.dst v') w') : wpList Try.prog ops Q (o :: rest) a (w.alloc (.cells #[u] 37)) := by
  subst hg
  obtain ⟨i0, hi, hz0, hz1, hz2⟩ := info_parts Try.infoTx
  obtain ⟨hr, he⟩ := hown
  have hone : u.oneCell' = true := by
    rcases hu.2 with ⟨rfl, _⟩ | ⟨_, _, _, rfl, _⟩ <;> rfl
  refine wpList_append_own (w.alloc (.cells #[u] 37)) hgd s x 58 ho N 37 i0 (.slice none 0 0) 1 24 Try.underlying58 hi hz0 hz1 hz2 rfl (by decide) v _ _ hs (World.ownsRow.alloc hr _) ⟨w.heap.size, 0, none⟩ 1 1 [u] hx rfl ?_ ?_ (by unfold maxLen; omega) (by omega) (by simp; omega) ?_
  · intro j u' hj
    match j, hj with
    | 0, hj => simp at hj; subst hj; simp [Addr.add]
  · intro u' hu'; simp at hu'; subst hu'; exact hone
  · intro v' w' h1 h2 _
    refine h v' w' ⟨by simpa using h1, fun q hq => ?_⟩ (fun w0 hb => (hb.alloc hN _).grown h2 (by simp; omega) (fun j hj => (World.ownsRow.lt hr j hj).1))
    have hq' : Own N w q.1 q.2 ∧ By q.2 := by
      rcases List.mem_append.1 hq with hq | hq
      · exact he q hq
      · simp at hq; subst hq; exact ⟨hu, ht⟩
    refine ⟨World.ownsRow.kept (World.ownsRow.alloc hq'.1 _) h2 ?_, hq'.2⟩
    exact apart_of (by decide) hr hq'.1
end Go.Proofs.Ytooggheoaglbeaa

