/- What is said of memory and of numbers, gathered (Math, Base, Of, Cut, WMath, WOwn, CMath, CNum, CCheck, CArr, CFun, CJoinAll, CLaw, DMath, DMem, DFun1, DOrd, DFun6, DFun8, DPut, DAddR, DVar, DOne, WNum, WGet, WRefGet, WText, WUnpack, EMem, EEvt, EGet1, EGet2, EGet3, EClo, EFun4, EOpen, EOrd2, ERef2, ERef3, Lay, SSort, SOrd, SRef2, Turn, WOpen, WHeld, WGetRec). -/
import Derived.Laws.Bits64
import Derived.Test.YtadmibfnjhockaaDoorRows
import Derived.WalkKit
import Derived.WalkSpells
import Derived.WalkLawsBesides
import Derived.Handy
import Derived.Lib.SlBytesConst
import Derived.Laws.AppendOwnNone
import Derived.Laws.BytesArg
import Derived.Deep.RegionHeld3
import Derived.Laws.CopyOwn
import Derived.Laws.Rows
import Derived.Deep.WholeRow
import Derived.SizedLaws
import Derived.OpenShut
import Derived.ProofKit
import Derived.Sort.Grow
import Derived.Deep.Draws
import Derived.Lib.SlicesCompact
import Derived.Lib.SliceRun
import Derived.ArgAppend
import Derived.Deep.RegionWith
import Derived.Lib.ConvBytes
import Derived.Deep.SlicePairs
import Derived.Lib.SmallJoins
import Derived.Deep.Matrix
namespace Go.Proofs.YtadmibfnjhockaaDoor
def stp (r b : Int) : Int := if (r / 2147483648 != b) = true then bits .xor .u32 (r * 2 % 4294967296) 79764919 else r * 2 % 4294967296
def fd : Nat → Int → Int → Int
  | 0, r, _ => r
  | k + 1, r, o => fd k (stp r (o / 128)) (o * 2 % 256)
def feed (r o : Int) : Int := fd 8 r o
def cpl (r : Int) : Int := bits .xor .u32 IntKind.u32.max r
def on (s : Int) (l : List Int) : Int := cpl (l.foldl feed (cpl s))
def of (ps : List (List Int)) : Int := ps.foldl on 0
end Go.Proofs.YtadmibfnjhockaaDoor

namespace Go.Proofs.YtadmibfnjhockaaDoor
open Go.RowKit
theorem hide {p : Prop} (h : p) : Hid p := h
theorem ret_int {k : IntKind} {a b : Int} (h : a = b) : Ending.returned (.int k a) = .returned (.int k b) := by rw [h]
/-- A slice value's bytes: 'l', each a byte; where there is one at all, they lie in one row of cells. -/
def BS (w : World) (a : Option Addr) (len : Nat) (l : List Int) : Prop :=
  l.length = len ∧ len ≤ maxLen ∧ (∀ n ∈ l, 0 ≤ n ∧ n < 256) ∧ (len = 0 ∨ ∃ b off, a = some ⟨b, off, none⟩ ∧ ∀ i, i < len → w.cell? ⟨b, off + i, none⟩ = some (.int .u8 (l.getD i 0)))
end Go.Proofs.YtadmibfnjhockaaDoor

namespace Go.Proofs.YtadmibfnjhockaaDoor
open Go.RowKit
/-- A slice of slices of bytes: the parts 'ps'. -/
def PS (w : World) (a : Option Addr) (n : Nat) (ps : List (List Int)) : Prop :=
  ps.length = n ∧ n ≤ maxLen ∧ (n = 0 ∨ ∃ b off, a = some ⟨b, off, none⟩ ∧ ∀ i, i < n → ∃ x len cap, w.cell? ⟨b, off + i, none⟩ = some (.slice x len cap) ∧ BS w x len (ps.getD i []))
/-- Every cell that could be read can be read still, and holds what it held. -/
def Ext (w w' : World) : Prop := ∀ p v, w.cell? p = some v → w'.cell? p = some v
theorem Ext.refl (w : World) : Ext w w := fun _ _ h => h
theorem Ext.trans {a b c : World} (h : Ext a b) (k : Ext b c) : Ext a c := fun p v hp => k p v (h p v hp)
theorem Ext.alloc {a w : World} (h : Ext a w) (o : Obj) : Ext a (w.alloc o) := fun p v hp => Lib.cell?_alloc_marked o (h p v hp)
theorem Ext.below {a w w' : World} (h : Ext a w) (hb : Below w.heap.size w w') : Ext a w' := fun p v hp => by
  have h1 := h p v hp
  have hlt : p.block < w.heap.size := by
    rcases Nat.lt_or_ge p.block w.heap.size with h' | h'
    · exact h'
    · simp [World.cell?, Array.getElem?_eq_none h'] at h1
  rw [hb.cell hlt]; exact h1
theorem BS.ext {w w' : World} {a : Option Addr} {len : Nat} {l : List Int} (h : BS w a len l) (hx : Ext w w') : BS w' a len l := by
  obtain ⟨h1, h2, h3, h4⟩ := h
  refine ⟨h1, h2, h3, ?_⟩
  rcases h4 with h0 | ⟨b, off, ha, hc⟩
  · exact .inl h0
  · exact .inr ⟨b, off, ha, fun i hi => hx _ _ (hc i hi)⟩
theorem BS.new (w : World) (g : Nat) (hg : g = w.heap.size) (l : List Int) (C : Array Value) (hC : C = (l.map (Value.int .u8)).toArray) (fr : Nat × Nat) (n : Nat) (hn : l.length = n) (hmax : n ≤ maxLen) (hby : ∀ x ∈ l, 0 ≤ x ∧ x < 256) :
    BS (w.alloc (.cells C 5 fr)) (some ⟨g, 0, none⟩) n l := by
  subst hg hC
  refine ⟨hn, hmax, hby, .inr ⟨_, 0, rfl, fun i hi => ?_⟩⟩
  rw [World.cell?_alloc_mark]
  subst hn
  simp [List.getD_eq_getElem?_getD, hi]
theorem PS.new (w : World) (g : Nat) (hg : g = w.heap.size) (qs : List (Option Addr × Nat × Nat × List Int)) (C : Array Value) (hC : C = (qs.map fun q => Value.slice q.1 q.2.1 q.2.2.1).toArray) (fr : Nat × Nat)
    (n : Nat) (hn : qs.length = n) (hmax : n ≤ maxLen) (ps : List (List Int)) (hps : ps = qs.map fun q => q.2.2.2) (hq : ∀ q ∈ qs, BS w q.1 q.2.1 q.2.2.2) :
    PS (w.alloc (.cells C 90 fr)) (some ⟨g, 0, none⟩) n ps := by
  subst hg hC hps
  refine ⟨by simpa using hn, hmax, .inr ⟨_, 0, rfl, fun i hi => ?_⟩⟩
  rw [World.cell?_alloc_mark]
  subst hn
  refine ⟨qs[i].1, qs[i].2.1, qs[i].2.2.1, by simp [hi], ?_⟩
  have := (hq qs[i] (List.getElem_mem hi)).ext ((Ext.refl w).alloc (.cells (qs.map fun q => Value.slice q.1 q.2.1 q.2.2.1).toArray 90 fr))
  simpa [List.getD_eq_getElem?_getD, hi] using this
end Go.Proofs.YtadmibfnjhockaaDoor

namespace Go.Proofs.YtadmibfnjhockaaDoor
open Go.RowKit
theorem Ext.drew {a w : World} (h : Ext a w) : Ext a w.drew := fun p v hp => h p v hp
theorem PS.drew {w : World} {a : Option Addr} {n : Nat} {ps : List (List Int)} (h : PS w a n ps) : PS w.drew a n ps := h
theorem BS.drew {w : World} {a : Option Addr} {n : Nat} {l : List Int} (h : BS w a n l) : BS w.drew a n l := h
/-- What 'x[i:h]' leads to. -/
def slA (a : Option Addr) (cap i : Nat) : Option Addr := if cap = i then a else a.map (fun x => x.add i)
theorem BS.cut {w : World} {a : Option Addr} {len : Nat} {l : List Int} (hB : BS w a len l) (i h cap : Nat) (h1 : i ≤ h) (h2 : h ≤ len) (h3 : len ≤ cap) :
    BS w (slA a cap i) (h - i) ((l.take h).drop i) := by
  obtain ⟨g1, g2, g3, g4⟩ := hB
  refine ⟨by rw [List.length_drop, List.length_take]; omega, by omega, fun n hn => g3 n (List.mem_of_mem_take (List.mem_of_mem_drop hn)), ?_⟩
  rcases Nat.eq_zero_or_pos (h - i) with h0 | hp
  · exact .inl h0
  · rcases g4 with h0 | ⟨b, off, rfl, hc⟩
    · omega
    · refine .inr ⟨b, off + i, ?_, fun t ht => ?_⟩
      · unfold slA
        rw [if_neg (by omega)]
        by_cases hi : i = 0
        · subst hi; simp [Addr.add]
        · simp [Addr.add, hi]
      · have h4 : ((l.take h).drop i).getD t 0 = l.getD (i + t) 0 := by
          have h5 : i + t < h := by omega
          simp [List.getD_eq_getElem?_getD, h5]
        rw [h4, Nat.add_assoc]
        exact hc (i + t) (by omega)
theorem BS.head {w : World} {a : Option Addr} {len : Nat} {l : List Int} (hB : BS w a len l) (h : Nat) (h2 : h ≤ len) : BS w a h (l.take h) := by
  obtain ⟨g1, g2, g3, g4⟩ := hB
  refine ⟨by rw [List.length_take]; omega, by omega, fun n hn => g3 n (List.mem_of_mem_take hn), ?_⟩
  rcases Nat.eq_zero_or_pos h with h0 | hp
  · exact .inl h0
  · rcases g4 with h0 | ⟨b, off, rfl, hc⟩
    · omega
    · refine .inr ⟨b, off, rfl, fun t ht => ?_⟩
      have h4 : (l.take h).getD t 0 = l.getD t 0 := by simp [List.getD_eq_getElem?_getD, ht]
      rw [h4]
      exact hc t (by omega)
theorem PS.none (w : World) : PS w Option.none 0 [] := ⟨rfl, by decide, .inl rfl⟩
end Go.Proofs.YtadmibfnjhockaaDoor

namespace Go.Proofs.YtadmibfnjhockaaDoor
def By (l : List Int) : Prop := ∀ n ∈ l, 0 ≤ n ∧ n < 256
theorem By.nil : By [] := fun _ h => by cases h
theorem By.cons {a : Int} {l : List Int} (h0 : 0 ≤ a) (h1 : a < 256) (h : By l) : By (a :: l) := fun n hn => by
  rcases List.mem_cons.1 hn with rfl | hn
  · exact ⟨h0, h1⟩
  · exact h n hn
theorem By.append {l m : List Int} (h : By l) (k : By m) : By (l ++ m) := fun n hn => by
  rcases List.mem_append.1 hn with hn | hn
  · exact h n hn
  · exact k n hn
theorem By.take {l : List Int} (h : By l) (k : Nat) : By (l.take k) := fun n hn => h n (List.mem_of_mem_take hn)
theorem By.drop {l : List Int} (h : By l) (k : Nat) : By (l.drop k) := fun n hn => h n (List.mem_of_mem_drop hn)
theorem By.tail {a : Int} {l : List Int} (h : By (a :: l)) : By l := fun n hn => h n (List.mem_cons_of_mem _ hn)
theorem By.head {a : Int} {l : List Int} (h : By (a :: l)) : 0 ≤ a ∧ a < 256 := h a (List.mem_cons_self ..)
theorem By.flat {ps : List (List Int)} {f : List Int → List Int} (h : ∀ p ∈ ps, By (f p)) : By (ps.flatMap f) := fun n hn => by
  obtain ⟨p, hp, hn⟩ := List.mem_flatMap.1 hn
  exact h p hp n hn
/-- 'k' bytes of 'x', the highest first. -/
def be : Nat → Int → List Int
  | 0, _ => []
  | k + 1, x => (x / 256 ^ k % 256) :: be k x
end Go.Proofs.YtadmibfnjhockaaDoor

namespace Go.Proofs.YtadmibfnjhockaaDoor
open Go.RowKit
/-- A slice value whose bytes 'l' lie in a block of the call's own, at 'N' or above. -/
def Own (N : Nat) (w : World) (v : Value) (l : List Int) : Prop := w.ownsRow N 5 1 v l.length (l.map (Value.int .u8))
/-- What is known of a slice value's room. -/
def CP (p : Option Addr) (len cap : Nat) : Prop := len ≤ cap ∧ cap ≤ maxLen ∧ (p = none → cap = 0)
/-- To stop a walk at an operation: 'refine Stop.at ?_' in its arm; 'unfold Stop' behind it. -/
def Stop (p : Prop) : Prop := p
theorem Stop.at {p : Prop} (h : Stop p) : p := h
theorem Own.mono {N N' : Nat} {w : World} {v : Value} {l : List Int} (h : Own N w v l) (hN : N' ≤ N) : Own N' w v l := ⟨h.1, h.2.imp id fun ⟨g, cap, cur, h1, h2, h3⟩ => ⟨g, cap, cur, h1, Nat.le_trans hN h2, h3⟩⟩
theorem Own.alloc {N : Nat} {w : World} {v : Value} {l : List Int} (h : Own N w v l) (o : Obj) : Own N (w.alloc o) v l := World.ownsRow.alloc h o
theorem Own.drew {N : Nat} {w : World} {v : Value} {l : List Int} (h : Own N w v l) : Own N w.drew v l := World.ownsRow.drew h
theorem Own.below {N : Nat} {w w' : World} {v : Value} {l : List Int} (h : Own N w v l) (hb : Below w.heap.size w w') : Own N w' v l := by
  refine ⟨h.1, ?_⟩
  rcases h.2 with hn | ⟨g, cap, cur, rfl, hb', hgg, rest⟩
  · exact .inl hn
  · refine .inr ⟨g, cap, cur, rfl, hb', ?_, rest⟩
    rw [hb.block g (Array.getElem?_eq_some_iff.1 hgg).1]
    exact hgg
theorem Own.open {N : Nat} {w : World} {v : Value} {l : List Int} (h : Own N w v l) (hl : By l) : ∃ p cap, v = .slice p l.length cap ∧ BS w p l.length l ∧ CP p l.length cap := by
  have h0 := h
  obtain ⟨_, h2⟩ := h
  rcases h2 with ⟨rfl, h2⟩ | ⟨g, cap, cur, rfl, hb, hg, hc1, hc2, hs, ht⟩
  · exact ⟨none, 0, by rw [h2], ⟨rfl, by rw [h2]; decide, hl, .inl h2⟩, by omega, by decide, fun _ => rfl⟩
  · refine ⟨some ⟨g, 0, none⟩, cap, rfl, ⟨rfl, by omega, hl, .inr ⟨g, 0, rfl, fun i hi => ?_⟩⟩, hc1, hc2, fun h => by cases h⟩
    rw [Nat.zero_add, World.ownsRow.cellAt h0 i (by omega)]
    simp [List.getD_eq_getElem?_getD, hi]
theorem Own.made (w : World) (N g : Nat) (hg : g = w.heap.size) (hN : N ≤ w.heap.size) : Own N (w.alloc (.cells #[] 5)) (.slice (some ⟨g, 0, none⟩) 0 0) [] := by
  subst hg; exact World.ownsRow_made w #[] 0 hN (by decide) rfl
theorem Own.madeN (w : World) (N g : Nat) (hg : g = w.heap.size) (hN : N ≤ w.heap.size) (C : Array Value) (c : Nat) (hC : C.size = c) (hc : c ≤ maxLen) : Own N (w.alloc (.cells C 5)) (.slice (some ⟨g, 0, none⟩) 0 c) [] := by
  subst hg; exact World.ownsRow_made w C c hN hc (by omega)
theorem Own.lit (w : World) (N g : Nat) (hg : g = w.heap.size) (hN : N ≤ w.heap.size) (l : List Int) (C : Array Value) (hC : C = (l.map (Value.int .u8)).toArray) (n : Nat) (hn : n = l.length) (hl : l.length ≤ maxLen) :
    Own N (w.alloc (.cells C 5)) (.slice (some ⟨g, 0, none⟩) n n) l := by
  subst hn hC hg
  exact ⟨by simp, .inr ⟨w.heap.size, l.length, (l.map (Value.int .u8)).toArray, rfl, hN, heap_alloc_new w _, Nat.le_refl _, hl, by simp, by rw [List.take_of_length_le] <;> simp⟩⟩
theorem Own.one (w : World) (N g : Nat) (hg : g = w.heap.size) (hN : N ≤ w.heap.size) (x : Int) : Own N (w.alloc (.cells #[.int .u8 x] 5)) (.slice (some ⟨g, 0, none⟩) 1 1) [x] :=
  Own.lit w N g hg hN [x] _ rfl 1 rfl (by simp [maxLen])
theorem BS.below {w w' : World} {p : Option Addr} {len : Nat} {l : List Int} (h : BS w p len l) (hb : Below w.heap.size w w') : BS w' p len l := h.ext ((Ext.refl w).below hb)
theorem BS.alloc {w : World} {p : Option Addr} {len : Nat} {l : List Int} (h : BS w p len l) (o : Obj) : BS (w.alloc o) p len l := h.ext ((Ext.refl w).alloc o)
theorem BS.one (w : World) (g : Nat) (hg : g = w.heap.size) (x : Int) (h0 : 0 ≤ x) (h1 : x < 256) : BS (w.alloc (.cells #[.int .u8 x] 5)) (some ⟨g, 0, none⟩) 1 [x] :=
  BS.new w g hg [x] _ rfl _ 1 rfl (by decide) (By.cons h0 h1 By.nil)
theorem BS.nil (w : World) (p : Option Addr) : BS w p 0 [] := ⟨rfl, by decide, By.nil, .inl rfl⟩
theorem Tryd.infoU8 : (Tryd.prog.info? 5).map (fun i => (i.zero, i.size, i.bytes)) = some (some (.int .u8 0), 1, 1) := by kernel_rfl
/-- 'append(v, x...)', 'v' the call's own. -/
theorem append_bytes {w : World} {ops : Array Oper} {rest : List Oper} {o : Oper} {a : Act} {Q : Exit → Act → World → Prop} (hgd : o.guard = none) (s x : Operand)
    (ho : o.op = .call { callee := .builtin .append, args := #[s, x], argTypes := #[90, 90] })
    (N : Nat) (v : Value) (l m : List Int) (hs : a.eval s = v) (hown : Own N w v l) (p : Option Addr) (len cap : Nat) (hx : a.eval x = .slice p len cap) (hp : p = none → cap = 0) (hB : BS w p len m)
    (hbig : l.length + m.length ≤ 140737488355328) (hN : N ≤ w.heap.size)
    (h : ∀ v' w', Own N w' v' (l ++ m) → w.grownBy w' v.ownBlock → (∀ w0, Below N w0 w → Below N w0 w') → wpList Tryd.prog ops Q rest (a.put o.dst v') w') : wpList Tryd.prog ops Q (o :: rest) a w := by
  obtain ⟨i0, hi, hz0, hz1, hz2⟩ := info_parts Tryd.infoU8
  obtain ⟨g1, g2, g3, g4⟩ := hB
  rcases p with _ | ad
  · have hc := hp rfl
    have hl0 : len = 0 := by
      rcases g4 with h0 | ⟨b, off, hh, _⟩
      · exact h0
      · cases hh
    subst hc hl0
    obtain rfl : m = [] := List.eq_nil_of_length_eq_zero g1
    refine wpList_append_own_none hgd s x _ ho N 5 i0 1 Tryd.underlying90 hi v _ _ hs hown hx ?_
    refine h v w (by rw [List.append_nil]; exact hown) ⟨rfl, rfl, rfl, Nat.le_refl _, fun _ _ _ => rfl⟩ (fun _ h => h)
  · refine wpList_append_own w hgd s x 90 ho N 5 i0 (.int .u8 0) 1 1 Tryd.underlying90 hi hz0 hz1 hz2 rfl (by decide) v _ _ hs hown ad len cap (m.map (Value.int .u8)) hx (by simp [g1]) ?_ ?_ (by rw [← g1]; unfold maxLen; omega) (by rw [← g1]; omega) hN ?_
    · intro j u hj
      rw [List.getElem?_map, Option.map_eq_some_iff] at hj
      obtain ⟨y, hy, rfl⟩ := hj
      obtain ⟨hj1, hx2⟩ := List.getElem?_eq_some_iff.1 hy
      rcases g4 with h0 | ⟨b, off, hh, hc⟩
      · omega
      · cases hh
        have h1 := hc j (by omega)
        have h2 : m.getD j 0 = y := by simp [List.getD_eq_getElem?_getD, hy]
        rw [h2] at h1
        have h3 : (⟨b, off, none⟩ : Addr).add j = ⟨b, off + j, none⟩ := by
          by_cases hj0 : j = 0
          · subst hj0; simp [Addr.add]
          · simp [Addr.add, hj0]
        rw [h3]
        exact h1
    · intro u hu
      rw [List.mem_map] at hu
      obtain ⟨y, _, rfl⟩ := hu
      rfl
    · intro v' w' h1 h2 _
      refine h v' w' ?_ h2 (fun w0 hb => hb.grown h2 hN (fun j hj => (World.ownsRow.lt hown j hj).1))
      have e : l.length + len = (l ++ m).length := by rw [List.length_append, g1]
      rw [e, ← List.map_append] at h1
      exact h1
end Go.Proofs.YtadmibfnjhockaaDoor

namespace Go.Proofs.YtadmibfnjhockaaDoor
theorem vec_eq (x : List Int) (hx : x.length = 5) : [x.getD 0 0, x.getD 1 0, x.getD 2 0, x.getD 3 0, x.getD 4 0] = x := by
  match x, hx with
  | [a, b, c, d, e], _ => rfl
end Go.Proofs.YtadmibfnjhockaaDoor

namespace Go.Proofs.YtadmibfnjhockaaDoor
open Go.RowKit
set_option linter.unusedVariables false
/-- A slice value's numbers. -/
def NS (w : World) (a : Option Addr) (n : Nat) (l : List Int) : Prop :=
  l.length = n ∧ n ≤ maxLen ∧ (n = 0 ∨ ∃ b off, a = some ⟨b, off, none⟩ ∧ ∀ i, i < n → w.cell? ⟨b, off + i, none⟩ = some (.int .i64 (l.getD i 0)))
/-- A slice value whose numbers lie in a block of the call's own, at 'N' or above. -/
def OwnN (N : Nat) (w : World) (v : Value) (l : List Int) : Prop := w.ownsRow N 3 1 v l.length (l.map (Value.int .i64))
theorem NS.ext {w w' : World} {a : Option Addr} {n : Nat} {l : List Int} (h : NS w a n l) (hx : Ext w w') : NS w' a n l := by
  obtain ⟨h1, h2, h4⟩ := h
  refine ⟨h1, h2, ?_⟩
  rcases h4 with h0 | ⟨b, off, ha, hc⟩
  · exact .inl h0
  · exact .inr ⟨b, off, ha, fun i hi => hx _ _ (hc i hi)⟩
theorem NS.below {w w' : World} {p : Option Addr} {len : Nat} {l : List Int} (h : NS w p len l) (hb : Below w.heap.size w w') : NS w' p len l := h.ext ((Ext.refl w).below hb)
theorem NS.alloc {w : World} {p : Option Addr} {len : Nat} {l : List Int} (h : NS w p len l) (o : Obj) : NS (w.alloc o) p len l := h.ext ((Ext.refl w).alloc o)
theorem NS.drew {w : World} {a : Option Addr} {n : Nat} {l : List Int} (h : NS w a n l) : NS w.drew a n l := h
theorem NS.nil (w : World) (p : Option Addr) : NS w p 0 [] := ⟨rfl, by decide, .inl rfl⟩
theorem NS.new (w : World) (g : Nat) (hg : g = w.heap.size) (l : List Int) (C : Array Value) (hC : C = (l.map (Value.int .i64)).toArray) (t : TypeId) (fr : Nat × Nat) (n : Nat) (hn : l.length = n) (hmax : n ≤ maxLen) :
    NS (w.alloc (.cells C t fr)) (some ⟨g, 0, none⟩) n l := by
  subst hg hC
  refine ⟨hn, hmax, .inr ⟨_, 0, rfl, fun i hi => ?_⟩⟩
  rw [World.cell?_alloc_mark]
  subst hn
  simp [List.getD_eq_getElem?_getD, hi]
theorem NS.head {w : World} {a : Option Addr} {len : Nat} {l : List Int} (hB : NS w a len l) (h : Nat) (h2 : h ≤ len) : NS w a h (l.take h) := by
  obtain ⟨g1, g2, g4⟩ := hB
  refine ⟨by rw [List.length_take]; omega, by omega, ?_⟩
  rcases Nat.eq_zero_or_pos h with h0 | hp
  · exact .inl h0
  · rcases g4 with h0 | ⟨b, off, rfl, hc⟩
    · omega
    · refine .inr ⟨b, off, rfl, fun t ht => ?_⟩
      have h4 : (l.take h).getD t 0 = l.getD t 0 := by simp [List.getD_eq_getElem?_getD, ht]
      rw [h4]
      exact hc t (by omega)
theorem OwnN.mono {N N' : Nat} {w : World} {v : Value} {l : List Int} (h : OwnN N w v l) (hN : N' ≤ N) : OwnN N' w v l := ⟨h.1, h.2.imp id fun ⟨g, cap, cur, h1, h2, h3⟩ => ⟨g, cap, cur, h1, Nat.le_trans hN h2, h3⟩⟩
theorem OwnN.alloc {N : Nat} {w : World} {v : Value} {l : List Int} (h : OwnN N w v l) (o : Obj) : OwnN N (w.alloc o) v l := World.ownsRow.alloc h o
theorem OwnN.drew {N : Nat} {w : World} {v : Value} {l : List Int} (h : OwnN N w v l) : OwnN N w.drew v l := World.ownsRow.drew h
theorem OwnN.below {N : Nat} {w w' : World} {v : Value} {l : List Int} (h : OwnN N w v l) (hb : Below w.heap.size w w') : OwnN N w' v l := by
  refine ⟨h.1, ?_⟩
  rcases h.2 with hn | ⟨g, cap, cur, rfl, hb', hgg, rest⟩
  · exact .inl hn
  · refine .inr ⟨g, cap, cur, rfl, hb', ?_, rest⟩
    rw [hb.block g (Array.getElem?_eq_some_iff.1 hgg).1]
    exact hgg
theorem OwnN.nil (N : Nat) (w : World) : OwnN N w (.slice none 0 0) [] := ⟨rfl, .inl ⟨rfl, rfl⟩⟩
theorem OwnN.open {N : Nat} {w : World} {v : Value} {l : List Int} (h : OwnN N w v l) : ∃ p cap, v = .slice p l.length cap ∧ NS w p l.length l ∧ CP p l.length cap := by
  have h0 := h
  obtain ⟨_, h2⟩ := h
  rcases h2 with ⟨rfl, h2⟩ | ⟨g, cap, cur, rfl, hb, hg, hc1, hc2, hs, ht⟩
  · exact ⟨none, 0, by rw [h2], ⟨rfl, by rw [h2]; decide, .inl h2⟩, by omega, by decide, fun _ => rfl⟩
  · refine ⟨some ⟨g, 0, none⟩, cap, rfl, ⟨rfl, by omega, .inr ⟨g, 0, rfl, fun i hi => ?_⟩⟩, hc1, hc2, fun h => by cases h⟩
    rw [Nat.zero_add, World.ownsRow.cellAt h0 i (by omega)]
    simp [List.getD_eq_getElem?_getD, hi]
theorem OwnN.made (w : World) (N g : Nat) (hg : g = w.heap.size) (hN : N ≤ w.heap.size) : OwnN N (w.alloc (.cells #[] 3)) (.slice (some ⟨g, 0, none⟩) 0 0) [] := by
  subst hg; exact World.ownsRow_made w #[] 0 hN (by decide) rfl
theorem NS.one (w : World) (g : Nat) (hg : g = w.heap.size) (x : Int) : NS (w.alloc (.cells #[.int .i64 x] 3)) (some ⟨g, 0, none⟩) 1 [x] :=
  NS.new w g hg [x] _ rfl _ _ 1 rfl (by decide)
end Go.Proofs.YtadmibfnjhockaaDoor

namespace Go.Proofs.YtadmibfnjhockaaDoor
open Go.RowKit
set_option linter.unusedVariables false
theorem retB {a b : Bool} (h : a = b) : Ending.returned (.bool a) = .returned (.bool b) := by rw [h]
end Go.Proofs.YtadmibfnjhockaaDoor

namespace Go.Proofs.YtadmibfnjhockaaDoor
open Go.RowKit
set_option linter.unusedVariables false
theorem bel1 (w : World) (A : Obj) : Below w.heap.size w (w.alloc A) := (Below.refl _ _).alloc (Nat.le_refl _) _
theorem bel2 (w : World) (A B : Obj) : Below w.heap.size w ((w.alloc A).alloc B) := (bel1 w A).alloc (by simp) _
end Go.Proofs.YtadmibfnjhockaaDoor

namespace Go.Proofs.YtadmibfnjhockaaDoor
open Go.RowKit
set_option linter.unusedVariables false
theorem bel_next {w w1 w2 : World} (h1 : Below w.heap.size w w1) (h2 : Below w1.heap.size w1 w2) : Below w.heap.size w w2 := h1.trans (h2.mono h1.size)
end Go.Proofs.YtadmibfnjhockaaDoor

namespace Go.Proofs.YtadmibfnjhockaaDoor
open Go.RowKit
set_option linter.unusedVariables false
theorem set1 {W0 W : World} {B g : Nat} {cur : Array Value} {t : TypeId} (hg : W.heap[g]? = some (.cells cur t (0, 0))) (hb : Below B W0 W) (hB : B ≤ g) (i : Nat) (v : Value) :
    (W.setCell ⟨g, i, none⟩ v).heap[g]? = some (.cells (cur.setIfInBounds i v) t (0, 0)) ∧ Below B W0 (W.setCell ⟨g, i, none⟩ v) := by
  refine ⟨?_, hb.setCell hB _⟩
  simp [World.setCell, Array.getElem?_modify, hg]
end Go.Proofs.YtadmibfnjhockaaDoor

namespace Go.Proofs.YtadmibfnjhockaaDoor
open Go.RowKit Go.ChangeShapes Go.WideShapes
set_option linter.unusedVariables false
/-- A clock that came in. -/
def InN (w : World) (v : Value) : Prop := ∃ a len cap l, v = .slice a len cap ∧ NS w a len l ∧ CP a len cap
theorem ns_of_cells {w : World} {x : Addr} {len cap : Nat} {zs : List Int} (hl : len ≤ cap) (hm : cap ≤ maxLen) (hz : zs.length = cap) (hcell : ∀ i, i < cap → w.cell? (x.add i) = some (.int .i64 (zs.getD i 0))) :
    NS w (some x) len (zs.take len) := by
  refine ⟨by rw [List.length_take]; omega, by omega, ?_⟩
  rcases Nat.eq_zero_or_pos len with h0 | hp
  · exact .inl h0
  · obtain ⟨b, off, spot⟩ := x
    have hspot : spot = none := by simpa [Addr.add] using World.cell?_spot (hcell 0 (by omega))
    subst hspot
    refine .inr ⟨b, off, rfl, fun i hi => ?_⟩
    have h1 := hcell i (by omega)
    have h2 : (zs.take len).getD i 0 = zs.getD i 0 := by simp [List.getD_eq_getElem?_getD, hi]
    rw [h2]
    by_cases hi0 : i = 0
    · subst hi0; simpa [Addr.add] using h1
    · simpa [Addr.add, hi0] using h1
end Go.Proofs.YtadmibfnjhockaaDoor

namespace Go.Proofs.YtadmibfnjhockaaDoor
abbrev Dot := Int × Int
def mayD (d : Dot) : Bool := decide (1 ≤ d.1 ∧ d.1 ≤ 5 ∧ 1 ≤ d.2 ∧ d.2 ≤ 1048576)
def lessD (a b : Dot) : Bool := decide (a.1 < b.1 ∨ (a.1 = b.1 ∧ a.2 < b.2))
def SrtD (l : List Dot) : Prop := l.Pairwise (fun a b => lessD a b = true)
/-- Dots in order with one more. -/
def putD : List Dot → Dot → List Dot
  | [], d => [d]
  | x :: r, d => if lessD x d = true then x :: putD r d else if x = d then x :: r else d :: x :: r
/-- Dots in order, each once. -/
def ordD (l : List Dot) : List Dot := l.foldl putD []
theorem mayD_iff {d : Dot} : mayD d = true ↔ 1 ≤ d.1 ∧ d.1 ≤ 5 ∧ 1 ≤ d.2 ∧ d.2 ≤ 1048576 := by simp [mayD]
theorem lessD_iff {a b : Dot} : lessD a b = true ↔ a.1 < b.1 ∨ (a.1 = b.1 ∧ a.2 < b.2) := by simp [lessD]
theorem lessD_irr (a : Dot) : lessD a a = false := by simp [lessD]
theorem lessD_trans {a b c : Dot} (h : lessD a b = true) (k : lessD b c = true) : lessD a c = true := by
  rw [lessD_iff] at *; omega
theorem lessD_tri (a b : Dot) : lessD a b = true ∨ a = b ∨ lessD b a = true := by
  rw [lessD_iff, lessD_iff]
  obtain ⟨a1, a2⟩ := a
  obtain ⟨b1, b2⟩ := b
  simp only [Prod.mk.injEq]
  omega
theorem lessD_asym {a b : Dot} (h : lessD a b = true) : lessD b a = false := by
  rw [lessD_iff] at h
  simp [lessD]; omega
theorem mem_putD {x d : Dot} : ∀ {l : List Dot}, x ∈ putD l d ↔ x = d ∨ x ∈ l
  | [] => by simp [putD]
  | y :: r => by
    unfold putD
    split
    · simp only [List.mem_cons, mem_putD (l := r)]
      constructor
      · rintro (h | h | h)
        · exact .inr (.inl h)
        · exact .inl h
        · exact .inr (.inr h)
      · rintro (h | h | h)
        · exact .inr (.inl h)
        · exact .inl h
        · exact .inr (.inr h)
    · split
      · next h => subst h; simp
      · simp
theorem srt_putD {d : Dot} : ∀ {l : List Dot}, SrtD l → SrtD (putD l d)
  | [], _ => by simp [putD, SrtD]
  | y :: r, h => by
    unfold SrtD at h
    rw [List.pairwise_cons] at h
    obtain ⟨h1, h2⟩ := h
    unfold putD
    split
    · next hl =>
      unfold SrtD
      rw [List.pairwise_cons]
      refine ⟨fun a ha => ?_, srt_putD h2⟩
      rcases mem_putD.1 ha with rfl | ha
      · exact hl
      · exact h1 a ha
    · next hl =>
      split
      · exact List.pairwise_cons.2 ⟨h1, h2⟩
      · next hne =>
        have hd : lessD d y = true := by
          rcases lessD_tri y d with h | h | h
          · exact absurd h hl
          · exact absurd h hne
          · exact h
        refine List.pairwise_cons.2 ⟨fun a ha => ?_, List.pairwise_cons.2 ⟨h1, h2⟩⟩
        rcases List.mem_cons.1 ha with rfl | ha
        · exact hd
        · exact lessD_trans hd (h1 a ha)
theorem srt_ext : ∀ {l m : List Dot}, SrtD l → SrtD m → (∀ x, x ∈ l ↔ x ∈ m) → l = m
  | [], [], _, _, _ => rfl
  | [], y :: r, _, _, h => by have := (h y).2 (by simp); cases this
  | y :: r, [], _, _, h => by have := (h y).1 (by simp); cases this
  | x :: r, y :: s, h1, h2, h => by
    have k1 := List.pairwise_cons.1 h1
    have k2 := List.pairwise_cons.1 h2
    have e : x = y := by
      rcases lessD_tri x y with q | q | q
      · have := (h x).1 (by simp)
        rcases List.mem_cons.1 this with e | e
        · exact e
        · have := lessD_asym (k2.1 x e); rw [q] at this; cases this
      · exact q
      · have := (h y).2 (by simp)
        rcases List.mem_cons.1 this with e | e
        · exact e.symm
        · have := lessD_asym (k1.1 y e); rw [q] at this; cases this
    subst e
    rw [srt_ext k1.2 k2.2 (fun z => ?_)]
    constructor
    · intro hz
      rcases List.mem_cons.1 ((h z).1 (List.mem_cons_of_mem _ hz)) with e | e
      · subst e; have := k1.1 z hz; rw [lessD_irr] at this; cases this
      · exact e
    · intro hz
      rcases List.mem_cons.1 ((h z).2 (List.mem_cons_of_mem _ hz)) with e | e
      · subst e; have := k2.1 z hz; rw [lessD_irr] at this; cases this
      · exact e
theorem foldl_putD_srt (l : List Dot) : ∀ m, SrtD m → SrtD (l.foldl putD m) := by
  induction l with
  | nil => exact fun m h => h
  | cons d r ih => exact fun m h => ih _ (srt_putD h)
theorem foldl_putD_mem (l : List Dot) (x : Dot) : ∀ m, x ∈ l.foldl putD m ↔ x ∈ m ∨ x ∈ l := by
  induction l with
  | nil => simp
  | cons d r ih =>
    intro m
    rw [List.foldl_cons, ih, mem_putD, List.mem_cons]
    constructor
    · rintro ((h | h) | h)
      · exact .inr (.inl h)
      · exact .inl h
      · exact .inr (.inr h)
    · rintro (h | h | h)
      · exact .inl (.inr h)
      · exact .inl (.inl h)
      · exact .inr h
theorem ordD_srt (l : List Dot) : SrtD (ordD l) := foldl_putD_srt l [] (by simp [SrtD])
theorem ordD_mem {l : List Dot} {x : Dot} : x ∈ ordD l ↔ x ∈ l := by unfold ordD; rw [foldl_putD_mem]; simp
theorem ordD_is {l m : List Dot} (h : SrtD m) (k : ∀ x, x ∈ m ↔ x ∈ l) : m = ordD l := srt_ext h (ordD_srt l) (fun x => (k x).trans ordD_mem.symm)
/-- A Seen: five numbers, and more dots. -/
abbrev Sn := List Int × List Dot
def numX (X : List Int) (d : Dot) : Int := X.getD (d.1 - 1).toNat 0
abbrev hasX (s : Sn) (d : Dot) : Prop := d.2 ≤ numX s.1 d ∨ d ∈ s.2
def BdX (X : List Int) : Prop := X.length = 5 ∧ ∀ a ∈ X, 0 ≤ a ∧ a ≤ 1048576
def GoodX (s : Sn) : Prop := BdX s.1 ∧ SrtD s.2 ∧ ∀ x ∈ s.2, mayD x = true ∧ numX s.1 x + 1 < x.2
theorem numX_bd {X : List Int} (h : BdX X) (d : Dot) : 0 ≤ numX X d ∧ numX X d ≤ 1048576 := by
  unfold numX
  generalize (d.1 - 1).toNat = k
  by_cases hk : k < X.length
  · have : X.getD k 0 = X[k] := by simp [List.getD_eq_getElem?_getD, hk]
    rw [this]; exact h.2 _ (List.getElem_mem hk)
  · have : X.getD k 0 = 0 := by simp [List.getD_eq_getElem?_getD, Nat.not_lt.mp hk]
    rw [this]; omega
theorem BdX.set {X : List Int} (h : BdX X) {d : Dot} (hd : mayD d = true) (i : Nat) : BdX (X.set i d.2) := by
  rw [mayD_iff] at hd
  refine ⟨by rw [List.length_set]; exact h.1, fun a ha => ?_⟩
  rcases List.mem_or_eq_of_mem_set ha with q | rfl
  · exact h.2 a q
  · omega
/-- There is one Seen of each set of dots. -/
theorem good_ext {s t : Sn} (hs : GoodX s) (ht : GoodX t) (h : ∀ d, mayD d = true → (hasX s d ↔ hasX t d)) : s = t := by
  have half : ∀ {s t : Sn}, GoodX s → GoodX t → (∀ d, mayD d = true → (hasX s d ↔ hasX t d)) → ∀ i, i < 5 → t.1.getD i 0 ≤ s.1.getD i 0 := by
    intro s t hs ht h i hi
    refine Int.not_lt.1 fun hlt => ?_
    have e : ∀ X : List Int, ∀ n, numX X (((i : Int) + 1), n) = X.getD i 0 := fun X n => by unfold numX; congr 1; show ((i : Int) + 1 - 1).toNat = i; omega
    have b1 := numX_bd hs.1 (((i : Int) + 1), s.1.getD i 0 + 1)
    have b2 := numX_bd ht.1 (((i : Int) + 1), s.1.getD i 0 + 1)
    rw [e] at b1 b2
    have hm : mayD (((i : Int) + 1), s.1.getD i 0 + 1) = true := mayD_iff.2 ⟨by show 1 ≤ (i : Int) + 1; omega, by show (i : Int) + 1 ≤ 5; omega, by show 1 ≤ s.1.getD i 0 + 1; omega, by show s.1.getD i 0 + 1 ≤ 1048576; omega⟩
    have h1 : hasX t (((i : Int) + 1), s.1.getD i 0 + 1) := .inl (by rw [e]; show s.1.getD i 0 + 1 ≤ _; omega)
    rcases (h _ hm).2 h1 with q | q
    · rw [e] at q
      have q' : s.1.getD i 0 + 1 ≤ s.1.getD i 0 := q
      omega
    · have := (hs.2.2 _ q).2
      rw [e] at this
      have q' : s.1.getD i 0 + 1 < s.1.getD i 0 + 1 := this
      omega
  have e1 : s.1 = t.1 := by
    rw [← vec_eq s.1 hs.1.1, ← vec_eq t.1 ht.1.1]
    have a1 := half hs ht h
    have a2 := half ht hs (fun d hd => (h d hd).symm)
    have q : ∀ i, i < 5 → s.1.getD i 0 = t.1.getD i 0 := fun i hi => Int.le_antisymm (a2 i hi) (a1 i hi)
    rw [q 0 (by omega), q 1 (by omega), q 2 (by omega), q 3 (by omega), q 4 (by omega)]
  refine Prod.ext e1 (srt_ext hs.2.1 ht.2.1 fun x => ?_)
  constructor
  · intro hx
    have k := hs.2.2 x hx
    rcases (h x k.1).1 (.inr hx) with q | q
    · rw [← e1] at q; omega
    · exact q
  · intro hx
    have k := ht.2.2 x hx
    rcases (h x k.1).2 (.inr hx) with q | q
    · rw [e1] at q; omega
    · exact q
end Go.Proofs.YtadmibfnjhockaaDoor

namespace Go.Proofs.YtadmibfnjhockaaDoor
open Go.RowKit
set_option linter.unusedVariables false
def encD (d : Dot) : List Value := [.int .i64 d.1, .int .i64 d.2]
def flatD (l : List Dot) : List Value := l.flatMap encD
/-- A slice value's dots. -/
def DS (w : World) (a : Option Addr) (n : Nat) (l : List Dot) : Prop :=
  l.length = n ∧ n ≤ maxLen ∧ (n = 0 ∨ ∃ b off, a = some ⟨b, off, none⟩ ∧ ∀ i, i < n → w.cell? ⟨b, off + i * 2, none⟩ = some (.int .i64 (l.getD i (0, 0)).1) ∧ w.cell? ⟨b, off + i * 2 + 1, none⟩ = some (.int .i64 (l.getD i (0, 0)).2))
theorem flatD_len (l : List Dot) : (flatD l).length = l.length * 2 := by
  induction l with
  | nil => rfl
  | cons d r ih => simp [flatD, encD] at *; omega
theorem flatD_app (l m : List Dot) : flatD (l ++ m) = flatD l ++ flatD m := by simp [flatD]
theorem flatD_get : ∀ (l : List Dot) (i : Nat), i < l.length → (flatD l)[i * 2]? = some (.int .i64 (l.getD i (0, 0)).1) ∧ (flatD l)[i * 2 + 1]? = some (.int .i64 (l.getD i (0, 0)).2)
  | [], i, h => by simp at h
  | d :: r, 0, _ => by simp [flatD, encD]
  | d :: r, i + 1, h => by
    have ih := flatD_get r i (by simpa using h)
    have e : flatD (d :: r) = .int .i64 d.1 :: .int .i64 d.2 :: flatD r := rfl
    rw [e, show (i + 1) * 2 = i * 2 + 1 + 1 by omega]
    simpa using ih
theorem flatD_one (l : List Dot) : ∀ v ∈ flatD l, v.oneCell' = true := by
  intro v hv
  simp only [flatD, List.mem_flatMap, encD] at hv
  obtain ⟨d, _, hd⟩ := hv
  simp only [List.mem_cons, List.not_mem_nil, or_false] at hd
  rcases hd with rfl | rfl <;> rfl
theorem bcell {u W : World} (hb : Below u.heap.size u W) {p : Addr} {v : Value} (h : u.cell? p = some v) : W.cell? p = some v := by
  rw [hb.cell (World.block_lt_of_cell? u _ h)]; exact h
theorem DS.ext {w w' : World} {a : Option Addr} {n : Nat} {l : List Dot} (h : DS w a n l) (hx : Ext w w') : DS w' a n l := by
  obtain ⟨h1, h2, h4⟩ := h
  refine ⟨h1, h2, ?_⟩
  rcases h4 with h0 | ⟨b, off, ha, hc⟩
  · exact .inl h0
  · exact .inr ⟨b, off, ha, fun i hi => ⟨hx _ _ (hc i hi).1, hx _ _ (hc i hi).2⟩⟩
theorem DS.below {w w' : World} {p : Option Addr} {len : Nat} {l : List Dot} (h : DS w p len l) (hb : Below w.heap.size w w') : DS w' p len l := h.ext ((Ext.refl w).below hb)
theorem DS.alloc {w : World} {p : Option Addr} {len : Nat} {l : List Dot} (h : DS w p len l) (o : Obj) : DS (w.alloc o) p len l := h.ext ((Ext.refl w).alloc o)
theorem DS.drew {w : World} {a : Option Addr} {n : Nat} {l : List Dot} (h : DS w a n l) : DS w.drew a n l := h
theorem DS.nil (w : World) (p : Option Addr) : DS w p 0 [] := ⟨rfl, by decide, .inl rfl⟩
theorem DS.new (w : World) (g : Nat) (hg : g = w.heap.size) (l : List Dot) (C : Array Value) (hC : C = (flatD l).toArray) (t : TypeId) (fr : Nat × Nat) (n : Nat) (hn : l.length = n) (hmax : n ≤ maxLen) :
    DS (w.alloc (.cells C t fr)) (some ⟨g, 0, none⟩) n l := by
  subst hg hC hn
  refine ⟨rfl, hmax, .inr ⟨_, 0, rfl, fun i hi => ?_⟩⟩
  have h := flatD_get l i hi
  rw [World.cell?_alloc_mark, World.cell?_alloc_mark]
  simpa using h
theorem DS.head {w : World} {a : Option Addr} {len : Nat} {l : List Dot} (hB : DS w a len l) (h : Nat) (h2 : h ≤ len) : DS w a h (l.take h) := by
  obtain ⟨g1, g2, g4⟩ := hB
  refine ⟨by rw [List.length_take]; omega, by omega, ?_⟩
  rcases Nat.eq_zero_or_pos h with h0 | hp
  · exact .inl h0
  · rcases g4 with h0 | ⟨b, off, rfl, hc⟩
    · omega
    · refine .inr ⟨b, off, rfl, fun t ht => ?_⟩
      have h4 : (l.take h).getD t (0, 0) = l.getD t (0, 0) := by simp [List.getD_eq_getElem?_getD, ht]
      rw [h4]
      exact hc t (by omega)
end Go.Proofs.YtadmibfnjhockaaDoor

namespace Go.Proofs.YtadmibfnjhockaaDoor
open Go.RowKit
set_option linter.unusedVariables false
theorem takeInH {P : Program} {md : Region.Mode} {ops : Array Oper} {Q : Exit → Act → World → Prop} {S : World → Prop} (i d : Nat) (v : Value) {oi : Oper} {fuel : Nat} {listed : Array Bool} {a : Act} {w : World} (hi : ops[i]? = some oi) (hd : oi.dst = some d)
    (hs : Region.noSelect ops = true) (hf : Region.free md ops listed i = true) (hr : (Region.ready md ops listed).contains i = true)
    (hQ : ∀ c a w, Q (.panic c) (a.put oi.dst v) w → Q (.panic c) a w) (hw : Region.wanted oi (yielded ops a.tmps) = true) (hS : S w) (hy : ∀ w, S w → (execOp a.eval oi).run P w = .ok (.value v) w)
    (h : wpAnyH P md ops Q S fuel (listed.setIfInBounds i true) (a.put (some d) v) w) : wpAnyH P md ops Q S (fuel + 1) listed a w :=
  wpAnyH_take hi hs hf hr hQ (Or.inl ⟨hw, hy⟩) hS (by rw [hd]; exact h)
theorem takeNoH {P : Program} {md : Region.Mode} {ops : Array Oper} {Q : Exit → Act → World → Prop} {S : World → Prop} (i d : Nat) {oi : Oper} {fuel : Nat} {listed : Array Bool} {a : Act} {w : World} (hi : ops[i]? = some oi) (hd : oi.dst = some d)
    (hs : Region.noSelect ops = true) (hf : Region.free md ops listed i = true) (hr : (Region.ready md ops listed).contains i = true)
    (hQ : ∀ c a w, Q (.panic c) (a.put oi.dst undef) w → Q (.panic c) a w) (hw : Region.wanted oi (yielded ops a.tmps) = false) (hS : S w)
    (h : wpAnyH P md ops Q S fuel (listed.setIfInBounds i true) (a.put (some d) undef) w) : wpAnyH P md ops Q S (fuel + 1) listed a w :=
  wpAnyH_take hi hs hf hr hQ (Or.inr ⟨hw, rfl⟩) hS (by rw [hd]; exact h)
/-- Draws and new blocks alone. -/
def Gr (u W : World) : Prop := ∃ (q : Nat) (os : Array Obj), W = Sort.grow (u.drewN q) os
theorem Gr.refl (u : World) : Gr u u := ⟨0, #[], by rw [Sort.grow_empty]; rfl⟩
theorem Gr.drew {u W : World} (h : Gr u W) : Gr u W.drew := by
  obtain ⟨q, os, rfl⟩ := h
  exact ⟨q + 1, os, by rw [Sort.drew_grow]; rfl⟩
theorem Gr.alloc {u W : World} (h : Gr u W) (o : Obj) : Gr u (W.alloc o) := by
  obtain ⟨q, os, rfl⟩ := h
  exact ⟨q, os ++ #[o], by rw [Sort.alloc_eq_grow, Sort.grow_grow]⟩
theorem Gr.trans {a b c : World} (h : Gr a b) (k : Gr b c) : Gr a c := by
  obtain ⟨q, os, rfl⟩ := h
  obtain ⟨q', os', rfl⟩ := k
  refine ⟨q + q', os ++ os', ?_⟩
  rw [← Sort.grow_grow, ← World.drewN_drewN]
  rfl
theorem Gr.bel {u W : World} (h : Gr u W) : Below u.heap.size u W := by
  obtain ⟨q, os, rfl⟩ := h
  exact ⟨rfl, rfl, rfl, by simp [World.drewN], fun k hk => Sort.heap_grow_old (u.drewN q) os hk⟩
theorem cell_new (w : World) (C : Array Value) (t : TypeId) (g : Nat) (hg : g = w.heap.size) (i : Nat) (v : Value) (h : C[i]? = some v) : (w.alloc (.cells C t)).cell? ⟨g, i, none⟩ = some v := by
  subst hg; rw [World.cell?_alloc_mark]; exact h
theorem cell_old {w : World} (o : Obj) {p : Addr} {v : Value} (h : w.cell? p = some v) : (w.alloc o).cell? p = some v := bcell (bel1 w o) h
end Go.Proofs.YtadmibfnjhockaaDoor

namespace Go.Proofs.YtadmibfnjhockaaDoor
open Go.RowKit Go.Lib Go.Sort
set_option linter.unusedVariables false
/-- A block's row of dots, none of it frozen. -/
def HD (w : World) (g : Nat) (d : Array Dot) : Prop := ∀ i, i < d.size →
  w.cell? ⟨g, i * 2, none⟩ = some (.int .i64 d[i]!.1) ∧ w.cell? ⟨g, i * 2 + 1, none⟩ = some (.int .i64 d[i]!.2) ∧ w.frozen? ⟨g, i * 2, none⟩ = false ∧ w.frozen? ⟨g, i * 2 + 1, none⟩ = false
theorem HD.ds {w : World} {g : Nat} {d : Array Dot} (h : HD w g d) (l : List Dot) (hl : l.length ≤ d.size) (hm : d.size ≤ maxLen) (hg : ∀ j, j < l.length → l[j]? = some d[j]!) : DS w (some ⟨g, 0, none⟩) l.length l := by
  refine ⟨rfl, by omega, .inr ⟨g, 0, rfl, fun i hi => ?_⟩⟩
  have e : l.getD i (0, 0) = d[i]! := by rw [List.getD_eq_getElem?_getD, hg i hi]; rfl
  rw [e, Nat.zero_add]
  exact ⟨(h i (by omega)).1, (h i (by omega)).2.1⟩
theorem HD.below {w w' : World} {g : Nat} {d : Array Dot} (h : HD w g d) (hb : Below w.heap.size w w') (hg : g < w.heap.size) : HD w' g d := fun i hi =>
  ⟨bcell hb (h i hi).1, bcell hb (h i hi).2.1, by rw [hb.frozen hg]; exact (h i hi).2.2.1, by rw [hb.frozen hg]; exact (h i hi).2.2.2⟩
theorem HD.drew {w : World} {g : Nat} {d : Array Dot} (h : HD w g d) : HD w.drew g d := h
end Go.Proofs.YtadmibfnjhockaaDoor

namespace Go.Proofs.YtadmibfnjhockaaDoor
open Go.RowKit Go.Lib Go.Sort
set_option linter.unusedVariables false
theorem HD.set {w : World} {g : Nat} {d : Array Dot} (h : HD w g d) {k : Nat} (hk : k < d.size) (r s : Int) : HD ((w.setCell ⟨g, k * 2, none⟩ (.int .i64 r)).setCell ⟨g, k * 2 + 1, none⟩ (.int .i64 s)) g (d.setIfInBounds k (r, s)) := by
  intro i hi
  rw [Array.size_setIfInBounds] at hi
  have q := h i hi
  have qk := h k hk
  by_cases e : i = k
  · subst e
    rw [getElem!_set_same d i (r, s) hi]
    refine ⟨?_, ?_, by simpa using q.2.2.1, by simpa using q.2.2.2⟩
    · rw [World.cell?_setCell_other _ _ _ _ (by simp), World.cell?_setCell_same _ _ _ q.1]
    · exact World.cell?_setCell_same _ _ _ (by rw [World.cell?_setCell_other _ _ _ _ (by simp)]; exact q.2.1)
  · rw [getElem!_set_other d k i (r, s) e]
    refine ⟨?_, ?_, by simpa using q.2.2.1, by simpa using q.2.2.2⟩
    · rw [World.cell?_setCell_other _ _ _ _ (by simp <;> omega), World.cell?_setCell_other _ _ _ _ (by simp <;> omega)]; exact q.1
    · rw [World.cell?_setCell_other _ _ _ _ (by simp <;> omega), World.cell?_setCell_other _ _ _ _ (by simp <;> omega)]; exact q.2.1
end Go.Proofs.YtadmibfnjhockaaDoor

namespace Go.Proofs.YtadmibfnjhockaaDoor
open Go.RowKit Go.Lib Go.Sort
set_option linter.unusedVariables false
theorem results_cell_tmp {P : Program} {fn : Func} {p q : Tmp} {ty : TypeId} (h : fn.results = #[.cell p ty, .tmp q]) (tmps : Array Value) (w : World) (g : Nat) (t : TypeId) (cs : Array Value) (fr : Nat × Nat) (d : TypeDesc) (v : Value)
    (hp : tmps.getD p undef = .pointer (some ⟨g, 0, none⟩)) (hq : tmps.getD q undef = v) (hg : w.heap[g]? = some (.cells cs t fr))
    (hu : P.underlying ty = some d) (hd : (match d with | .struct _ | .array _ _ => true | _ => false) = true) (hi : (P.info? ty).map (·.size) = some cs.size) :
    (results fn tmps).run P w = .ok (.tuple #[.agg cs, v]) w := by
  have hp' : tmps[p]?.getD undef = .pointer (some ⟨g, 0, none⟩) := by simpa using hp
  have hq' : tmps[q]?.getD undef = v := by simpa using hq
  simp [results, h, hp', hq', asAddr, run_loadVar_row w g t ty cs fr d hg hu hd hi]
theorem OwnN.ns {N : Nat} {w : World} {p : Option Addr} {n cap : Nat} {l : List Int} (h : OwnN N w (.slice p n cap) l) : NS w p n l ∧ CP p n cap := by
  obtain ⟨p', c', he, h1, h2⟩ := h.open
  cases he
  exact ⟨h1, h2⟩
theorem OwnN.blk {N : Nat} {w : World} {p : Option Addr} {n cap : Nat} {l : List Int} (h : OwnN N w (.slice p n cap) l) (a : Addr) (ha : p = some a) : N ≤ a.block := by
  subst ha; exact (World.ownsRow.lt h a.block rfl).1
theorem NS.set {w : World} {p : Option Addr} {n : Nat} {l : List Int} (h : NS w p n l) (q : Addr) (v : Value) (hp : ∀ a, p = some a → a.block ≠ q.block) : NS (w.setCell q v) p n l := by
  obtain ⟨h1, h2, h4⟩ := h
  refine ⟨h1, h2, ?_⟩
  rcases h4 with h0 | ⟨b, off, rfl, hc⟩
  · exact .inl h0
  · have hb : b ≠ q.block := hp _ rfl
    exact .inr ⟨b, off, rfl, fun i hi => by rw [World.cell?_setCell_far _ _ _ _ (fun e => hb e.symm)]; exact hc i hi⟩
theorem DS.set {w : World} {p : Option Addr} {n : Nat} {l : List Dot} (h : DS w p n l) (q : Addr) (v : Value) (hp : ∀ a, p = some a → a.block ≠ q.block) : DS (w.setCell q v) p n l := by
  obtain ⟨h1, h2, h4⟩ := h
  refine ⟨h1, h2, ?_⟩
  rcases h4 with h0 | ⟨b, off, rfl, hc⟩
  · exact .inl h0
  · have hb : b ≠ q.block := hp _ rfl
    exact .inr ⟨b, off, rfl, fun i hi => ⟨by rw [World.cell?_setCell_far _ _ _ _ (fun e => hb e.symm)]; exact (hc i hi).1, by rw [World.cell?_setCell_far _ _ _ _ (fun e => hb e.symm)]; exact (hc i hi).2⟩⟩
end Go.Proofs.YtadmibfnjhockaaDoor

namespace Go.Proofs.YtadmibfnjhockaaDoor
open Go.RowKit
set_option linter.unusedVariables false
theorem DS.tail {w : World} {g n : Nat} {l : List Dot} (h : DS w (some ⟨g, 0, none⟩) n l) (k : Nat) (hk : k < n) : DS w (some ⟨g, k * 2, none⟩) (n - k) (l.drop k) := by
  obtain ⟨g1, g2, g4⟩ := h
  refine ⟨by rw [List.length_drop]; omega, by omega, .inr ⟨g, k * 2, rfl, fun i hi => ?_⟩⟩
  rcases g4 with h0 | ⟨b, off, hh, hc⟩
  · omega
  · cases hh
    have e : (l.drop k).getD i (0, 0) = l.getD (k + i) (0, 0) := by simp [List.getD_eq_getElem?_getD]
    have q := hc (k + i) (by omega)
    rw [e, show k * 2 + i * 2 = 0 + (k + i) * 2 by omega]
    exact q
theorem DS.some0 {w : World} (a : Addr) : DS w (some a) 0 [] := ⟨rfl, by decide, .inl rfl⟩
end Go.Proofs.YtadmibfnjhockaaDoor

namespace Go.Proofs.YtadmibfnjhockaaDoor
open Go.RowKit
set_option linter.unusedVariables false
/-- What is answered: a Seen alone. -/
def Off (p : Option Addr) (n g : Nat) : Prop := n = 0 ∨ ∀ a, p = some a → a.block ≠ g
theorem NS.set0 {w : World} {p : Option Addr} {n : Nat} {l : List Int} (h : NS w p n l) (q : Addr) (v : Value) (hp : n = 0 ∨ ∀ a, p = some a → a.block ≠ q.block) : NS (w.setCell q v) p n l := by
  rcases hp with h0 | hp
  · exact ⟨h.1, h.2.1, .inl h0⟩
  · exact h.set q v hp
theorem NS.far {w : World} {p : Option Addr} {n : Nat} {l : List Int} (h : NS w p n l) : n = 0 ∨ ∀ a, p = some a → a.block < w.heap.size := by
  rcases Nat.eq_zero_or_pos n with h0 | hp
  · exact .inl h0
  · rcases h.2.2 with h0 | ⟨b, off, rfl, hc⟩
    · exact .inl h0
    · refine .inr fun a ha => ?_
      cases ha
      have := World.block_lt_of_cell? w _ (hc 0 hp)
      exact this
theorem NS.grown {w w' : World} {p : Option Addr} {n : Nat} {l : List Int} {row : Option Nat} (h : NS w p n l) (hg : w.grownBy w' row) (hp : n = 0 ∨ ∀ a, p = some a → row ≠ some a.block) : NS w' p n l := by
  rcases Nat.eq_zero_or_pos n with h0 | hpos
  · exact ⟨h.1, h.2.1, .inl h0⟩
  · rcases hp with h0 | hp
    · omega
    · obtain ⟨h1, h2, h4⟩ := h
      refine ⟨h1, h2, ?_⟩
      rcases h4 with h0 | ⟨b, off, rfl, hc⟩
      · exact .inl h0
      · refine .inr ⟨b, off, rfl, fun i hi => ?_⟩
        have hlt := World.block_lt_of_cell? w _ (hc i hi)
        rw [World.cell?_of_block (w := w) (hg.block b hlt (fun e => hp _ rfl e.symm))]
        exact hc i hi
end Go.Proofs.YtadmibfnjhockaaDoor

namespace Go.Proofs.YtadmibfnjhockaaDoor
open Go.RowKit
set_option linter.unusedVariables false
theorem DS.set0 {w : World} {p : Option Addr} {n : Nat} {l : List Dot} (h : DS w p n l) (q : Addr) (v : Value) (hp : Off p n q.block) : DS (w.setCell q v) p n l := by
  rcases hp with h0 | hp
  · exact ⟨h.1, h.2.1, .inl h0⟩
  · exact h.set q v hp
theorem DS.far {w : World} {p : Option Addr} {n : Nat} {l : List Dot} (h : DS w p n l) : n = 0 ∨ ∀ a, p = some a → a.block < w.heap.size := by
  rcases Nat.eq_zero_or_pos n with h0 | hp
  · exact .inl h0
  · rcases h.2.2 with h0 | ⟨b, off, rfl, hc⟩
    · exact .inl h0
    · refine .inr fun a ha => ?_
      cases ha
      exact World.block_lt_of_cell? w _ (hc 0 hp).1
end Go.Proofs.YtadmibfnjhockaaDoor

namespace Go.Proofs.YtadmibfnjhockaaDoor
open Go.RowKit Go.ChangeShapes Go.WideShapes
set_option linter.unusedVariables false
/-- Bytes that came in. -/
def InU (w : World) (v : Value) : Prop := ∃ a len cap l, v = .slice a len cap ∧ BS w a len l ∧ CP a len cap
theorem byte_wf1 {n : Int} (h : (Lit.int .u8 n).wf = true) : 0 ≤ n ∧ n < 256 := by
  simp [Lit.wf, IntKind.min, IntKind.max, IntKind.bits, IntKind.signed] at h
  omega
set_option maxRecDepth 100000 in
theorem in_u8s {H : Type} {enc : TypeId × Value → H} {W : World} {v : Value} {d : DataW H} {p : List MemPlace} {base : Nat} (hok : Value.okWide Tryd.prog W .any base 90 v) (h : DataW.Trod enc Tryd.prog W 0 (fun _ => true) true 90 v d p) (hw : ∀ n ∈ d.weights Tryd.prog 90, n ≤ reachBytes) : InU W v := by
  obtain ⟨a, len, cap, rfl⟩ := okWide_slice Tryd.underlying90 hok
  obtain ⟨fuel, hf⟩ := h
  rcases open_ints Tryd.underlying90 Tryd.underlying5 (by kernel_rfl) hf with ⟨hcs, _⟩ | ⟨x, l, c, zs, hcs, _, hl, hm, hz, hx, hcell, hwz⟩
  · simp [Value.cells] at hcs
    obtain ⟨rfl, rfl, rfl⟩ := hcs
    exact ⟨_, _, _, [], rfl, BS.nil _ _, Nat.le_refl _, by decide, fun _ => rfl⟩
  · simp [Value.cells] at hcs
    obtain ⟨rfl, rfl, rfl⟩ := hcs
    simp at hz
    refine ⟨_, _, _, zs.take len, rfl, ⟨by rw [List.length_take]; omega, by omega, fun n hn => byte_wf1 (hwz n (List.mem_of_mem_take hn)), ?_⟩, hl, hm, fun h => by cases h⟩
    rcases Nat.eq_zero_or_pos len with h0 | hp
    · exact .inl h0
    · obtain ⟨b, off, spot⟩ := x
      have hspot : spot = none := by simpa [Addr.add] using World.cell?_spot (hcell 0 (by omega))
      subst hspot
      refine .inr ⟨b, off, rfl, fun i hi => ?_⟩
      have h1 := hcell i (by omega)
      have h2 : (zs.take len).getD i 0 = zs.getD i 0 := by simp [List.getD_eq_getElem?_getD, hi]
      rw [h2]
      by_cases hi0 : i = 0
      · subst hi0; simpa [Addr.add] using h1
      · simpa [Addr.add, hi0] using h1
theorem DS.mid {w : World} {g : Nat} {n : Nat} {l : List Dot} {off : Nat} (h : DS w (some ⟨g, off, none⟩) n l) (k : Nat) (hk : k < n) : DS w (some ⟨g, off + k * 2, none⟩) (n - k) (l.drop k) := by
  obtain ⟨g1, g2, g4⟩ := h
  refine ⟨by rw [List.length_drop]; omega, by omega, .inr ⟨g, off + k * 2, rfl, fun i hi => ?_⟩⟩
  rcases g4 with h0 | ⟨b, o, hh, hc⟩
  · omega
  · cases hh
    have e : (l.drop k).getD i (0, 0) = l.getD (k + i) (0, 0) := by simp [List.getD_eq_getElem?_getD]
    have q := hc (k + i) (by omega)
    rw [e, show off + k * 2 + i * 2 = off + (k + i) * 2 by omega]
    exact q
end Go.Proofs.YtadmibfnjhockaaDoor

namespace Go.Proofs.YtadmibfnjhockaaDoor
open Go.RowKit
set_option linter.unusedVariables false
theorem ret_bool {a b : Bool} (h : a = b) : Ending.returned (.bool a) = .returned (.bool b) := by rw [h]
theorem take_eq {l m : List Int} (k : Nat) (hl : k < l.length) (hm : k < m.length) (h : l.take k = m.take k) (he : l.getD k 0 = m.getD k 0) : l.take (k + 1) = m.take (k + 1) := by
  rw [List.take_succ_eq_append_getElem hl, List.take_succ_eq_append_getElem hm, h]
  simp [List.getD_eq_getElem?_getD, hl, hm] at he
  rw [he]
end Go.Proofs.YtadmibfnjhockaaDoor

namespace Go.Proofs.YtadmibfnjhockaaDoor
open Go.RowKit
set_option linter.unusedVariables false
theorem BS.cell0 {w : World} {a : Option Addr} {n : Nat} {x : Int} {l : List Int} (h : BS w a n (x :: l)) : ∃ b o, a = some ⟨b, o, none⟩ ∧ w.cell? ⟨b, o, none⟩ = some (.int .u8 x) ∧ 0 ≤ x ∧ x < 256 ∧ n = l.length + 1 := by
  obtain ⟨g1, g2, g3, g4⟩ := h
  rcases g4 with h0 | ⟨b, o, rfl, hc⟩
  · subst h0; simp at g1
  · have q := hc 0 (by rw [← g1]; simp)
    exact ⟨b, o, rfl, by simpa using q, (By.head g3).1, (By.head g3).2, by rw [← g1]; simp⟩
theorem BS.at {w : World} {b o n : Nat} {l : List Int} (h : BS w (some ⟨b, o, none⟩) n l) (i k : Nat) (hk : i + k ≤ n) : BS w (some ⟨b, o + i, none⟩) k ((l.drop i).take k) := by
  obtain ⟨g1, g2, g3, g4⟩ := h
  refine ⟨by rw [List.length_take, List.length_drop]; omega, by omega, By.take (By.drop g3 i) k, ?_⟩
  rcases Nat.eq_zero_or_pos k with h0 | hp
  · exact .inl h0
  · rcases g4 with h0 | ⟨b', o', hh, hc⟩
    · omega
    · cases hh
      refine .inr ⟨_, _, rfl, fun t ht => ?_⟩
      have h4 : ((l.drop i).take k).getD t 0 = l.getD (i + t) 0 := by simp [List.getD_eq_getElem?_getD, ht]
      rw [h4, Nat.add_assoc]
      exact hc (i + t) (by omega)
end Go.Proofs.YtadmibfnjhockaaDoor

namespace Go.Proofs.YtadmibfnjhockaaDoor
open Go.RowKit
set_option linter.unusedVariables false
end Go.Proofs.YtadmibfnjhockaaDoor

namespace Go.Proofs.YtadmibfnjhockaaDoor
open Go.RowKit
set_option linter.unusedVariables false
theorem CP.cut {a : Option Addr} {n c : Nat} (h : CP a n c) (i k : Nat) (hk : k ≤ n) (hi : i ≤ k) : CP (slA a c i) (k - i) (c - i) := by
  obtain ⟨h1, h2, h3⟩ := h
  refine ⟨by omega, by omega, fun hn => ?_⟩
  unfold slA at hn
  split at hn
  · have := h3 hn; omega
  · rcases a with _ | x
    · have := h3 rfl; omega
    · simp at hn
theorem CP.head {a : Option Addr} {n c : Nat} (h : CP a n c) (k : Nat) (hk : k ≤ n) : CP a k c := ⟨Nat.le_trans hk h.1, h.2.1, h.2.2⟩
end Go.Proofs.YtadmibfnjhockaaDoor

namespace Go.Proofs.YtadmibfnjhockaaDoor
open Go.RowKit
set_option linter.unusedVariables false
theorem BS.rest {w : World} {a : Option Addr} {n c : Nat} {l : List Int} (h : BS w a n l) (i : Nat) (hi : i ≤ n) (hc : n ≤ c) : BS w (slA a c i) (n - i) (l.drop i) := by
  have := h.cut i n c hi (Nat.le_refl _) hc
  rw [List.take_of_length_le (by rw [h.1]; exact Nat.le_refl _)] at this
  exact this
end Go.Proofs.YtadmibfnjhockaaDoor

namespace Go.Proofs.YtadmibfnjhockaaDoor
open Go.RowKit
set_option linter.unusedVariables false
section
variable {α : Type}
theorem flatR_len (enc : α → List Value) (k : Nat) (hk : ∀ x, (enc x).length = k) : ∀ l : List α, (l.flatMap enc).length = l.length * k
  | [] => by simp
  | x :: r => by rw [List.flatMap_cons, List.length_append, hk, flatR_len enc k hk r, List.length_cons, Nat.succ_mul]; omega
theorem flatR_get (enc : α → List Value) (k : Nat) (hk : ∀ x, (enc x).length = k) : ∀ (l : List α) (i : Nat) (x : α) (j : Nat) (v : Value), l[i]? = some x → (enc x)[j]? = some v → (l.flatMap enc)[i * k + j]? = some v
  | [], i, x, j, v, h, _ => by simp at h
  | y :: r, 0, x, j, v, h, hj => by
    simp at h
    subst h
    have hl : j < (enc y).length := by
      rcases Nat.lt_or_ge j (enc y).length with h | h
      · exact h
      · rw [List.getElem?_eq_none h] at hj; cases hj
    rw [List.flatMap_cons, Nat.zero_mul, Nat.zero_add, List.getElem?_append_left hl]
    exact hj
  | y :: r, i + 1, x, j, v, h, hj => by
    have ih := flatR_get enc k hk r i x j v (by simpa using h) hj
    rw [List.flatMap_cons, List.getElem?_append_right (by rw [hk, Nat.succ_mul]; omega), hk, show (i + 1) * k + j - k = i * k + j by rw [Nat.succ_mul]; omega]
    exact ih
theorem flatR_one (enc : α → List Value) (h1 : ∀ x, ∀ v ∈ enc x, v.oneCell' = true) (l : List α) : ∀ v ∈ l.flatMap enc, v.oneCell' = true := by
  intro v hv
  obtain ⟨x, _, hx⟩ := List.mem_flatMap.1 hv
  exact h1 x v hx
theorem flatR_lt {k n i j : Nat} (hi : i < n) (hj : j < k) : i * k + j < n * k := by
  have : (i + 1) * k ≤ n * k := Nat.mul_le_mul_right k hi
  rw [Nat.succ_mul] at this
  omega
/-- A slice's structs. -/
def RS (enc : α → List Value) (k : Nat) (w : World) (a : Option Addr) (n : Nat) (l : List α) : Prop :=
  l.length = n ∧ n ≤ maxLen ∧ (n = 0 ∨ ∃ b off, a = some ⟨b, off, none⟩ ∧ ∀ i x, l[i]? = some x → ∀ j v, (enc x)[j]? = some v → w.cell? ⟨b, off + i * k + j, none⟩ = some v)
/-- Those of the call's own. -/
def OwnR (enc : α → List Value) (k : Nat) (T : TypeId) (N : Nat) (w : World) (v : Value) (l : List α) : Prop := w.ownsRow N T k v l.length (l.flatMap enc)
variable {enc : α → List Value} {k : Nat} {T : TypeId}
theorem RS.ext {w w' : World} {a : Option Addr} {n : Nat} {l : List α} (h : RS enc k w a n l) (hx : Ext w w') : RS enc k w' a n l := by
  obtain ⟨h1, h2, h4⟩ := h
  refine ⟨h1, h2, ?_⟩
  rcases h4 with h0 | ⟨b, off, ha, hc⟩
  · exact .inl h0
  · exact .inr ⟨b, off, ha, fun i x hi j v hj => hx _ _ (hc i x hi j v hj)⟩
theorem RS.below {w w' : World} {a : Option Addr} {n : Nat} {l : List α} (h : RS enc k w a n l) (hb : Below w.heap.size w w') : RS enc k w' a n l := h.ext ((Ext.refl w).below hb)
theorem RS.alloc {w : World} {a : Option Addr} {n : Nat} {l : List α} (h : RS enc k w a n l) (o : Obj) : RS enc k (w.alloc o) a n l := h.ext ((Ext.refl w).alloc o)
theorem RS.nil (w : World) (p : Option Addr) : RS enc k w p 0 [] := ⟨rfl, by decide, .inl rfl⟩
theorem RS.new (hk : ∀ x, (enc x).length = k) (w : World) (g : Nat) (hg : g = w.heap.size) (l : List α) (C : Array Value) (hC : C = (l.flatMap enc).toArray) (t : TypeId) (fr : Nat × Nat) (n : Nat) (hn : l.length = n) (hmax : n ≤ maxLen) :
    RS enc k (w.alloc (.cells C t fr)) (some ⟨g, 0, none⟩) n l := by
  subst hg hC hn
  refine ⟨rfl, hmax, .inr ⟨_, 0, rfl, fun i x hi j v hj => ?_⟩⟩
  have h := flatR_get enc k hk l i x j v hi hj
  rw [World.cell?_alloc_mark, Nat.zero_add]
  simpa using h
theorem RS.mid {w : World} {b off : Nat} {n : Nat} {l : List α} (h : RS enc k w (some ⟨b, off, none⟩) n l) (i : Nat) (hi : i ≤ n) : RS enc k w (some ⟨b, off + i * k, none⟩) (n - i) (l.drop i) := by
  obtain ⟨h1, h2, h4⟩ := h
  refine ⟨by rw [List.length_drop]; omega, by omega, ?_⟩
  rcases h4 with h0 | ⟨b', off', ha, hc⟩
  · exact .inl (by omega)
  · cases ha
    refine .inr ⟨b, off + i * k, rfl, fun i' x hi' j v hj => ?_⟩
    rw [List.getElem?_drop] at hi'
    have := hc (i + i') x hi' j v hj
    rw [Nat.add_mul] at this
    rw [show off + i * k + i' * k + j = off + (i * k + i' * k) + j by omega]
    exact this
theorem OwnR.mono {N N' : Nat} {w : World} {v : Value} {l : List α} (h : OwnR enc k T N w v l) (hN : N' ≤ N) : OwnR enc k T N' w v l := ⟨h.1, h.2.imp id fun ⟨g, cap, cur, h1, h2, h3⟩ => ⟨g, cap, cur, h1, Nat.le_trans hN h2, h3⟩⟩
theorem OwnR.alloc {N : Nat} {w : World} {v : Value} {l : List α} (h : OwnR enc k T N w v l) (o : Obj) : OwnR enc k T N (w.alloc o) v l := World.ownsRow.alloc h o
theorem OwnR.drew {N : Nat} {w : World} {v : Value} {l : List α} (h : OwnR enc k T N w v l) : OwnR enc k T N w.drew v l := World.ownsRow.drew h
theorem OwnR.below {N : Nat} {w w' : World} {v : Value} {l : List α} (h : OwnR enc k T N w v l) (hb : Below w.heap.size w w') : OwnR enc k T N w' v l := by
  refine ⟨h.1, ?_⟩
  rcases h.2 with hn | ⟨g, cap, cur, rfl, hb', hgg, rest⟩
  · exact .inl hn
  · refine .inr ⟨g, cap, cur, rfl, hb', ?_, rest⟩
    rw [hb.block g (Array.getElem?_eq_some_iff.1 hgg).1]
    exact hgg
theorem OwnR.nil (N : Nat) (w : World) : OwnR enc k T N w (.slice none 0 0) [] := ⟨by simp, .inl ⟨rfl, rfl⟩⟩
theorem OwnR.open (hk : ∀ x, (enc x).length = k) {N : Nat} {w : World} {v : Value} {l : List α} (h : OwnR enc k T N w v l) : ∃ p cap, v = .slice p l.length cap ∧ RS enc k w p l.length l ∧ CP p l.length cap := by
  have h0 := h
  obtain ⟨_, h2⟩ := h
  rcases h2 with ⟨rfl, h2⟩ | ⟨g, cap, cur, rfl, hb, hg, hc1, hc2, hs, ht⟩
  · exact ⟨none, 0, by rw [h2], ⟨rfl, by rw [h2]; decide, .inl h2⟩, by omega, by decide, fun _ => rfl⟩
  · refine ⟨some ⟨g, 0, none⟩, cap, rfl, ⟨rfl, by omega, .inr ⟨g, 0, rfl, fun i x hi j u hj => ?_⟩⟩, hc1, hc2, fun h => by cases h⟩
    have hil : i < l.length := (List.getElem?_eq_some_iff.1 hi).1
    have hjl : j < k := by rw [← hk x]; exact (List.getElem?_eq_some_iff.1 hj).1
    rw [Nat.zero_add, World.ownsRow.cellAt h0 (i * k + j) (flatR_lt hil hjl)]
    exact flatR_get enc k hk l i x j u hi hj
theorem OwnR.made (w : World) (N g : Nat) (hg : g = w.heap.size) (hN : N ≤ w.heap.size) : OwnR enc k T N (w.alloc (.cells #[] T)) (.slice (some ⟨g, 0, none⟩) 0 0) [] := by
  subst hg; exact World.ownsRow_made w #[] 0 hN (by decide) (by simp)
theorem RS.cells {w : World} {b off : Nat} {n : Nat} {l : List α} (h : RS enc k w (some ⟨b, off, none⟩) n l) (j : Nat) (u : Value) (hj : (l.flatMap enc)[j]? = some u) (hk : ∀ x, (enc x).length = k) (hk0 : 0 < k) : w.cell? ⟨b, off + j, none⟩ = some u := by
  have hjl : j < l.length * k := by rw [← flatR_len enc k hk l]; exact (List.getElem?_eq_some_iff.1 hj).1
  have hi : j / k < l.length := Nat.div_lt_of_lt_mul (by rw [Nat.mul_comm]; exact hjl)
  have hm : j % k < k := Nat.mod_lt _ hk0
  have e : j / k * k + j % k = j := by rw [Nat.mul_comm]; exact Nat.div_add_mod j k
  rcases h.2.2 with h0 | ⟨b', off', ha, hc⟩
  · rw [h.1, h0] at hi; exact absurd hi (Nat.not_lt_zero _)
  · cases ha
    have hx : l[j / k]? = some l[j / k] := List.getElem?_eq_getElem hi
    have hy : (enc l[j / k])[j % k]? = some ((enc l[j / k])[j % k]'(by rw [hk]; exact hm)) := List.getElem?_eq_getElem _
    have q := flatR_get enc k hk l _ _ _ _ hx hy
    rw [e, hj] at q
    cases q
    have := hc _ _ hx _ _ hy
    rw [Nat.add_assoc, e] at this
    exact this
/-- 'append(v, x...)', 'v' the call's own. -/
theorem append_rows {w : World} {ops : Array Oper} {rest : List Oper} {o : Oper} {a : Act} {Q : Exit → Act → World → Prop} (hgd : o.guard = none) (s x : Operand) (t : TypeId)
    (ho : o.op = .call { callee := .builtin .append, args := #[s, x], argTypes := #[t, t] })
    (ht : Tryd.prog.underlying t = some (.slice T)) {z : Value} {by_ : Nat} (hi : (Tryd.prog.info? T).map (fun i => (i.zero, i.size, i.bytes)) = some (some z, k, by_)) (hz : z.cells.size = k) (hk0 : 0 < k) (hby : by_ ≤ 1000)
    (hk : ∀ x, (enc x).length = k) (h1 : ∀ x, ∀ v ∈ enc x, v.oneCell' = true)
    (N : Nat) (v : Value) (l m : List α) (hs : a.eval s = v) (hown : OwnR enc k T N w v l) (p : Option Addr) (len cap : Nat) (hx : a.eval x = .slice p len cap) (hp : p = none → cap = 0) (hB : RS enc k w p len m)
    (hbig : l.length + m.length ≤ 1000000) (hN : N ≤ w.heap.size)
    (h : ∀ v' w', OwnR enc k T N w' v' (l ++ m) → w.grownBy w' v.ownBlock → (∀ w0, Below N w0 w → Below N w0 w') → wpList Tryd.prog ops Q rest (a.put o.dst v') w') : wpList Tryd.prog ops Q (o :: rest) a w := by
  obtain ⟨i0, hi, hz0, hz1, hz2⟩ := info_parts hi
  have g1 := hB.1
  rcases p with _ | ad
  · have hc := hp rfl
    have hl0 : len = 0 := by
      rcases hB.2.2 with h0 | ⟨b, off, hh, _⟩
      · exact h0
      · cases hh
    subst hc hl0
    obtain rfl : m = [] := List.eq_nil_of_length_eq_zero g1
    refine wpList_append_own_none hgd s x _ ho N T i0 k ht hi v _ _ hs hown hx ?_
    refine h v w (by rw [List.append_nil]; exact hown) ⟨rfl, rfl, rfl, Nat.le_refl _, fun _ _ _ => rfl⟩ (fun _ h => h)
  · have hmul : (l.length + len) * by_ ≤ 1000000 * 1000 := Nat.mul_le_mul (by omega) hby
    refine wpList_append_own w hgd s x t ho N T i0 z k by_ ht hi hz0 hz1 hz2 hz hk0 v _ _ hs hown ad len cap (m.flatMap enc) hx (by rw [flatR_len enc k hk, g1]) ?_ (flatR_one enc h1 m) (by rw [← g1]; unfold maxLen; omega) (by omega) hN ?_
    · intro j u hj
      have hjl : j < m.length * k := by rw [← flatR_len enc k hk m]; exact (List.getElem?_eq_some_iff.1 hj).1
      rcases hB.2.2 with h0 | ⟨b, off, hh, hc⟩
      · rw [g1, h0] at hjl; omega
      · cases hh
        have h3 : (⟨b, off, none⟩ : Addr).add j = ⟨b, off + j, none⟩ := by
          by_cases hj0 : j = 0
          · subst hj0; simp [Addr.add]
          · simp [Addr.add, hj0]
        rw [h3]
        exact hB.cells j u hj hk hk0
    · intro v' w' h1 h2 _
      refine h v' w' ?_ h2 (fun w0 hb => hb.grown h2 hN (fun j hj => (World.ownsRow.lt hown j hj).1))
      have e : l.length + len = (l ++ m).length := by rw [List.length_append, g1]
      rw [e, ← List.flatMap_append] at h1
      exact h1
end
/-- A string's bytes. -/
def bytesL (s : ByteArray) : List Int := s.data.toList.map fun b => (b.toNat : Int)
theorem bytesL_by (s : ByteArray) : By (bytesL s) := by
  intro n hn
  obtain ⟨b, _, rfl⟩ := List.mem_map.1 hn
  have := b.toNat_lt
  omega
theorem bytes_str {l : List Int} (h : By l) : bytesL (strOfNums l) = l := by
  simp only [bytesL, strOfNums_data, List.map_map]
  apply List.ext_getElem
  · simp
  · intro i h1 h2
    simp
    have := h _ (List.getElem_mem (l := l) (n := i) (by simpa using h2))
    rw [Int.emod_eq_of_lt] <;> omega
theorem str_inj {l m : List Int} (h : By l) (k : By m) (e : strOfNums l = strOfNums m) : l = m := by rw [← bytes_str h, ← bytes_str k, e]
theorem str_toList (l m : List Int) (h : By l) (k : By m) : ((strOfNums l).toList == (strOfNums m).toList) = decide (l = m) := by
  rw [Bool.eq_iff_iff, decide_eq_true_iff, beq_iff_eq]
  constructor
  · intro e
    apply str_inj h k
    have e2 : (strOfNums l).data.toList = (strOfNums m).data.toList := by rw [ByteArray.toList_eq, ByteArray.toList_eq] at e; exact e
    simpa [strOfNums] using e2
  · intro e; rw [e]
/-! Boxes -/
/-- A block of cells that may be written. -/
def BX (u : World) (g : Nat) (C : Array Value) (t : TypeId) : Prop := u.heap[g]? = some (.cells C t (0, 0))
theorem BX.below {u W : World} {g : Nat} {C : Array Value} {t : TypeId} (h : BX u g C t) (hb : Below u.heap.size u W) : BX W g C t := by
  unfold BX; rw [hb.block _ (Array.getElem?_eq_some_iff.1 h).1]; exact h
theorem BX.alloc {u : World} {g : Nat} {C : Array Value} {t : TypeId} (h : BX u g C t) (o : Obj) : BX (u.alloc o) g C t := h.below (bel1 u o)
theorem BX.new (u : World) (g : Nat) (hg : g = u.heap.size) (C : Array Value) (t : TypeId) : BX (u.alloc (.cells C t)) g C t := by subst hg; exact heap_alloc_new u _
theorem BX.size {u : World} {g : Nat} {C : Array Value} {t : TypeId} (h : BX u g C t) : g < u.heap.size := (Array.getElem?_eq_some_iff.1 h).1
theorem BX.cell {u : World} {g : Nat} {C : Array Value} {t : TypeId} (h : BX u g C t) (i : Nat) (v : Value) (hi : C[i]? = some v) : u.cell? ⟨g, i, none⟩ = some v := by
  rw [cell_of_row u _ _ _ _ _ h]; exact hi
theorem BX.free {u : World} {g : Nat} {C : Array Value} {t : TypeId} (h : BX u g C t) (i : Nat) : u.frozen? ⟨g, i, none⟩ = false := by
  unfold BX at h; simp [World.frozen?, h]
theorem BX.set {u : World} {g : Nat} {C : Array Value} {t : TypeId} (h : BX u g C t) (i : Nat) (v : Value) : BX (u.setCell ⟨g, i, none⟩ v) g (C.setIfInBounds i v) t := (set1 h (Below.refl g u) (Nat.le_refl _) i v).1
end Go.Proofs.YtadmibfnjhockaaDoor

namespace Go.Proofs.YtadmibfnjhockaaDoor
open Go.RowKit
set_option linter.unusedVariables false
/-- An event's cells. -/
abbrev Rv := Int × Int × (Option Addr × Nat × Nat) × (Option Addr × Nat × Nat)
def encV (x : Rv) : List Value := [.int .i64 x.1, .int .i64 x.2.1, .slice x.2.2.1.1 x.2.2.1.2.1 x.2.2.1.2.2, .slice x.2.2.2.1 x.2.2.2.2.1 x.2.2.2.2.2]
theorem encV_len (x : Rv) : (encV x).length = 4 := rfl
end Go.Proofs.YtadmibfnjhockaaDoor

namespace Go.Proofs.YtadmibfnjhockaaDoor
open Go.RowKit
set_option linter.unusedVariables false
theorem flat_ints (l : List Int) : l.flatMap (fun x => [Value.int .i64 x]) = l.map (Value.int .i64) := by
  induction l with
  | nil => rfl
  | cons x r ih => simp [ih]
theorem OwnN.rows {N : Nat} {w : World} {v : Value} {l : List Int} : OwnN N w v l ↔ OwnR (fun x => [Value.int .i64 x]) 1 3 N w v l := by
  unfold OwnN OwnR; rw [flat_ints]
end Go.Proofs.YtadmibfnjhockaaDoor

namespace Go.Proofs.YtadmibfnjhockaaDoor
open Go.RowKit
set_option linter.unusedVariables false
/-- All but one block is as it was. -/
def KP (g : Nat) (u W : World) : Prop := ∀ p v, u.cell? p = some v → p.block ≠ g → W.cell? p = some v
theorem KP.drew0 (g : Nat) (u : World) : KP g u u.drew := fun _ _ h _ => h
theorem KP.refl (g : Nat) (u : World) : KP g u u := fun _ _ h _ => h
theorem KP.drew {g : Nat} {u W : World} (h : KP g u W) : KP g u W.drew := h
theorem KP.set {g : Nat} {u W : World} (h : KP g u W) (i : Nat) (x : Value) : KP g u (W.setCell ⟨g, i, none⟩ x) := by
  intro p v hp hne
  have := h p v hp hne
  rw [World.cell?_setCell_far W ⟨g, i, none⟩ p x (fun e => hne e.symm)]
  exact this
theorem kcell {g : Nat} {u W : World} (h : KP g u W) {p : Addr} {v : Value} (hp : u.cell? p = some v) (hne : p.block ≠ g) : W.cell? p = some v := h p v hp hne
theorem BX.ne {u : World} {g : Nat} {C : Array Value} {t : TypeId} (h : BX u g C t) {p : Addr} {v : Value} (hp : u.cell? p = some v) (hv : ∀ i : Nat, C[i]? ≠ some v) : p.block ≠ g := by
  intro e
  obtain ⟨b, off, spot⟩ := p
  simp only at e
  subst e
  have hs := World.cell?_spot hp
  simp only at hs
  subst hs
  rw [cell_of_row u _ _ _ _ _ h] at hp
  exact hv off hp
theorem BX.drew {u : World} {g : Nat} {C : Array Value} {t : TypeId} (h : BX u g C t) : BX u.drew g C t := h
theorem BS.kp {g : Nat} {u W : World} {p : Option Addr} {n : Nat} {l : List Int} (h : BS u p n l) (hk : KP g u W) {C : Array Value} {t : TypeId} (hx : BX u g C t) (hv : ∀ (i : Nat) (n : Int), C[i]? ≠ some (Value.int .u8 n)) : BS W p n l := by
  obtain ⟨h1, h2, h3, h4⟩ := h
  refine ⟨h1, h2, h3, ?_⟩
  rcases h4 with h0 | ⟨b, off, ha, hc⟩
  · exact .inl h0
  · exact .inr ⟨b, off, ha, fun i hi => hk _ _ (hc i hi) (hx.ne (hc i hi) (fun j => hv j _))⟩
theorem KP.put2 {g : Nat} {u W : World} (h : KP g u W) (a b : Value) : KP g u ((W.setCell ⟨g, 0, none⟩ a).setCell ⟨g, 1, none⟩ b) := (h.set 0 a).set 1 b
theorem KP.put6 {g : Nat} {u W : World} (h : KP g u W) (a b c d e f : Value) : KP g u ((((((W.setCell ⟨g, 0, none⟩ a).setCell ⟨g, 1, none⟩ b).setCell ⟨g, 2, none⟩ c).setCell ⟨g, 3, none⟩ d).setCell ⟨g, 4, none⟩ e).setCell ⟨g, 5, none⟩ f) := (((((h.set 0 a).set 1 b).set 2 c).set 3 d).set 4 e).set 5 f
theorem BX.put2 {u : World} {g : Nat} {x y : Value} {t : TypeId} (h : BX u g #[x, y] t) (a b : Value) : ((u.setCell ⟨g, 0, none⟩ a).setCell ⟨g, 1, none⟩ b).heap[g]? = some (.cells #[a, b] t (0, 0)) := (h.set 0 a).set 1 b
theorem BX.put4 {u : World} {g : Nat} {x y z v : Value} {t : TypeId} (h : BX u g #[x, y, z, v] t) (a b c d : Value) : ((((u.setCell ⟨g, 0, none⟩ a).setCell ⟨g, 1, none⟩ b).setCell ⟨g, 2, none⟩ c).setCell ⟨g, 3, none⟩ d).heap[g]? = some (.cells #[a, b, c, d] t (0, 0)) := (((h.set 0 a).set 1 b).set 2 c).set 3 d
theorem BX.put6 {u : World} {g : Nat} {x y z v x' y' : Value} {t : TypeId} (h : BX u g #[x, y, z, v, x', y'] t) (a b c d e f : Value) : ((((((u.setCell ⟨g, 0, none⟩ a).setCell ⟨g, 1, none⟩ b).setCell ⟨g, 2, none⟩ c).setCell ⟨g, 3, none⟩ d).setCell ⟨g, 4, none⟩ e).setCell ⟨g, 5, none⟩ f).heap[g]? = some (.cells #[a, b, c, d, e, f] t (0, 0)) := (((((h.set 0 a).set 1 b).set 2 c).set 3 d).set 4 e).set 5 f
end Go.Proofs.YtadmibfnjhockaaDoor

namespace Go.Proofs.YtadmibfnjhockaaDoor
open Go.RowKit
set_option linter.unusedVariables false
section
variable {α : Type} {enc : α → List Value} {k : Nat} {T : TypeId}
theorem OwnR.off {N : Nat} {w : World} {v : Value} {l : List α} {g : Nat} {C : Array Value} {t : TypeId} (h : OwnR enc k T N w v l) (hx : BX w g C t) (hne : T ≠ t) : v.ownBlock ≠ some g := by
  rcases h.2 with ⟨rfl, _⟩ | ⟨g', cap, cur, rfl, _, hg, _⟩
  · intro hh; simp [Value.ownBlock] at hh
  · intro hh
    simp [Value.ownBlock] at hh
    subst hh
    unfold BX at hx
    rw [hg] at hx
    simp at hx
    exact hne hx.2
theorem OwnR.set {N : Nat} {w : World} {v : Value} {l : List α} {g : Nat} (h : OwnR enc k T N w v l) (ho : v.ownBlock ≠ some g) (i : Nat) (x : Value) : OwnR enc k T N (w.setCell ⟨g, i, none⟩ x) v l := by
  refine ⟨h.1, ?_⟩
  rcases h.2 with hn | ⟨g', cap, cur, rfl, hb', hgg, rest⟩
  · exact .inl hn
  · refine .inr ⟨g', cap, cur, rfl, hb', ?_, rest⟩
    have hne : g ≠ g' := fun e => ho (by simp [Value.ownBlock, e])
    rw [← hgg]
    simp [World.setCell, Array.getElem?_modify, hne]
end
theorem BX.grown {w w' : World} {r : Option Nat} {g : Nat} {C : Array Value} {t : TypeId} (h : BX w g C t) (hg : w.grownBy w' r) (hr : r ≠ some g) : BX w' g C t := by
  unfold BX
  rw [hg.block g h.size (fun e => hr e.symm)]
  exact h
theorem KP.put4 {g : Nat} {u W : World} (h : KP g u W) (a b c d : Value) : KP g u ((((W.setCell ⟨g, 0, none⟩ a).setCell ⟨g, 1, none⟩ b).setCell ⟨g, 2, none⟩ c).setCell ⟨g, 3, none⟩ d) := (((h.set 0 a).set 1 b).set 2 c).set 3 d
theorem NS.kp {g : Nat} {u W : World} {p : Option Addr} {n : Nat} {l : List Int} (h : NS u p n l) (hk : KP g u W) (hp : ∀ a, p = some a → a.block ≠ g) : NS W p n l := by
  obtain ⟨h1, h2, h4⟩ := h
  refine ⟨h1, h2, ?_⟩
  rcases h4 with h0 | ⟨b, off, ha, hc⟩
  · exact .inl h0
  · exact .inr ⟨b, off, ha, fun i hi => hk _ _ (hc i hi) (show b ≠ g from hp _ ha)⟩
end Go.Proofs.YtadmibfnjhockaaDoor

namespace Go.Proofs.YtadmibfnjhockaaDoor
open Go.RowKit
set_option linter.unusedVariables false
/-- The counts' cells. -/
def cellsC (l : List Int) : Array Value := (l.map (Value.int .i64)).toArray
theorem cellsC_get (l : List Int) (j : Nat) (hj : j < l.length) : (cellsC l)[j]? = some (.int .i64 (l.getD j 0)) := by
  simp [cellsC, List.getD_eq_getElem?_getD, hj]
theorem BX.nums {w : World} {g : Nat} {l : List Int} {t : TypeId} (h : BX w g (cellsC l) t) (hl : l.length = 5) : NS w (some ⟨g, 0, none⟩) 5 l := by
  refine ⟨hl, by decide, .inr ⟨g, 0, rfl, fun i hi => ?_⟩⟩
  rw [Nat.zero_add]
  exact h.cell i _ (cellsC_get l i (by omega))
end Go.Proofs.YtadmibfnjhockaaDoor

namespace Go.Proofs.YtadmibfnjhockaaDoor
open Go.RowKit
set_option linter.unusedVariables false
/-- A slice of bytes, with its room. -/
def TX (w : World) (v : Value) (l : List Int) : Prop := ∃ p n c, v = .slice p n c ∧ BS w p n l ∧ CP p n c
theorem TX.below {w w' : World} {v : Value} {l : List Int} (h : TX w v l) (hb : Below w.heap.size w w') : TX w' v l := by
  obtain ⟨p, n, c, h1, h2, h3⟩ := h
  exact ⟨p, n, c, h1, h2.below hb, h3⟩
theorem TX.alloc {w : World} {v : Value} {l : List Int} (h : TX w v l) (o : Obj) : TX (w.alloc o) v l := h.below (bel1 w o)
theorem Own.tx {N : Nat} {w : World} {v : Value} {l : List Int} (h : Own N w v l) (hl : By l) : TX w v l := by
  obtain ⟨p, cap, rfl, h1, h2⟩ := h.open hl
  exact ⟨p, _, cap, rfl, h1, h2⟩
theorem share_intro (P : Program) (md : Region.Mode) (ops : Array Oper) (Q : Exit → Act → World → Prop) (S : World → Prop) (f0 : Nat) (l0 : Array Bool) (a0 : Act) (w0 : World) (T : (Nat → Array Bool → Act → World → Prop) → Prop)
    (h1 : T (wpAnyH P md ops Q S)) (h2 : T (wpAnyH P md ops Q S) → wpAnyH P md ops Q S f0 l0 a0 w0) : wpAnyH P md ops Q S f0 l0 a0 w0 := h2 h1
theorem conv_bel (w : World) (e : TypeId) (s : ByteArray) : Below w.heap.size w (Lib.bytesWorld w e s) :=
  ⟨rfl, rfl, rfl, by rw [Lib.bytesWorld_size]; omega, fun k hk => Lib.bytesWorld_at_old w e s k hk⟩
theorem TX.conv {w : World} {v : Value} {l : List Int} (h : TX w v l) (s : ByteArray) : TX (Lib.bytesWorld w 5 s) v l := h.below (conv_bel w _ s)
theorem TX.made {u W : World} (h : Below u.heap.size u W) (s : ByteArray) (hs : s.size ≤ maxLen) : TX (Lib.bytesWorld W 5 s) (.slice (some ⟨W.heap.size, 0, none⟩) s.size (grownCap W s.size 0 5)) (bytesL s) := by
  refine ⟨_, _, _, rfl, ⟨by rw [bytesL, List.length_map]; rfl, hs, bytesL_by s, .inr ⟨_, 0, rfl, fun i hi => ?_⟩⟩, grownCap_ge _ _ _ _, grownCap_le_maxLen _ _ _ _ hs, fun h => by cases h⟩
  rw [Nat.zero_add, Lib.bytesWorld_cell W _ s i hi]
  have hi2 : i < s.data.toList.length := hi
  simp [bytesL, List.getD_eq_getElem?_getD, List.getElem?_map, List.getElem?_eq_getElem hi2]
end Go.Proofs.YtadmibfnjhockaaDoor

namespace Go.Proofs.YtadmibfnjhockaaDoor
open Go.RowKit Go.ChangeShapes Go.WideShapes
set_option linter.unusedVariables false
theorem addr_add (b off k : Nat) : (⟨b, off, none⟩ : Addr).add k = ⟨b, off + k, none⟩ := by
  by_cases hk : k = 0
  · subst hk; simp [Addr.add]
  · simp [Addr.add, hk]
section
variable {H : Type} {enc : TypeId × Value → H} {W : World}
end
end Go.Proofs.YtadmibfnjhockaaDoor

namespace Go.Proofs.YtadmibfnjhockaaDoor
open Go.RowKit
set_option linter.unusedVariables false
theorem KP.next {g : Nat} {u W w' : World} (h : KP g u W) (hb : Below W.heap.size W w') : KP g u w' := fun p v hp hne => bcell hb (h p v hp hne)
theorem NS.lt {w : World} {p : Option Addr} {n : Nat} {l : List Int} (h : NS w p n l) {g : Nat} (hg : w.heap.size ≤ g) : n = 0 ∨ ∀ a, p = some a → a.block ≠ g := by
  rcases Nat.eq_zero_or_pos n with h0 | hp
  · exact .inl h0
  · rcases h.2.2 with h0 | ⟨b, off, ha, hc⟩
    · exact .inl h0
    · refine .inr fun a ha' => ?_
      rw [ha] at ha'
      cases ha'
      have := World.block_lt_of_cell? w _ (hc 0 hp)
      simp only at this ⊢
      omega
theorem NS.kp0 {g : Nat} {u W : World} {p : Option Addr} {n : Nat} {l : List Int} (h : NS u p n l) (hk : KP g u W) (hp : n = 0 ∨ ∀ a, p = some a → a.block ≠ g) : NS W p n l := by
  rcases hp with h0 | hp
  · exact ⟨h.1, h.2.1, .inl h0⟩
  · exact h.kp hk hp
end Go.Proofs.YtadmibfnjhockaaDoor

namespace Go.Proofs.YtadmibfnjhockaaDoor
open Go.RowKit
set_option linter.unusedVariables false
/-- A slice of bytes whose block is one of bytes. -/
def TU (w : World) (v : Value) (l : List Int) : Prop := ∃ p n c, v = .slice p n c ∧ BS w p n l ∧ CP p n c ∧ ∀ a, p = some a → ∃ C fr, w.heap[a.block]? = some (.cells C 5 fr)
theorem TU.tx {w : World} {v : Value} {l : List Int} (h : TU w v l) : TX w v l := by
  obtain ⟨p, n, c, h1, h2, h3, _⟩ := h
  exact ⟨p, n, c, h1, h2, h3⟩
theorem TU.below {w w' : World} {v : Value} {l : List Int} (h : TU w v l) (hb : Below w.heap.size w w') : TU w' v l := by
  obtain ⟨p, n, c, h1, h2, h3, h4⟩ := h
  refine ⟨p, n, c, h1, h2.below hb, h3, fun a ha => ?_⟩
  obtain ⟨C, fr, hg⟩ := h4 a ha
  exact ⟨C, fr, by rw [hb.block _ (Array.getElem?_eq_some_iff.1 hg).1]; exact hg⟩
theorem TU.alloc {w : World} {v : Value} {l : List Int} (h : TU w v l) (o : Obj) : TU (w.alloc o) v l := h.below (bel1 w o)
theorem Own.tu {N : Nat} {w : World} {v : Value} {l : List Int} (h : Own N w v l) (hl : By l) : TU w v l := by
  obtain ⟨p, cap, hv, h1, h2⟩ := h.open hl
  refine ⟨p, _, cap, hv, h1, h2, fun a ha => ?_⟩
  subst ha
  rcases h.2 with ⟨hh, _⟩ | ⟨g, cap', cur, hh, _, hg, _⟩
  · rw [hv] at hh; cases hh
  · rw [hv] at hh; cases hh; exact ⟨_, _, hg⟩
theorem TU.conv {w : World} {v : Value} {l : List Int} (h : TU w v l) (s : ByteArray) : TU (Lib.bytesWorld w 5 s) v l := h.below (conv_bel w _ s)
theorem TU.made {u W : World} (h : Below u.heap.size u W) (s : ByteArray) (hs : s.size ≤ maxLen) : TU (Lib.bytesWorld W 5 s) (.slice (some ⟨W.heap.size, 0, none⟩) s.size (grownCap W s.size 0 5)) (bytesL s) := by
  obtain ⟨p, n, c, h1, h2, h3⟩ := TX.made h s hs
  refine ⟨p, n, c, h1, h2, h3, fun a ha => ?_⟩
  cases h1
  cases ha
  exact ⟨_, _, Lib.bytesWorld_at_new W _ s⟩
theorem TU.grown {w w' : World} {v x : Value} {l : List Int} {N n : Nat} {xs : List Value} (h : TU w v l) (hg : w.grownBy w' x.ownBlock) (hx : w.ownsRow N 90 1 x n xs) : TU w' v l := by
  obtain ⟨p, m, c, h1, h2, h3, h4⟩ := h
  have hne : ∀ a, p = some a → w'.heap[a.block]? = w.heap[a.block]? := by
    intro a ha
    obtain ⟨C, fr, hh⟩ := h4 a ha
    refine hg.block _ (Array.getElem?_eq_some_iff.1 hh).1 ?_
    intro e
    rcases hx.2 with ⟨rfl, _⟩ | ⟨g, cap, cur, rfl, _, hgg, _⟩
    · cases e
    · simp [Value.ownBlock] at e
      rw [e, hgg] at hh
      simp at hh
  refine ⟨p, m, c, h1, ?_, h3, fun a ha => ?_⟩
  · obtain ⟨k1, k2, k3, k4⟩ := h2
    refine ⟨k1, k2, k3, ?_⟩
    rcases k4 with h0 | ⟨b, off, ha, hc⟩
    · exact .inl h0
    · refine .inr ⟨b, off, ha, fun i hi => ?_⟩
      rw [World.cell?_of_block (a := ⟨b, off + i, none⟩) (show w'.heap[b]? = w.heap[b]? from hne _ ha)]
      exact hc i hi
  · obtain ⟨C, fr, hh⟩ := h4 a ha
    exact ⟨C, fr, by rw [hne a ha]; exact hh⟩
theorem gcell {r : Option Nat} {u W : World} (h : u.grownBy W r) {p : Addr} {v : Value} (hp : u.cell? p = some v) (hne : some p.block ≠ r) : W.cell? p = some v := by
  rw [World.cell?_of_block (h.block _ (World.block_lt_of_cell? u _ hp) hne)]; exact hp
theorem NS.conv {w : World} {a : Option Addr} {n : Nat} {l : List Int} (h : NS w a n l) (s : ByteArray) : NS (Lib.bytesWorld w 5 s) a n l := h.below (conv_bel w _ s)
end Go.Proofs.YtadmibfnjhockaaDoor

namespace Go.Proofs.YtadmibfnjhockaaDoor
open Go.RowKit
set_option linter.unusedVariables false
/-- All but two blocks are as they were. -/
def KR (g : Nat) (r : Option Nat) (u W : World) : Prop := ∀ p v, u.cell? p = some v → p.block ≠ g → some p.block ≠ r → W.cell? p = some v
theorem KR.drew0 (g : Nat) (r : Option Nat) (u : World) : KR g r u u.drew := fun _ _ h _ _ => h
theorem KR.alloc {g : Nat} {r : Option Nat} {u W : World} (h : KR g r u W) (o : Obj) : KR g r u (W.alloc o) := fun p v hp h1 h2 => cell_old o (h p v hp h1 h2)
theorem KR.grown {g : Nat} {r : Option Nat} {u W W' : World} (h : KR g r u W) (k : W.grownBy W' r) : KR g r u W' := fun p v hp h1 h2 => gcell k (h p v hp h1 h2) h2
theorem KR.set {g : Nat} {r : Option Nat} {u W : World} (h : KR g r u W) (i : Nat) (x : Value) : KR g r u (W.setCell ⟨g, i, none⟩ x) := by
  intro p v hp h1 h2
  rw [World.cell?_setCell_far W ⟨g, i, none⟩ p x (fun e => h1 e.symm)]
  exact h p v hp h1 h2
theorem BS.kr {g : Nat} {r : Option Nat} {u W : World} {p : Option Addr} {n : Nat} {l : List Int} (h : BS u p n l) (hk : KR g r u W) (hf : ∀ a, p = some a → a.block ≠ g ∧ some a.block ≠ r) : BS W p n l := by
  obtain ⟨h1, h2, h3, h4⟩ := h
  refine ⟨h1, h2, h3, ?_⟩
  rcases h4 with h0 | ⟨b, off, ha, hc⟩
  · exact .inl h0
  · exact .inr ⟨b, off, ha, fun i hi => hk _ _ (hc i hi) (hf _ ha).1 (hf _ ha).2⟩
end Go.Proofs.YtadmibfnjhockaaDoor

namespace Go.Proofs.YtadmibfnjhockaaDoor
open Go.RowKit
theorem PS.one {W : World} {n : Nat} {a1 : Option Addr} {len1 c1 : Nat} {l1 : List Int} (h0 : W.cell? ⟨n, 0, Option.none⟩ = some (.slice a1 len1 c1)) (b1 : BS W a1 len1 l1) :
    PS W (some ⟨n, 0, Option.none⟩) 1 [l1] := by
  refine ⟨rfl, by decide, .inr ⟨n, 0, rfl, fun i hi => ?_⟩⟩
  match i, hi with
  | 0, _ => exact ⟨a1, len1, c1, h0, b1⟩
theorem BS.four {W : World} {n : Nat} {x0 x1 x2 x3 : Int} (h0 : W.cell? ⟨n, 0, Option.none⟩ = some (.int .u8 x0)) (h1 : W.cell? ⟨n, 1, Option.none⟩ = some (.int .u8 x1))
    (h2 : W.cell? ⟨n, 2, Option.none⟩ = some (.int .u8 x2)) (h3 : W.cell? ⟨n, 3, Option.none⟩ = some (.int .u8 x3)) (hb : ∀ x ∈ [x0, x1, x2, x3], 0 ≤ x ∧ x < 256) : BS W (some ⟨n, 0, Option.none⟩) 4 [x0, x1, x2, x3] := by
  refine ⟨rfl, by decide, hb, .inr ⟨n, 0, rfl, fun i hi => ?_⟩⟩
  match i, hi with
  | 0, _ => exact h0
  | 1, _ => exact h1
  | 2, _ => exact h2
  | 3, _ => exact h3
end Go.Proofs.YtadmibfnjhockaaDoor

namespace Go.Proofs.YtadmibfnjhockaaDoor
open Go.RowKit Go.Lib Go.Sort
set_option linter.unusedVariables false
section
variable {α β : Type} {lt : α → α → Bool} {lt' : β → β → Bool}
end
theorem CP.none0 : CP none 0 0 := ⟨Nat.le_refl _, by decide, fun _ => rfl⟩
end Go.Proofs.YtadmibfnjhockaaDoor

namespace Go.Proofs.YtadmibfnjhockaaDoor
open Go.RowKit Go.Lib Go.Sort
set_option linter.unusedVariables false
theorem NS.grownT {w w' : World} {r : Option Nat} {p : Option Addr} {n : Nat} {l : List Int} (h : NS w p n l) (hg : w.grownBy w' r) (hr : ∀ a, p = some a → some a.block ≠ r) : NS w' p n l := by
  refine ⟨h.1, h.2.1, ?_⟩
  rcases h.2.2 with h0 | ⟨b, off, ha, hc⟩
  · exact .inl h0
  · refine .inr ⟨b, off, ha, fun i hi => ?_⟩
    have := World.block_lt_of_cell? w _ (hc i hi)
    rw [World.cell?_of_block (hg.block b this (hr _ ha))]
    exact hc i hi
end Go.Proofs.YtadmibfnjhockaaDoor

namespace Go.Proofs.YtadmibfnjhockaaDoor
open Go.RowKit
set_option linter.unusedVariables false
theorem RS.head {w : World} {g n : Nat} {l : List Rv} (h : RS encV 4 w (some ⟨g, 0, none⟩) n l) (k : Nat) (hk : k ≤ n) : RS encV 4 w (some ⟨g, 0, none⟩) k (l.take k) := by
  refine ⟨by rw [List.length_take, h.1]; omega, by have := h.2.1; omega, ?_⟩
  rcases h.2.2 with h0 | ⟨b, off, hh, hc⟩
  · exact .inl (by omega)
  · refine .inr ⟨b, off, hh, fun i x hx j v hj => ?_⟩
    rw [List.getElem?_take] at hx
    split at hx
    · exact hc i x hx j v hj
    · cases hx
theorem RS.tail4 {w : World} {g n : Nat} {l : List Rv} (h : RS encV 4 w (some ⟨g, 0, none⟩) n l) (k : Nat) (hk : k ≤ n) : RS encV 4 w (some ⟨g, k * 4, none⟩) (n - k) (l.drop k) := by
  have q := h.mid k hk
  rwa [Nat.zero_add] at q
theorem RS.none0 {w : World} (a : Option Addr) {l : List Rv} (h : l = []) : RS encV 4 w a 0 l := by rw [h]; exact RS.nil w a
end Go.Proofs.YtadmibfnjhockaaDoor

namespace Go.Proofs.YtadmibfnjhockaaDoor
open Go.RowKit
theorem BS.own {w : World} {N g len cp : Nat} {cs : List Int} (h : w.ownsRow N 5 1 (.slice (some ⟨g, 0, Option.none⟩) len cp) len (cs.map (Value.int .u8))) (hb : ∀ y ∈ cs, 0 ≤ y ∧ y < 256) (hm : len ≤ maxLen) :
    BS w (some ⟨g, 0, Option.none⟩) len cs := by
  have hl : cs.length = len := by have := h.1; simp only [List.length_map] at this; omega
  refine ⟨hl, hm, hb, .inr ⟨g, 0, rfl, fun i hi => ?_⟩⟩
  rw [Nat.zero_add, h.cellAt i (by omega)]
  subst hl
  simp [List.getD_eq_getElem?_getD, hi]
end Go.Proofs.YtadmibfnjhockaaDoor

namespace Go.Proofs.YtadmibfnjhockaaDoor
open Go.RowKit Go.ChangeShapes Go.WideShapes
set_option linter.unusedVariables false
/-- Bytes that came in. -/
def InB (w : World) (v : Value) : Prop := ∃ a len cap l, v = .slice a len cap ∧ BS w a len l ∧ CP a len cap ∧ len ≤ 140737488351232
set_option maxRecDepth 100000 in
theorem byte_wf {n : Int} (h : (Lit.int .u8 n).wf = true) : 0 ≤ n ∧ n < 256 := by
  simp [Lit.wf, IntKind.min, IntKind.max, IntKind.bits, IntKind.signed] at h
  omega
set_option maxRecDepth 100000 in
theorem bs_of_cells {w : World} {x : Addr} {len cap : Nat} {zs : List Int} (hl : len ≤ cap) (hm : cap ≤ maxLen) (hz : zs.length = cap) (hcell : ∀ i, i < cap → w.cell? (x.add i) = some (.int .u8 (zs.getD i 0))) (hwz : ∀ n ∈ zs, (Lit.int .u8 n).wf = true) :
    BS w (some x) len (zs.take len) := by
  refine ⟨by rw [List.length_take]; omega, by omega, fun n hn => byte_wf (hwz n (List.mem_of_mem_take hn)), ?_⟩
  rcases Nat.eq_zero_or_pos len with h0 | hp
  · exact .inl h0
  · obtain ⟨b, off, spot⟩ := x
    have hspot : spot = none := by simpa [Addr.add] using World.cell?_spot (hcell 0 (by omega))
    subst hspot
    refine .inr ⟨b, off, rfl, fun i hi => ?_⟩
    have h1 := hcell i (by omega)
    have h2 : (zs.take len).getD i 0 = zs.getD i 0 := by simp [List.getD_eq_getElem?_getD, hi]
    rw [h2]
    by_cases hi0 : i = 0
    · subst hi0; simpa [Addr.add] using h1
    · simpa [Addr.add, hi0] using h1
set_option maxRecDepth 100000 in
theorem Tryd.bytesU8 : Tryd.prog.bytesOf 5 = 1 := by kernel_rfl
section
variable {H : Type} {enc : TypeId × Value → H} {W : World}
set_option maxRecDepth 100000 in
theorem in_bytes {v : Value} {d : DataW H} {p : List MemPlace} {base : Nat} (hok : Value.okWide Tryd.prog W .any base 90 v) (h : DataW.Trod enc Tryd.prog W 0 (fun _ => true) true 90 v d p) (hw : ∀ n ∈ d.weights Tryd.prog 90, n ≤ reachBytes) : InB W v := by
  obtain ⟨a, len, cap, rfl⟩ := okWide_slice Tryd.underlying90 hok
  obtain ⟨fuel, hf⟩ := h
  rcases open_ints Tryd.underlying90 Tryd.underlying5 (by kernel_rfl) hf with ⟨hcs, _⟩ | ⟨x, l, c, zs, hcs, _, hl, hm, hz, hx, hcell, hwz⟩
  · simp [Value.cells] at hcs
    obtain ⟨rfl, rfl, rfl⟩ := hcs
    exact ⟨_, _, _, [], rfl, BS.nil _ _, ⟨Nat.le_refl _, by decide, fun _ => rfl⟩, by omega⟩
  · simp [Value.cells] at hcs
    obtain ⟨rfl, rfl, rfl⟩ := hcs
    simp at hz
    simp only [Prod.mk.injEq] at hx
    obtain ⟨rfl, _⟩ := hx
    have h1 := hw ((zs.take len).length + (zs.drop len).length) (by simp [DataW.weights, Tryd.underlying90, Tryd.bytesU8, lits])
    have h2 : reachBytes = 140737488351232 := rfl
    rw [← List.length_append, List.take_append_drop, h2] at h1
    exact ⟨_, _, _, zs.take len, rfl, bs_of_cells hl hm hz (fun i hi => hcell i (by omega)) hwz, ⟨hl, hm, fun h => by cases h⟩, by omega⟩
set_option maxRecDepth 100000 in
theorem mem_weightsAll {P : Program} {e : TypeId} {n : Nat} : ∀ {ds : List (DataW H)} {d : DataW H}, d ∈ ds → n ∈ d.weights P e → n ∈ DataW.weightsAll P e ds
  | d0 :: r, d, hd, hn => by
    simp only [DataW.weightsAll, List.mem_append]
    rcases List.mem_cons.1 hd with rfl | hd
    · exact .inl hn
    · exact .inr (mem_weightsAll hd hn)
end
end Go.Proofs.YtadmibfnjhockaaDoor

namespace Go.Proofs.YtadmibfnjhockaaDoor
open Go.RowKit
theorem BS.held {W0 W : World} {p : Addr} {v : Value} {a : Option Addr} {n : Nat} {l : List Int} (hB : BS W0 a n l) (h : W.cell? p = some v ∧ Hid (Below W0.heap.size W0 W)) : BS W a n l := hB.below h.2.out
end Go.Proofs.YtadmibfnjhockaaDoor

namespace Go.Proofs.YtadmibfnjhockaaDoor
open Go.RowKit
set_option linter.unusedVariables false
theorem Own.none (N : Nat) (w : World) : Own N w (.slice Option.none 0 0) [] := ⟨rfl, .inl ⟨rfl, rfl⟩⟩
end Go.Proofs.YtadmibfnjhockaaDoor

