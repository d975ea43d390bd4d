/- Texts of this claim, joined: AB4. -/
import Derived.Laws.AppendOwnNone
import Derived.Laws.BytesArg
import Derived.Shelf.SlSortCmp.WholeK
import Derived.Test.YtkbbegbpkndebaaGreatProg
import Derived.Shelf.SlSortCmp.NoneTotal
import Derived.Lib.SlicesCompact
import Derived.Lib.SliceRun
import Derived.Test.YtkbbegbpkndebaaGreatJ1
import Derived.Test.YtkbbegbpkndebaaGreatJ2
import Derived.Test.YtkbbegbpkndebaaGreatJ3
/- What is said of memory and of numbers, gathered (WOwn, DMath, DLay, DOrd, DFun7). -/
namespace Go.Proofs.YtkbbegbpkndebaaGreat
open Go.RowKit
theorem CP.some {a : Addr} {n c : Nat} (h : n ≤ c) (hc : c ≤ maxLen) : CP (some a) n c := ⟨h, hc, fun h => by cases h⟩
end Go.Proofs.YtkbbegbpkndebaaGreat

namespace Go.Proofs.YtkbbegbpkndebaaGreat
theorem ordD_len (l : List Dot) : (ordD l).length ≤ l.length := by have := foldl_putD_len l []; simpa [ordD] using this
end Go.Proofs.YtkbbegbpkndebaaGreat

namespace Go.Proofs.YtkbbegbpkndebaaGreat
open Go.Shelf
def sortD_ren : Go.Shelf.Ren := ⟨fun | 6 => 221 | 15 => 238 | 14 => 237 | 28 => 258 | 29 => 185 | 20 => 250 | 21 => 251 | 22 => 252 | 23 => 253 | 24 => 254 | 25 => 255 | 26 => 256 | 27 => 257 | 46 => 267 | 47 => 268 | 48 => 269 | 49 => 270 | 50 => 271 | 57 => 272 | n => n, fun | 22 => 123 | 24 => 33 | 25 => 225 | 3 => 3 | 39 => 217 | 0 => 0 | 53 => 253 | 55 => 176 | 4 => 4 | 46 => 247 | 45 => 246 | 50 => 218 | 5 => 5 | 9 => 9 | 66 => 259 | 70 => 263 | 76 => 265 | 77 => 266 | n => n, fun | n => n⟩
theorem sortD : Go.Proofs.SlLaysF0.n6 Tryz.prog sortD_ren := {
 mixed := by kernel_rfl,
 f6 := ⟨Tryz.f221.name, by decide, Tryz.func221.trans (congrArg some (by kernel_rfl))⟩,
 f14 := ⟨Tryz.f237.name, by decide, Tryz.func237.trans (congrArg some (by kernel_rfl))⟩,
 f15 := Tryz.func238.trans (congrArg some (by kernel_rfl)),
 f20 := ⟨Tryz.f250.name, by decide, Tryz.func250.trans (congrArg some (by kernel_rfl))⟩,
 f21 := ⟨Tryz.f251.name, by decide, Tryz.func251.trans (congrArg some (by kernel_rfl))⟩,
 f22 := ⟨Tryz.f252.name, by decide, Tryz.func252.trans (congrArg some (by kernel_rfl))⟩,
 f23 := ⟨Tryz.f253.name, by decide, Tryz.func253.trans (congrArg some (by kernel_rfl))⟩,
 f24 := ⟨Tryz.f254.name, by decide, Tryz.func254.trans (congrArg some (by kernel_rfl))⟩,
 f25 := ⟨Tryz.f255.name, by decide, Tryz.func255.trans (congrArg some (by kernel_rfl))⟩,
 f26 := ⟨Tryz.f256.name, by decide, Tryz.func256.trans (congrArg some (by kernel_rfl))⟩,
 f27 := ⟨Tryz.f257.name, by decide, Tryz.func257.trans (congrArg some (by kernel_rfl))⟩,
 f28 := Tryz.func258.trans (congrArg some (by kernel_rfl)),
 f29 := Tryz.func185.trans (congrArg some (by kernel_rfl)),
 f46 := ⟨Tryz.f267.name, by decide, Tryz.func267.trans (congrArg some (by kernel_rfl))⟩,
 f47 := Tryz.func268.trans (congrArg some (by kernel_rfl)),
 f48 := Tryz.func269.trans (congrArg some (by kernel_rfl)),
 f49 := ⟨Tryz.f270.name, by decide, Tryz.func270.trans (congrArg some (by kernel_rfl))⟩,
 f50 := ⟨Tryz.f271.name, by decide, Tryz.func271.trans (congrArg some (by kernel_rfl))⟩,
 f57 := ⟨Tryz.f272.name, by decide, Tryz.func272.trans (congrArg some (by kernel_rfl))⟩,
 t0 := Tryz.underlying0,
 a0 := Tryz.isAgg0,
 z0 := Tryz.sizeOf0,
 v0 := Tryz.zeroValue0,
 t3 := Tryz.underlying3,
 a3 := Tryz.isAgg3,
 z3 := Tryz.sizeOf3,
 v3 := Tryz.zeroValue3,
 t4 := Tryz.underlying4,
 a4 := Tryz.isAgg4,
 z4 := Tryz.sizeOf4,
 v4 := Tryz.zeroValue4,
 t5 := Tryz.underlying5,
 a5 := Tryz.isAgg5,
 z5 := Tryz.sizeOf5,
 v5 := Tryz.zeroValue5,
 t9 := Tryz.underlying9,
 a9 := Tryz.isAgg9,
 z9 := Tryz.sizeOf9,
 v9 := Tryz.zeroValue9,
 t22 := Tryz.underlying123,
 a22 := Tryz.isAgg123,
 z22 := Tryz.sizeOf123,
 v22 := Tryz.zeroValue123,
 t25 := Tryz.underlying225,
 a25 := Tryz.isAgg225,
 z25 := Tryz.sizeOf225,
 v25 := Tryz.zeroValue225,
 t39 := Tryz.underlying217,
 a39 := Tryz.isAgg217,
 z39 := Tryz.sizeOf217,
 v39 := Tryz.zeroValue217,
 t45 := Tryz.underlying246,
 a45 := Tryz.isAgg246,
 z45 := Tryz.sizeOf246,
 v45 := Tryz.zeroValue246,
 t46 := Tryz.underlying247,
 a46 := Tryz.isAgg247,
 z46 := Tryz.sizeOf247,
 v46 := Tryz.zeroValue247,
 t50 := Tryz.underlying218,
 a50 := Tryz.isAgg218,
 z50 := Tryz.sizeOf218,
 v50 := Tryz.zeroValue218,
 t53 := Tryz.underlying253,
 a53 := Tryz.isAgg253,
 z53 := Tryz.sizeOf253,
 v53 := Tryz.zeroValue253,
 t55 := Tryz.underlying176,
 a55 := Tryz.isAgg176,
 z55 := Tryz.sizeOf176,
 v55 := Tryz.zeroValue176,
 t66 := Tryz.underlying259,
 a66 := Tryz.isAgg259,
 z66 := Tryz.sizeOf259,
 v66 := Tryz.zeroValue259,
 t70 := Tryz.underlying263,
 a70 := Tryz.isAgg263,
 z70 := Tryz.sizeOf263,
 v70 := Tryz.zeroValue263,
 t76 := Tryz.underlying265,
 a76 := Tryz.isAgg265,
 z76 := Tryz.sizeOf265,
 v76 := Tryz.zeroValue265,
 t77 := Tryz.underlying266,
 a77 := Tryz.isAgg266,
 z77 := Tryz.sizeOf266,
 v77 := Tryz.zeroValue266 }
end Go.Proofs.YtkbbegbpkndebaaGreat

namespace Go.Proofs.YtkbbegbpkndebaaGreat
open Go.RowKit Go.Lib Go.Sort
set_option linter.unusedVariables false
theorem ltOf_cmpD (x y : Dot) : ltOf cmpD x y = lessD x y := by
 unfold ltOf; rw [Bool.eq_iff_iff, decide_eq_true_iff]; exact cmpD_lt
theorem swoD : SWO (ltOf cmpD) where
 irrefl x := by rw [ltOf_cmpD]; exact lessD_irr x
 trans x y z h1 h2 := by rw [ltOf_cmpD] at *; exact lessD_trans h1 h2
 ntrans x y z h1 h2 := by
  rw [ltOf_cmpD] at *
  simp only [lessD, decide_eq_false_iff_not] at *
  omega
theorem compact_upto (d : Array Dot) (hs : ∀ i j, i < j → j < d.size → lessD d[j]! d[i]! = false) : ∀ m, m ≤ d.size → SrtD (compactUpTo d m) ∧ ∀ x, x ∈ compactUpTo d m ↔ ∃ j, j < m ∧ d[j]! = x
 | 0, _ => by simp [compactUpTo, SrtD]
 | m + 1, hm => by
  obtain ⟨h1, h2⟩ := compact_upto d hs m (by omega)
  rw [compactUpTo_succ]
  by_cases hk : keeps d m = true
  ·rw [if_pos hk]
   refine ⟨List.pairwise_append.2 ⟨h1, by simp, fun x hx y hy => ?_⟩, fun x => ?_⟩
   ·rw [List.mem_singleton] at hy
    subst hy
    obtain ⟨j, hj, rfl⟩ := (h2 x).1 hx
    have q1 := hs j m hj (by omega)
    rcases lessD_tri d[j]! d[m]! with q | q | q
    ·exact q
    ·exfalso
     have hk' : d[m]! ≠ d[m - 1]! := by
      unfold keeps at hk
      simp only [decide_eq_true_eq] at hk
      rcases hk with k | k
      ·omega
      ·exact k
     by_cases e : j = m - 1
     ·rw [e] at q; exact hk' q.symm
     ·have q2 := hs j (m - 1) (by omega) (by omega)
      have q3 := hs (m - 1) m (by omega) (by omega)
      rw [q] at q2
      rcases lessD_tri d[m - 1]! d[m]! with z | z | z
      ·rw [z] at q2; cases q2
      ·exact hk' z.symm
      ·rw [z] at q3; cases q3
    ·rw [q] at q1; cases q1
   ·rw [List.mem_append, List.mem_singleton, h2 x]
    constructor
    ·rintro (⟨j, hj, e⟩ | e)
     ·exact ⟨j, by omega, e⟩
     ·exact ⟨m, by omega, e.symm⟩
    ·rintro ⟨j, hj, e⟩
     by_cases e2 : j = m
     ·subst e2; exact .inr e.symm
     ·exact .inl ⟨j, by omega, e⟩
  ·rw [if_neg hk, List.append_nil]
   refine ⟨h1, fun x => ?_⟩
   rw [h2 x]
   have hk' : 0 < m ∧ d[m]! = d[m - 1]! := by
    unfold keeps at hk
    simp only [decide_eq_true_eq, not_or, ne_eq, Decidable.not_not] at hk
    exact ⟨by omega, hk.2⟩
   constructor
   ·rintro ⟨j, hj, e⟩
    exact ⟨j, by omega, e⟩
   ·rintro ⟨j, hj, e⟩
    by_cases e2 : j = m
    ·subst e2; exact ⟨j - 1, by omega, by rw [← hk'.2]; exact e⟩
    ·exact ⟨j, by omega, e⟩
theorem mem_get (d : Array Dot) (x : Dot) : x ∈ d.toList ↔ ∃ j, j < d.size ∧ d[j]! = x := by
 constructor
 ·intro h
  obtain ⟨j, hj, e⟩ := List.getElem_of_mem h
  exact ⟨j, by simpa using hj, by rw [getElem!_pos d j (by simpa using hj)]; simpa using e⟩
 ·rintro ⟨j, hj, rfl⟩
  rw [getElem!_pos d j hj]
  simp
theorem compact_ord {l : List Dot} {d : Array Dot} (hp : PermIn 0 l.toArray.size l.toArray d) (hs : SortedIn (ltOf cmpD) 0 l.toArray.size d) : compactUpTo d d.size = ordD l := by
 obtain ⟨hsz, _, hperm⟩ := hp
 have e1 : (d.extract 0 l.toArray.size).toList = d.toList := by rw [← hsz]; simp
 have e2 : (l.toArray.extract 0 l.toArray.size).toList = l := by simp
 rw [e1, e2] at hperm
 have h := compact_upto d (fun i j hij hj => by rw [← ltOf_cmpD]; exact hs i j (Nat.zero_le _) hij (by rw [← hsz]; exact hj)) d.size (Nat.le_refl _)
 refine ordD_is h.1 fun x => ?_
 rw [h.2 x, ← mem_get]
 exact hperm.mem_iff
theorem HD.to {w : World} {g : Nat} {d : Array Dot} (h : HD w g d) : HoldsK encD 2 w g 0 d := by
 intro j hj
 rw [size_flatK] at hj
 rw [get_flatK _ _ _ _ hj, Nat.zero_add]
 have k := h (j / 2) (by omega)
 rcases Nat.mod_two_eq_zero_or_one j with e | e
 ·have e2 : j = j / 2 * 2 := by omega
  rw [e]
  constructor
  ·rw [show (⟨g, j, none⟩ : Addr) = ⟨g, j / 2 * 2, none⟩ by rw [← e2], k.1]; rfl
  ·rw [show (⟨g, j, none⟩ : Addr) = ⟨g, j / 2 * 2, none⟩ by rw [← e2]]; exact k.2.2.1
 ·have e2 : j = j / 2 * 2 + 1 := by omega
  rw [e]
  constructor
  ·rw [show (⟨g, j, none⟩ : Addr) = ⟨g, j / 2 * 2 + 1, none⟩ by rw [← e2], k.2.1]; rfl
  ·rw [show (⟨g, j, none⟩ : Addr) = ⟨g, j / 2 * 2 + 1, none⟩ by rw [← e2]]; exact k.2.2.2
theorem HD.of {w : World} {g : Nat} {d : Array Dot} (h : HoldsK encD 2 w g 0 d) : HD w g d := by
 intro i hi
 have a := h.cell (c := 0) hi (by omega)
 have b := h.cell (c := 1) hi (by omega)
 rw [Nat.zero_add, Nat.add_zero] at a
 rw [Nat.zero_add] at b
 exact ⟨a.1, b.1, a.2, b.2⟩
theorem heap_put_other (w : World) (g k : Nat) (d : Array Dot) (h : k ≠ g) : (putRowK encD 2 w g 0 d).heap[k]? = w.heap[k]? := by
 unfold putRowK putRow mapBlock
 simp only [Array.getElem?_modify]
 rw [if_neg (fun e => h e.symm)]
theorem bel_sort (w : World) (N g n : Nat) (d : Array Dot) (os : Array Obj) (hN : N ≤ g) (hg : g < w.heap.size) : Below N w (sortWorldK encD 2 w g 0 n d os) := by
 refine ⟨rfl, rfl, rfl, size_sortWorldK_c encD 2 w g 0 n d os, fun k hk => ?_⟩
 unfold sortWorldK
 rw [heap_grow_old _ _ (by rw [size_putRowK]; show k < w.heap.size; omega), heap_put_other _ _ _ _ (by omega)]
 rfl
theorem cmpLaysD (blk off size : Nat) (w : World) : CmpLays Tryz.prog 222 #[] encD 2 cmpD blk off size w :=
 fun _ _ _ _ x y => compare_any x y _
theorem sort_any (N g cap : Nat) (l : List Dot) (w : World) (hN : N ≤ g) (hg : g < w.heap.size) (hH : HD w g l.toArray) (hl : l.length ≤ 1000000) :
  Calls Tryz.prog 221 #[.slice (some ⟨g, 0, none⟩) l.length cap, .func (.func 222) #[] #[]] w fun e w' => e = .returned (.tuple #[]) ∧ Below N w w' ∧ g < w'.heap.size ∧ ∃ d : Array Dot, d.size = l.length ∧ HD w' g d ∧ compactUpTo d d.size = ordD l := by
 have eg : ∀ args w, (callFunc 222 args).run Tryz.prog w = .ok (.enter 222 args) w := enters_of Tryz.func222 (by kernel_rfl) rfl
 have hcon := AnyQ.slices_SortFunc sortD 2 Tryz.isAgg33 Tryz.sizeOf33 encD (fun _ => rfl) (fun x v hv => by simp [encD] at hv; rcases hv with rfl | rfl <;> rfl) cmpD swoD 222 #[] g 0 cap l.toArray w eg (cmpLaysD g 0 _ w) hH.to hg (by simp; omega)
 change Calls Tryz.prog 221 _ _ _ at hcon
 refine Calls.mono hcon ?_
 rintro e w' ⟨rfl, d', n, os, hp, hs, rfl⟩
 have hsz : d'.size = l.toArray.size := hp.1
 exact ⟨rfl, bel_sort w N g n d' os hN hg, Nat.lt_of_lt_of_le hg (size_sortWorldK_c encD 2 w g 0 n d' os), d', hsz, HD.of (holdsK_sortWorldK_c encD 2 w g 0 l.toArray d' n os hH.to hg hsz), compact_ord hp hs⟩
end Go.Proofs.YtkbbegbpkndebaaGreat

namespace Go.Proofs.YtkbbegbpkndebaaGreat
open Go.RowKit Go.Lib Go.Sort
set_option linter.unusedVariables false
theorem compact_done {d dk : Array Dot} {n kk : Nat} {w : World} {g : Nat} (hd : d.size = n) (hI : CompInv d n kk dk) (hH : HD w g dk) (hm : n ≤ maxLen) :
  kk = (compactUpTo d d.size).length ∧ DS (w.setCells g (kk * 2) (List.replicate ((n - kk) * 2) (.int .i64 0))) (some ⟨g, 0, none⟩) (compactUpTo d d.size).length (compactUpTo d d.size) := by
 have hs := hI.size
 rw [hd]
 have e := hI.len
 refine ⟨e.symm, rfl, by rw [e]; have := hI.lt; omega, .inr ⟨g, 0, rfl, fun i hi => ?_⟩⟩
 rw [e] at hi
 have e2 : (compactUpTo d n).getD i (0, 0) = dk[i]! := by rw [List.getD_eq_getElem?_getD, hI.low i hi]; rfl
 have q := hH i (by have := hI.lt; omega)
 rw [e2, Nat.zero_add]
 rw [World.cell?_setCells_out g _ _ _ _ (fun _ _ => Or.inl (by show i * 2 < kk * 2; omega)), World.cell?_setCells_out g _ _ _ _ (fun _ _ => Or.inl (by show i * 2 + 1 < kk * 2; omega))]
 exact ⟨q.1, q.2.1⟩
set_option maxHeartbeats 4000000 in
set_option maxRecDepth 100000 in
theorem compact_any (N g cap n : Nat) (d : Array Dot) (w : World) (hd : d.size = n) (hnc : n ≤ cap) (hcm : cap ≤ maxLen) (hN : N ≤ g) (hH : HD w g d) (hn1 : n ≤ 1000000) :
  Calls Tryz.prog 223 #[.slice (some ⟨g, 0, none⟩) n cap] w fun e w' => e = .returned (.slice (some ⟨g, 0, none⟩) (compactUpTo d d.size).length cap) ∧ DS w' (some ⟨g, 0, none⟩) (compactUpTo d d.size).length (compactUpTo d d.size) ∧ Below N w w' := by
 unfold maxLen at hcm
 have HA : Hid (∀ w', HD w' g d → (∀ j, j < n → keeps d j = true) → n = (compactUpTo d d.size).length ∧ DS w' (some ⟨g, 0, none⟩) (compactUpTo d d.size).length (compactUpTo d d.size)) := by
  intro w' hH' hall
  have e : compactUpTo d d.size = d.toList := by rw [compactUpTo_all d _ (by rw [hd]; exact hall), range_map_get]
  rw [e]
  have e2 : d.toList.length = n := by simpa using hd
  refine ⟨e2.symm, hH'.ds _ (by simp) (by unfold maxLen; omega) (fun j hj => ?_)⟩
  have hj' : j < d.size := by simpa using hj
  rw [getElem!_pos d j hj']
  simp [hj']
 have HN := hide hN
 by_cases h2 : (n : Int) < 2
 ·have HH := hide hH
  clear hH
  go_enter Tryz.func223, Tryz.ntmps223
  go_wp2
  go_ret
  obtain ⟨e1, e2⟩ := HA.out w HH.out (fun j hj => keeps_lt_one d j (by omega))
  exact ⟨by rw [← e1]; rfl, e2, Below.refl _ _⟩
 ·have HH0 := hide hH
  have Hd := hide hd
  clear hH hd
  go_enter Tryz.func223, Tryz.ntmps223
  go_wp2
  go_loopw [3] (fun s3 wr => ∃ k : Nat, 1 ≤ k ∧ k ≤ n ∧ s3 = .int .i64 k ∧ Hid (HD wr g d) ∧ Hid (Below N w wr) ∧ Hid (∀ j, j < k → keeps d j = true)) (fun s3 _ => n - (intOf s3).toNat)
  case atStart => exact ⟨1, by omega, by omega, rfl, HH0, Below.refl _ _, keeps_lt_one d⟩
  case round =>
   obtain ⟨k, hk1, hkn, rfl, HH, HB, HK⟩ := hrel
   by_cases hlt : k < n
   ·obtain ⟨j, rfl⟩ : ∃ j, k = j + 1 := ⟨k - 1, by omega⟩
    have q1 := HH.out (j + 1) (by rw [Hd.out]; exact hlt)
    have q0 := HH.out j (by rw [Hd.out]; omega)
    obtain ⟨x, hx⟩ : ∃ x, d[j + 1]! = x := ⟨_, rfl⟩
    obtain ⟨y, hy⟩ : ∃ y, d[j]! = y := ⟨_, rfl⟩
    rw [hx] at q1
    rw [hy] at q0
    have HXY : Hid (d[j + 1]! = x ∧ d[j + 1 - 1]! = y) := ⟨hx, hy⟩
    clear hx hy
    obtain ⟨r, s⟩ := x
    obtain ⟨p, q⟩ := y
    have c0 := q1.1
    have c1 := q1.2.1
    have c2 := q0.1
    have c3 := q0.2.1
    clear q0 q1
    have hwj := wrapJ (show j ≤ 1000000000 by omega)
    have hj1 : ((j : Int)) < (n : Int) := by omega
    have hj2 : ((j : Int)) + 1 < (n : Int) := by omega
    by_cases hxy : r = p ∧ s = q
    ·have hq := fun w => eqD r s p q true (by symm; exact decide_eq_true hxy) w
     have HS : Hid (CompInv d (j + 1 + 1) (j + 1) d) := CompInv.start HK.out (keeps_neg (by omega) (by rw [HXY.out.1, HXY.out.2, hxy.1, hxy.2]))
     have hcap1 : ¬ (cap = j + 1) := by omega
     have hcap2 : ¬ ((cap : Int) = (j : Int) + 1) := by omega
     have hjc : ((j : Int)) + 1 ≤ (cap : Int) := by omega
     clear hxy HK
     go_wp2
     refine wp_region_held_drew (S := fun W => Below wr.heap.size wr W) (by kernel_rfl) ((Below.refl _ wr).drew) (fun hS0 => ?_)
     refine tkJ 0 16 hS0 ?_; simp only [ly]
     refine tkJ 1 17 hS0 ?_; simp only [ly]
     refine tkJ 2 18 hS0 ?_; simp only [ly]
     refine tkL 3 19 hS0 ?h ?_; case h => (intro W hW; have e0 := bcell hW c0; have e1 := bcell hW c1; have e2 := bcell hW c2; have e3 := bcell hW c3; clear hW; go_simp; try rfl); simp only [ly]
     refine tkJ 4 20 hS0 ?_; simp only [ly]
     refine tkJ 5 21 hS0 ?_; simp only [ly]
     refine tkJ 6 22 hS0 ?_; simp only [ly]
     refine tkJ 7 23 hS0 ?_; simp only [ly]
     refine tkL 8 24 hS0 ?h ?_; case h => (intro W hW; have e0 := bcell hW c0; have e1 := bcell hW c1; have e2 := bcell hW c2; have e3 := bcell hW c3; clear hW; go_simp; try rfl); simp only [ly]
     refine tkJ 9 25 hS0 ?_; simp only [ly]
     refine wpAnyH_done (by kernel_rfl) ?_ _
     go_wp2
     have HH1 := hide HH.out.drew
     have HB1 := hide HB.out.drew
     clear c0 c1 c2 c3 HH HB hS0 hq HXY
     generalize wr.drew = wq at *
     clear hwj
     go_loopw [3, 5] (fun s3 s5 wr => ∃ (kk k2 : Nat) (dk : Array Dot), s3 = .int .i64 kk ∧ s5 = .int .i64 k2 ∧ 1 ≤ k2 ∧ (j + 1) + k2 ≤ n ∧ Hid (HD wr g dk) ∧ Hid (Below N w wr) ∧ Hid (CompInv d ((j + 1) + k2) kk dk)) (fun _ s5 _ => n - (intOf s5).toNat)
     case atStart => exact ⟨j + 1, 1, d, by go_num, rfl, by omega, by omega, HH1, HB1, HS⟩
     case round =>
      clear HH1 HB1 HS
      obtain ⟨kk, k2, dk, rfl, rfl, h1, hle, HH, HB, HI⟩ := hrel
      have hkk := HI.out.lt
      have hds : dk.size = n := by rw [HI.out.size, Hd.out]
      by_cases hlt2 : (j + 1) + k2 < n
      ·obtain ⟨i, rfl⟩ : ∃ i, k2 = i + 1 := ⟨k2 - 1, by omega⟩
       have q1 := HH.out ((j + 1) + (i + 1)) (by omega)
       have q0 := HH.out ((j + 1) + i) (by omega)
       have qk := HH.out kk (by omega)
       rw [HI.out.high ((j + 1) + (i + 1)) (by omega), show ((j + 1) + (i + 1)) * 2 = (j + 1) * 2 + (i + 1) * 2 by omega] at q1
       rw [HI.out.high ((j + 1) + i) (by omega), show ((j + 1) + i) * 2 = (j + 1) * 2 + i * 2 by omega] at q0
       obtain ⟨x, hx⟩ : ∃ x, d[(j + 1) + (i + 1)]! = x := ⟨_, rfl⟩
       obtain ⟨y, hy⟩ : ∃ y, d[(j + 1) + i]! = y := ⟨_, rfl⟩
       rw [hx] at q1
       rw [hy] at q0
       have HXY : Hid (d[(j + 1) + (i + 1)]! = x ∧ d[(j + 1) + (i + 1) - 1]! = y) := ⟨hx, hy⟩
       clear hx hy
       obtain ⟨r, s⟩ := x
       obtain ⟨p, q⟩ := y
       have c0 := q1.1
       have c1 := q1.2.1
       have c2 := q0.1
       have c3 := q0.2.1
       clear q0 q1
       have hwi := wrapJ (show i ≤ 1000000000 by omega)
       have hw2 : ((i : Int) + 1 - 1) = (i : Int) := by omega
       have hi1 : ((i : Int)) < ((n - (j + 1) : Nat) : Int) := by omega
       have hi2 : ((i : Int)) + 1 < ((n - (j + 1) : Nat) : Int) := by omega
       have hi3 : ((kk : Int)) < (n : Int) := by omega
       by_cases hxy : r = p ∧ s = q
       ·have hq := fun w => eqD r s p q true (by symm; exact decide_eq_true hxy) w
        have HI2 : Hid (CompInv d ((j + 1) + (i + 1) + 1) kk dk) := HI.out.skip (keeps_neg (by omega) (by rw [HXY.out.1, HXY.out.2, hxy.1, hxy.2]))
        clear hxy HI
        go_wp2
        refine wp_region_held_drew (S := fun W => Below wr.heap.size wr W) (by kernel_rfl) ((Below.refl _ wr).drew) (fun hS0 => ?_)
        refine tkJ 0 35 hS0 ?_; simp only [ly]
        refine tkJ 1 36 hS0 ?_; simp only [ly]
        refine tkJ 2 37 hS0 ?_; simp only [ly]
        refine tkL 3 38 hS0 ?h ?_; case h => (intro W hW; have e0 := bcell hW c0; have e1 := bcell hW c1; have e2 := bcell hW c2; have e3 := bcell hW c3; clear hW; go_simp; try rfl); simp only [ly]
        refine tkJ 4 39 hS0 ?_; simp only [ly]
        refine tkJ 5 40 hS0 ?_; simp only [ly]
        refine tkJ 6 41 hS0 ?_; simp only [ly]
        refine tkJ 7 42 hS0 ?_; simp only [ly]
        refine tkL 8 43 hS0 ?h ?_; case h => (intro W hW; have e0 := bcell hW c0; have e1 := bcell hW c1; have e2 := bcell hW c2; have e3 := bcell hW c3; clear hW; go_simp; try rfl); simp only [ly]
        refine tkJ 9 44 hS0 ?_; simp only [ly]
        refine wpAnyH_done (by kernel_rfl) ?_ _
        have HH1 := hide HH.out.drew
        have HB1 := hide HB.out.drew
        go_wp2
        go_roundw
        case rel => exact ⟨kk, i + 1 + 1, dk, rfl, by go_num, by omega, by omega, HH1, HB1, HI2⟩
        case measure => simp [intOf]; omega
       ·have hq := fun w => eqD r s p q false (by symm; exact decide_eq_false hxy) w
        have HI2 : Hid (CompInv d ((j + 1) + (i + 1) + 1) (kk + 1) (dk.setIfInBounds kk (r, s))) := by
         have z := HI.out.keep (by rw [Hd.out]; exact hlt2) (keeps_pos (by rw [HXY.out.1, HXY.out.2]; intro e; exact hxy ⟨congrArg Prod.fst e, congrArg Prod.snd e⟩))
         rw [HXY.out.1] at z
         exact z
        clear hxy HI
        go_wp2
        refine wp_region_held_drew (S := fun W => Below wr.heap.size wr W) (by kernel_rfl) ((Below.refl _ wr).drew) (fun hS0 => ?_)
        refine tkJ 0 35 hS0 ?_; simp only [ly]
        refine tkJ 1 36 hS0 ?_; simp only [ly]
        refine tkJ 2 37 hS0 ?_; simp only [ly]
        refine tkL 3 38 hS0 ?h ?_; case h => (intro W hW; have e0 := bcell hW c0; have e1 := bcell hW c1; have e2 := bcell hW c2; have e3 := bcell hW c3; clear hW; go_simp; try rfl); simp only [ly]
        refine tkJ 4 39 hS0 ?_; simp only [ly]
        refine tkJ 5 40 hS0 ?_; simp only [ly]
        refine tkJ 6 41 hS0 ?_; simp only [ly]
        refine tkJ 7 42 hS0 ?_; simp only [ly]
        refine tkL 8 43 hS0 ?h ?_; case h => (intro W hW; have e0 := bcell hW c0; have e1 := bcell hW c1; have e2 := bcell hW c2; have e3 := bcell hW c3; clear hW; go_simp; try rfl); simp only [ly]
        refine tkJ 9 44 hS0 ?_; simp only [ly]
        refine wpAnyH_done (by kernel_rfl) ?_ _
        have HH1 := hide (HH.out.drew.set (k := kk) (by omega) r s)
        have HB1 := hide ((HB.out.drew.setCell (p := ⟨g, kk * 2, none⟩) HN.out (.int .i64 r)).setCell (p := ⟨g, kk * 2 + 1, none⟩) HN.out (.int .i64 s))
        have d0 : wr.drew.cell? ⟨g, (j + 1) * 2 + (i + 1) * 2, none⟩ = some (.int .i64 r) := c0
        have d1 : wr.drew.cell? ⟨g, (j + 1) * 2 + (i + 1) * 2 + 1, none⟩ = some (.int .i64 s) := c1
        have k0 : wr.drew.cell? ⟨g, kk * 2, none⟩ = some _ := qk.1
        have k1 : wr.drew.cell? ⟨g, kk * 2 + 1, none⟩ = some _ := qk.2.1
        have f0 : wr.drew.frozen? ⟨g, kk * 2, none⟩ = false := qk.2.2.1
        have f1 : wr.drew.frozen? ⟨g, kk * 2 + 1, none⟩ = false := qk.2.2.2
        clear c0 c1 c2 c3 qk hS0 HH HB
        generalize wr.drew = wq at *
        go_wp2
        go_roundw
        case rel => exact ⟨kk + 1, i + 1 + 1, dk.setIfInBounds kk (r, s), by go_num, by go_num, by omega, by omega, HH1, HB1, HI2⟩
        case measure => simp [intOf]; omega
      ·have hend : (j + 1) + k2 = n := by omega
       have hcl := fun ty => clear_dots wr g kk n (cap - kk) dk hds HH.out (by omega) ty
       have hI := HI.out
       rw [hend] at hI
       have HE := hide (compact_done Hd.out hI HH.out (by unfold maxLen; omega))
       have HB2 := hide (bel_setCells HN.out (List.replicate ((n - kk) * 2) (.int .i64 0)) (kk * 2) wr HB.out)
       have hc1 : ¬ (cap = kk) := by omega
       have hc2 : ¬ ((cap : Int) = (kk : Int)) := by omega
       have hc3 : ((kk : Int)) ≤ (n : Int) := by omega
       have hc4 : ((kk : Int)) ≤ (cap : Int) := by omega
       have hc5 : ¬ ((k2 : Int) < ((n - (j + 1) : Nat) : Int)) := by omega
       clear hI HI HH HB
       go_wp2
       go_ret
       exact ⟨by rw [← HE.out.1]; rfl, HE.out.2, HB2.out⟩
    ·have hq := fun w => eqD r s p q false (by symm; exact decide_eq_false hxy) w
     have HK2 : Hid (∀ i, i < j + 1 + 1 → keeps d i = true) := fun i hi => by
      by_cases e : i = j + 1
      ·subst e; exact keeps_pos (by rw [HXY.out.1, HXY.out.2]; intro e; exact hxy ⟨congrArg Prod.fst e, congrArg Prod.snd e⟩)
      ·exact HK.out i (by omega)
     clear hxy HK
     go_wp2
     refine wp_region_held_drew (S := fun W => Below wr.heap.size wr W) (by kernel_rfl) ((Below.refl _ wr).drew) (fun hS0 => ?_)
     refine tkJ 0 16 hS0 ?_; simp only [ly]
     refine tkJ 1 17 hS0 ?_; simp only [ly]
     refine tkJ 2 18 hS0 ?_; simp only [ly]
     refine tkL 3 19 hS0 ?h ?_; case h => (intro W hW; have e0 := bcell hW c0; have e1 := bcell hW c1; have e2 := bcell hW c2; have e3 := bcell hW c3; clear hW; go_simp; try rfl); simp only [ly]
     refine tkJ 4 20 hS0 ?_; simp only [ly]
     refine tkJ 5 21 hS0 ?_; simp only [ly]
     refine tkJ 6 22 hS0 ?_; simp only [ly]
     refine tkJ 7 23 hS0 ?_; simp only [ly]
     refine tkL 8 24 hS0 ?h ?_; case h => (intro W hW; have e0 := bcell hW c0; have e1 := bcell hW c1; have e2 := bcell hW c2; have e3 := bcell hW c3; clear hW; go_simp; try rfl); simp only [ly]
     refine tkJ 9 25 hS0 ?_; simp only [ly]
     refine wpAnyH_done (by kernel_rfl) ?_ _
     have HH1 := hide HH.out.drew
     have HB1 := hide HB.out.drew
     go_wp2
     go_roundw
     case rel => exact ⟨j + 1 + 1, by omega, by omega, by go_num, HH1, HB1, HK2⟩
     case measure => simp [intOf]; omega
   ·have hkl : k = n := by omega
    subst hkl
    have HE := hide (HA.out _ HH.out HK.out)
    go_wp2
    go_ret
    exact ⟨by rw [← HE.out.1]; rfl, HE.out.2, HB.out⟩
set_option maxHeartbeats 400000 in
set_option maxRecDepth 100000 in
theorem compact_none (w : World) : Calls Tryz.prog 223 #[.slice none 0 0] w fun e w' => e = .returned (.slice none 0 0) ∧ w' = w := by
 go_enter Tryz.func223, Tryz.ntmps223
 go_wp2
 go_ret
 exact ⟨rfl, rfl⟩
theorem sort_none (w : World) : Calls Tryz.prog 221 #[.slice none 0 0, .func (.func 222) #[] #[]] w fun e w' => e = .returned (.tuple #[]) ∧ w' = w := by
 have h := AnyF.slices_SortFunc_none sortD none 0 (.func (.func 222) #[] #[]) w
 change Calls Tryz.prog 221 _ _ _ at h
 exact h
set_option maxHeartbeats 400000 in
theorem Order_dots (a : Option Addr) (n cap : Nat) (l : List Dot) (w : World) (hD : DS w a n l) (hn : n ≤ 1000000) :
  Calls Tryz.prog 197 #[.slice a n cap] w fun e w' => ∃ p c, e = .returned (.slice p (ordD l).length c) ∧ DS w' p (ordD l).length (ordD l) ∧ CP p (ordD l).length c ∧ Below w.heap.size w w' := by
 have hlen := hD.1
 subst hlen
 have HC := hide (cloneD_any a l.length cap l w hD hn)
 clear hD
 go_enter Tryz.func197, Tryz.ntmps197
 go_wp2_with (go_at_call 165; refine Stop.at ?_)
 unfold Stop
 refine HC.out.mono ?_
 rintro e w1 ⟨v, rfl, hO, hB⟩
 rcases hO.row with ⟨rfl, rfl⟩ | ⟨g, c, rfl, hN, hg, hlc, hcm, hH⟩
 ·have HB := hide hB
  clear hB hO HC
  go_wp2_with (first
   | (go_at_call 221; refine (sort_none _).mono ?_; rintro e w' ⟨rfl, hw⟩; replace hw := hw.symm; subst hw)
   | (go_at_call 223; refine (compact_none _).mono ?_; rintro e w' ⟨rfl, hw⟩; replace hw := hw.symm; subst hw))
  go_ret
  exact ⟨none, 0, rfl, DS.nil _ _, ⟨Nat.le_refl _, by decide, fun _ => rfl⟩, HB.out⟩
 ·have HB := hide hB
  have HSo := hide (sort_any w.heap.size g c l w1 hN hg hH (by omega))
  clear hB hO HC hH
  go_wp2_with (go_at_call 221; refine Stop.at ?_)
  unfold Stop
  refine HSo.out.mono ?_
  rintro e w2 ⟨rfl, hB2, hg2, d, hd, hH2, hc⟩
  have HB2 := hide (HB.out.trans hB2)
  have HCo := hide (compact_any w.heap.size g c l.length d w2 hd hlc hcm hN hH2 (by omega))
  rw [hc] at HCo
  clear hB2 hH2 hc HB HSo
  go_wp2_with (go_at_call 223; refine Stop.at ?_)
  unfold Stop
  refine HCo.out.mono ?_
  rintro e w3 ⟨rfl, hDS, hB3⟩
  have HB3 := hide (HB2.out.trans hB3)
  have HDS := hide hDS
  have hl3 := ordD_len l
  clear hB3 hDS HCo
  go_wp2
  go_ret
  exact ⟨_, c, rfl, HDS.out, CP.some (by omega) hcm, HB3.out⟩
end Go.Proofs.YtkbbegbpkndebaaGreat

