/- Texts of this claim, joined: NR7, LA, LV. -/
import Derived.Defers
import Derived.Recover
import Derived.Tactics2
import Derived.Laws.Pointers
import Derived.Lib.AtoiAll
import Derived.Lib.ItoaNum
import Derived.Test.YtomppblgalepjaaGreatDoorRows
import Derived.Lib.LaidTab
import Derived.Lib.SmallJoins
import Derived.Stop.LaidErr
import Derived.LaidMore
import Derived.Test.YtomppblgalepjaaGreatDoorJ1
import Derived.Test.YtomppblgalepjaaGreatDoorJ13
import Derived.Test.YtomppblgalepjaaGreatDoorJ3
/- A line that is none, told (layer 15): the reader gives up by a panic, and its caller takes it. -/
namespace Go.Proofs.YtomppblgalepjaaGreatDoor
open Go.RowKit Go.Lib
set_option linter.unusedVariables false
def Two2 (ga ge : Nat) (a e : Int) (w w' : World) : Prop := BX w' ga #[.int .i64 a] 3 ∧ BX w' ge #[.int .i64 e] 30 ∧ w.heap.size ≤ w'.heap.size ∧ (∀ g, g < w.heap.size → g ≠ ga → g ≠ ge → w'.heap[g]? = w.heap[g]?) ∧ w'.os = w.os ∧ w'.tape = w.tape ∧ w'.output = w.output
theorem Two2.put {ga ge : Nat} {w W : World} {a e a' e' : Int} (h : Two2 ga ge a e w W) (hne : ga ≠ ge) : Two2 ga ge a' e' w ((W.setCell ⟨ga, 0, none⟩ (.int .i64 a')).setCell ⟨ge, 0, none⟩ (.int .i64 e')) := by
 obtain ⟨h1, h2, h3, h4, h5⟩ := h
 refine ⟨BX.other (h1.set 0 (.int .i64 a')) (Ne.symm hne) 0 _, (BX.other h2 hne 0 _).set 0 (.int .i64 e'), by simp [World.setCell]; exact h3, fun g hg n1 n2 => ?_, h5⟩
 simp [World.setCell, Array.getElem?_modify, Ne.symm n1, Ne.symm n2]
 exact h4 g hg n1 n2
theorem Two2.refl {ga ge : Nat} {w : World} {a e : Int} (h1 : BX w ga #[.int .i64 a] 3) (h2 : BX w ge #[.int .i64 e] 30) : Two2 ga ge a e w w := ⟨h1, h2, Nat.le_refl _, fun _ _ _ _ => rfl, rfl, rfl, rfl⟩
theorem Two2.below {ga ge : Nat} {w W W' : World} {a e : Int} (h : Two2 ga ge a e w W) (hb : Below W.heap.size W W') : Two2 ga ge a e w W' := ⟨h.1.below hb, h.2.1.below hb, Nat.le_trans h.2.2.1 hb.size, fun g hg n1 n2 => (hb.block g (Nat.lt_of_lt_of_le hg h.2.2.1)).trans (h.2.2.2.1 g hg n1 n2), hb.os.trans h.2.2.2.2.1, hb.tape.trans h.2.2.2.2.2.1, hb.output.trans h.2.2.2.2.2.2⟩
theorem Two2.bel {ga ge N : Nat} {u w w' : World} {a e : Int} (h : Two2 ga ge a e w w') (hb : Below N u w) (hN : N ≤ w.heap.size) (h1 : N ≤ ga) (h2 : N ≤ ge) : Below N u w' := hb.trans ⟨h.2.2.2.2.1, h.2.2.2.2.2.1, h.2.2.2.2.2.2, h.2.2.1, fun g hg => h.2.2.2.1 g (by omega) (by omega) (by omega)⟩
set_option maxHeartbeats 2000000 in
theorem tell_pan (ga ge : Nat) (y z : Int) (w : World) (h1 : BX w ga #[.int .i64 y] 3) (h2 : BX w ge #[.int .i64 z] 30) (hne : ga ≠ ge) (x : Int) : CallsD Tryz.prog 72 #[.pointer (some ⟨ga, 0, none⟩), .pointer (some ⟨ge, 0, none⟩)] (.panicking [{ v := noL x, recovered := false }]) w fun e u' w' => e = .returned (.tuple #[]) ∧ u' = .panicking [{ v := noL x, recovered := true }] ∧ Two2 ga ge x 2 w w' := by
 have HW := hide (Two2.refl h1 h2)
 clear h1 h2
 have hta : ∀ (W : World), (Instr.typeAssert (.iface 112 (.agg #[.int .i64 x])) 20 112 true).run Tryz.prog W = .ok (.tuple #[.agg #[.int .i64 x], .bool true]) W := fun W => by kernel_rfl
 unfold noL
 refine callsD_of_wpS Tryz.func72 rfl fun c₀ cs hu => ?_
 apply wpS_seq
 apply wpS_region
 simp [wpOpsS, go_sem, recoverD, hu, Tryz.ntmps72, Exit.thenS]
 rw [show (#[.pointer (some ⟨ga, 0, none⟩), .pointer (some ⟨ge, 0, none⟩)] ++ ((Array.replicate 16 undef).setIfInBounds 3 (.iface 112 (.agg #[.int .i64 x]))).setIfInBounds 0 (.iface 112 (.agg #[.int .i64 x])) : Array Value) = #[.pointer (some ⟨ga, 0, none⟩), .pointer (some ⟨ge, 0, none⟩), .iface 112 (.agg #[.int .i64 x]), undef, undef, .iface 112 (.agg #[.int .i64 x]), undef, undef, undef, undef, undef, undef, undef, undef, undef, undef, undef, undef] from by kernel_rfl]
 refine wpS_of_wp ?_
 have bq := bel1 w (.cells #[.int .i64 x] 112)
 have HX : Hid (BX (w.alloc (.cells #[.int .i64 x] 112)) w.heap.size #[.int .i64 x] 112) := BX.new w _ rfl _ _
 replace HW := hide (HW.out.below bq)
 clear bq
 go_upto_region 3 with fail
 generalize w.alloc (.cells #[.int .i64 x] 112) = w1 at *
 have x0 := HX.out.cell 0 _ rfl
 have a0 := HW.out.1.cell 0 _ rfl
 have a1 := HW.out.1.free 0
 have e0 := HW.out.2.1.cell 0 _ rfl
 have e1 := HW.out.2.1.free 0
 go_wp2
 simp [bodyPostS, results, Tryz.results72]
 exact HW.out.put hne
set_option maxHeartbeats 2000000 in
theorem tell_idle (ga ge : Nat) (w : World) : CallsD Tryz.prog 72 #[.pointer (some ⟨ga, 0, none⟩), .pointer (some ⟨ge, 0, none⟩)] .returning w fun e u' w' => e = .returned (.tuple #[]) ∧ u' = .returning ∧ w' = w := by
 refine callsD_of_wpS Tryz.func72 rfl fun c₀ cs hu => ?_
 apply wpS_seq
 apply wpS_region
 simp [wpOpsS, go_sem, recoverD, hu, Tryz.ntmps72, Exit.thenS]
 rw [show (#[.pointer (some ⟨ga, 0, none⟩), .pointer (some ⟨ge, 0, none⟩)] ++ ((Array.replicate 16 undef).setIfInBounds 3 .nilIface).setIfInBounds 0 .nilIface : Array Value) = #[.pointer (some ⟨ga, 0, none⟩), .pointer (some ⟨ge, 0, none⟩), .nilIface, undef, undef, .nilIface, undef, undef, undef, undef, undef, undef, undef, undef, undef, undef, undef, undef] from by kernel_rfl]
 refine wpS_of_wp ?_
 go_wp2
 cases c₀
 simp_all [bodyPostS, results, Tryz.results72]
def TlQ (w : World) (R : Except Int (List Dc)) (e : Ending) (w' : World) : Prop := (∃ ds v, R = .ok ds ∧ e = .returned (.tuple #[v, .int .i64 0, .int .i64 0]) ∧ OwnF 7 RDc 38 w.heap.size w' v ds ∧ ds.length ≤ 800 ∧ Below w.heap.size w w') ∨ (∃ x, R = .error x ∧ e = .returned (.tuple #[.slice none 0 0, .int .i64 x, .int .i64 2]) ∧ Below w.heap.size w w')
set_option maxRecDepth 2000 in
set_option maxHeartbeats 4000000 in
theorem tell15 (a : Option Addr) (c : Nat) (l : List Tk) (w : World) (hK : KS w a l.length l) (hC : CP a l.length c) (hA : ∀ b, a = some b → b.block < w.heap.size) (hE : EndT l) (hTx : Txt0 l) (hNm : Num0 l) (hZ : EndZ l) (h8 : l.length ≤ 800) {R : Except Int (List Dc)} (hR : linX l [] = R) : Calls Tryz.prog 53 #[.slice a l.length c] w (TlQ w R) := by
 have b1 := bel1 w (.cells #[.int .i64 0] 3)
 have b2 := bel1 (w.alloc (.cells #[.int .i64 0] 3)) (.cells #[.int .i64 0] 30)
 have b3 := bel1 ((w.alloc (.cells #[.int .i64 0] 3)).alloc (.cells #[.int .i64 0] 30)) (.cells #[.slice a l.length c] 115)
 have s1 : (w.alloc (.cells #[.int .i64 0] 3)).heap.size = w.heap.size + 1 := by first | rfl | simp
 have s2 : ((w.alloc (.cells #[.int .i64 0] 3)).alloc (.cells #[.int .i64 0] 30)).heap.size = w.heap.size + 2 := by first | rfl | simp
 have HA : Hid (BX (((w.alloc (.cells #[.int .i64 0] 3)).alloc (.cells #[.int .i64 0] 30)).alloc (.cells #[.slice a l.length c] 115)) w.heap.size #[.int .i64 0] 3) := ((BX.new w _ rfl _ _).below b2).below b3
 have HE : Hid (BX (((w.alloc (.cells #[.int .i64 0] 3)).alloc (.cells #[.int .i64 0] 30)).alloc (.cells #[.slice a l.length c] 115)) (w.heap.size + 1) #[.int .i64 0] 30) := (BX.new (w.alloc (.cells #[.int .i64 0] 3)) _ s1.symm _ _).below b3
 have HX : Hid (BX (((w.alloc (.cells #[.int .i64 0] 3)).alloc (.cells #[.int .i64 0] 30)).alloc (.cells #[.slice a l.length c] 115)) (w.heap.size + 2) #[.slice a l.length c] 115) := BX.new ((w.alloc (.cells #[.int .i64 0] 3)).alloc (.cells #[.int .i64 0] 30)) _ s2.symm _ _
 have HB : Hid (Below w.heap.size w (((w.alloc (.cells #[.int .i64 0] 3)).alloc (.cells #[.int .i64 0] 30)).alloc (.cells #[.slice a l.length c] 115))) := bel_next (bel_next b1 b2) b3
 have hsz : (((w.alloc (.cells #[.int .i64 0] 3)).alloc (.cells #[.int .i64 0] 30)).alloc (.cells #[.slice a l.length c] 115)).heap.size = w.heap.size + 3 := by first | rfl | simp
 have HR : Hid (RP (w.heap.size + 2) (((w.alloc (.cells #[.int .i64 0] 3)).alloc (.cells #[.int .i64 0] 30)).alloc (.cells #[.slice a l.length c] 115)) l) := ⟨a, c, HX.out, ((hK.below b1).below b2).below b3, hC, fun b hb => by have := hA b hb; omega⟩
 have HLS := hide (fun W => lines15 (D := w.heap.size + 2) hE hTx hNm hZ h8 hR W)
 clear b1 b2 b3 s1 s2 hK hC hA hE hTx hNm hZ h8 hR HX
 obtain ⟨ga, hga⟩ : ∃ g, w.heap.size = g := ⟨_, rfl⟩
 obtain ⟨ge, hge⟩ : ∃ g, ga + 1 = g := ⟨_, rfl⟩
 obtain ⟨D, hD⟩ : ∃ g, ge + 1 = g := ⟨_, rfl⟩
 have hD2 : ga + 2 = D := by omega
 have hmf : ∀ (fn : Fn) (first cap : Array Value) (w : World), (Instr.makeFunc fn first cap).run Tryz.prog w = .ok (.func fn first cap) w := fun _ _ _ _ => rfl
 go_enter_defers Tryz.func53, Tryz.ntmps53
 go_upto_region 3 with fail
 rw [hga, hge] at HE
 rw [hga] at HA
 rw [hga, hD2] at HR HLS
 rw [hga] at hsz
 try rw [hD]
 have hgaD : ga < D := by omega
 have hgeD : ge < D := by omega
 have hnea : ga ≠ D := by omega
 have hnee : ge ≠ D := by omega
 have hne : ga ≠ ge := by omega
 have hgw : w.heap.size ≤ ga := by omega
 have hgw2 : w.heap.size ≤ ge := by omega
 have hDw : w.heap.size ≤ D := by omega
 generalize hw3 : ((w.alloc (.cells #[.int .i64 0] 3)).alloc (.cells #[.int .i64 0] 30)).alloc (.cells #[.slice a l.length c] 115) = w3 at *
 have hDN : D < w3.heap.size := by omega
 clear hw3 hD hD2 hge hga hsz
 have hN3 : w.heap.size ≤ w3.heap.size := HB.out.size
 rcases R with x | ds
 ·have HL2 : Hid (∀ W, RP D W l → Calls Tryz.prog 73 #[.pointer (some ⟨D, 0, none⟩)] W fun e w' => e = .panicked [{ v := noL x, recovered := false }] ∧ GB D W w') := fun W hW => (HLS.out W hW).mono (by
   rintro e w' (⟨_, _, h, _⟩ | ⟨y, h, rfl, hb⟩)
   ·cases h
   ·cases h; exact ⟨rfl, hb⟩)
  clear HLS
  go_wp2_with (go_at_call 73; refine (HL2.out _ HR.out).mono ?_; rintro e w4 ⟨rfl, hb⟩; replace HA := hide (HA.out.gb hb hnea); replace HE := hide (HE.out.gb hb hnee); have HB4 := hide (GB.bel HB.out hb hN3 hDw); clear hb)
  refine leaves_cons (f := 72) (args := #[.pointer (some ⟨ga, 0, none⟩), .pointer (some ⟨ge, 0, none⟩)]) (by simp) (by simp [go_sem]) ?_
  refine (tell_pan ga ge 0 0 _ HA.out HE.out hne x).mono ?_
  rintro e u' w5 ⟨rfl, rfl, hw5⟩
  have a0 := hw5.1.cell 0 _ rfl
  have e0 := hw5.2.1.cell 0 _ rfl
  have HB5 : Hid (Below w.heap.size w w5) := hw5.bel HB4.out HB4.out.size hgw hgw2
  clear hw5
  simp [Leaves, settle, results, Tryz.results53, go_sem, a0, e0]
  exact .inr ⟨x, rfl, rfl, HB5.out⟩
 ·have HL2 : Hid (∀ W, RP D W l → Calls Tryz.prog 73 #[.pointer (some ⟨D, 0, none⟩)] W fun e w' => ∃ v, e = .returned v ∧ OwnF 7 (RDx D) 38 W.heap.size w' v ds ∧ ds.length ≤ 800 ∧ GB D W w') := fun W hW => (HLS.out W hW).mono (by
   rintro e w' (⟨_, v, h, rfl, h2⟩ | ⟨y, h, _⟩)
   ·cases h; exact ⟨v, rfl, h2⟩
   ·cases h)
  clear HLS
  go_wp2_with (go_at_call 73; refine (HL2.out _ HR.out).mono ?_; rintro e w4 ⟨v, rfl, ho, h8, hb⟩; have HO := hide (OwnF.old2 (OwnF.old2 ho hgaD hDN 0 (.int .i64 0)) hgeD hDN 0 (.int .i64 0)); replace HA := hide (HA.out.gb hb hnea); replace HE := hide (HE.out.gb hb hnee); have HB4 := hide (GB.bel HB.out hb hN3 hDw); have a0 := HA.out.cell 0 _ rfl; have a1 := HA.out.free 0; have e0 := HE.out.cell 0 _ rfl; have e1 := HE.out.free 0; clear ho hb)
  replace HA := hide (BX.other (HA.out.set 0 (.int .i64 0)) (Ne.symm hne) 0 (.int .i64 0))
  replace HE := hide ((BX.other HE.out hne 0 (.int .i64 0)).set 0 (.int .i64 0))
  replace HB4 := hide ((HB4.out.setCell (p := ⟨ga, 0, none⟩) hgw (.int .i64 0)).setCell (p := ⟨ge, 0, none⟩) hgw2 (.int .i64 0))
  clear a0 a1 e0 e1
  generalize (w4.setCell ⟨ga, 0, none⟩ (.int .i64 0)).setCell ⟨ge, 0, none⟩ (.int .i64 0) = w6 at *
  refine leaves_cons (f := 72) (args := #[.pointer (some ⟨ga, 0, none⟩), .pointer (some ⟨ge, 0, none⟩)]) (by simp) (by simp [go_sem]) ?_
  refine (tell_idle ga ge _).mono ?_
  rintro e u' w5 ⟨rfl, rfl, rfl⟩
  have a0 := HA.out.cell 0 _ rfl
  have e0 := HE.out.cell 0 _ rfl
  simp [Leaves, settle, results, Tryz.results53, go_sem, a0, e0]
  exact .inl ⟨ds, v, rfl, rfl, (OwnF.flat HO.out).mono hN3, h8, HB4.out⟩
end Go.Proofs.YtomppblgalepjaaGreatDoor

/- What strconv's Atoi and Itoa say of a text, against the document's numbers (layer 14), in plain mathematics. -/
namespace Go.Proofs.YtomppblgalepjaaGreatDoor
open Go.Lib
set_option linter.unusedVariables false
def bz (l : List UInt8) : List Int := l.map (fun b => (b.toNat : Int))
theorem bz_app (l m : List UInt8) : bz (l ++ m) = bz l ++ bz m := by unfold bz; rw [List.map_append]
theorem bz_inj : ∀ {l m : List UInt8}, bz l = bz m → l = m
 | [], [], _ => rfl
 | [], _ :: _, h => by simp [bz] at h
 | _ :: _, [], h => by simp [bz] at h
 | a :: l, b :: m, h => by
  simp only [bz, List.map_cons, List.cons.injEq] at h
  have e : a.toNat = b.toNat := by omega
  rw [UInt8.toNat_inj.1 e, bz_inj h.2]
theorem dec_dig {n : Nat} (h : n < 10) : (UInt8.ofNat (48 + n)).toNat = 48 + n := by
 rw [UInt8.toNat_ofNat']
 omega
theorem digU_dec : ∀ (f n : Nat), n < 10 ^ f → 0 < f → bz (decDigits n) = digU f n
 | 0, n, _, h => by omega
 | f + 1, n, h, _ => by
  rw [decDigits, digU]
  by_cases h10 : n < 10
  ·rw [dif_pos h10, if_pos h10]
   show [((UInt8.ofNat (48 + n)).toNat : Int)] = _
   rw [dec_dig h10]
   rfl
  ·rw [dif_neg h10, if_neg h10, bz_app]
   have hf : 0 < f := by
    rcases f with _ | f
    ·simp at h; omega
    ·omega
   rw [digU_dec f (n / 10) (by rw [Nat.pow_succ] at h; omega) hf]
   show _ ++ [((UInt8.ofNat (48 + n % 10)).toNat : Int)] = _
   rw [dec_dig (by omega)]
   rfl
theorem digs_itoa {n : Int} (h1 : -9999 ≤ n) (h2 : n ≤ 9999) : bz (itoa n) = digs n := by
 have e5 : (10 : Nat) ^ 5 = 100000 := by decide
 unfold itoa digs
 by_cases h : n < 0
 ·rw [if_pos h, if_pos h, ← digU_dec 5 n.natAbs (by omega) (by decide)]
  rfl
 ·rw [if_neg h, if_neg h, ← digU_dec 5 n.toNat (by omega) (by decide)]
theorem parse_app : ∀ (l m : List UInt8) (a v : Nat), parseUint10 a l = .ok v → parseUint10 a (l ++ m) = parseUint10 v m
 | [], m, a, v, h => by
  rw [parseUint10] at h
  cases h
  rfl
 | c :: r, m, a, v, h => by
  rw [List.cons_append, parseUint10]
  rw [parseUint10] at h
  split at h
  ·rename_i h1
   rw [if_pos h1]
   split at h
   ·cases h
   ·rename_i h2
    rw [if_neg h2]
    split at h
    ·cases h
    ·rename_i h3
     rw [if_neg h3]
     exact parse_app r m _ v h
  ·cases h
theorem parse_one {v d : Nat} (hd : d < 10) (hv : v < 1000000) : parseUint10 v [UInt8.ofNat (48 + d)] = .ok (v * 10 + d) := by
 rw [parseUint10, if_pos (by rw [dec_dig hd]; omega), if_neg (by omega), if_neg (by rw [dec_dig hd]; omega), parseUint10, dec_dig hd]
 congr 1
 omega
theorem parse_dec : ∀ (f n : Nat), n < 10 ^ f → f ≤ 6 → 0 < f → parseUint10 0 (decDigits n) = .ok n
 | 0, n, _, _, h => by omega
 | f + 1, n, h, hf6, _ => by
  rw [decDigits]
  by_cases h10 : n < 10
  ·rw [dif_pos h10, parse_one h10 (by decide)]
   congr 1
   omega
  ·have hf : 0 < f := by
    rcases f with _ | f
    ·simp at h; omega
    ·omega
   have h6 : 10 ^ f ≤ 10 ^ 5 := Nat.pow_le_pow_right (by decide) (by omega)
   have e5 : (10 : Nat) ^ 5 = 100000 := by decide
   have hn : n / 10 < 10 ^ f := by rw [Nat.pow_succ] at h; omega
   rw [dif_neg h10, parse_app _ _ _ _ (parse_dec f (n / 10) hn (by omega) hf)]
   show parseUint10 (n / 10) [UInt8.ofNat (48 + n % 10)] = _
   rw [parse_one (by omega) (by omega)]
   congr 1
   omega
theorem dec_some (n : Nat) : decDigits n ≠ [] := by
 rw [decDigits]
 split
 ·simp
 ·simp
theorem dec_mem : ∀ (f n : Nat), n < 10 ^ f → 0 < f → ∀ c ∈ decDigits n, 48 ≤ c.toNat ∧ c.toNat ≤ 57 := fun f n h hf c hc => by
 have h1 : ((c.toNat : Nat) : Int) ∈ bz (decDigits n) := List.mem_map.2 ⟨c, hc, rfl⟩
 rw [digU_dec f n h hf] at h1
 have := digU_dg f n _ h1
 unfold isDg at this
 rw [decide_eq_true_iff] at this
 omega
theorem atoi_itoa {n : Int} (h1 : -9999 ≤ n) (h2 : n ≤ 9999) : atoiAll (itoa n) = .ok n := by
 have e5 : (10 : Nat) ^ 5 = 100000 := by decide
 unfold itoa
 by_cases h : n < 0
 ·rw [if_pos h]
  have hp := parse_dec 5 n.natAbs (by omega) (by decide) (by decide)
  unfold atoiAll
  have h45 : (45 : UInt8).toNat = 45 := rfl
  simp only [h45, or_true, if_true, parseMag, if_neg (dec_some n.natAbs), hp]
  rw [if_neg (by simp), if_neg (by omega)]
  congr 1
  omega
 ·rw [if_neg h]
  have hp := parse_dec 5 n.toNat (by omega) (by decide) (by decide)
  have hm := dec_mem 5 n.toNat (by omega) (by decide)
  have hs := dec_some n.toNat
  generalize decDigits n.toNat = l at *
  match l, hs, hp, hm with
  | c :: r, hs, hp, hm =>
   have hc := hm c (List.mem_cons_self ..)
   have g1 : ¬ (c.toNat = 43 ∨ c.toNat = 45) := by omega
   have g2 : ¬ c.toNat = 45 := by omega
   unfold atoiAll
   simp only
   rw [if_neg g1]
   unfold parseMag
   rw [if_neg hs, hp]
   simp only
   rw [if_neg (by omega), if_neg (by omega), if_neg g2]
   congr 1
   omega
theorem dig_fold : ∀ (f n : Nat), n < 10 ^ f → 0 < f → (digU f n).foldl (fun n c => 10 * n + (c - 48).toNat) 0 = n
 | 0, n, _, h => by omega
 | f + 1, n, h, _ => by
  rw [digU]
  by_cases h10 : n < 10
  ·rw [if_pos h10]
   show 10 * 0 + ((48 + (n : Int)) - 48).toNat = n
   omega
  ·have hf : 0 < f := by
    rcases f with _ | f
    ·simp at h; omega
    ·omega
   rw [if_neg h10, List.foldl_append, dig_fold f (n / 10) (by rw [Nat.pow_succ] at h; omega) hf]
   show 10 * (n / 10) + ((48 + ((n % 10 : Nat) : Int)) - 48).toNat = n
   omega
theorem digU_lnA : ∀ (f n : Nat), (digU f n).length ≤ f
 | 0, n => by simp [digU]
 | f + 1, n => by
  rw [digU]
  split
  ·simp
  ·rw [List.length_append]
   have := digU_lnA f (n / 10)
   simp
   omega
theorem valU_dig {n : Nat} (h : n < 100000) (l : List Int) (hl : l = digU 5 n ∨ l = 45 :: digU 5 n) : valU (l.take 6) = n := by
 have hn : l.length ≤ 6 := by
  have := digU_lnA 5 n
  rcases hl with rfl | rfl
  ·omega
  ·simp; omega
 rw [List.take_of_length_le hn]
 have hf : (digU 5 n).filter isDg = digU 5 n := List.filter_eq_self.2 (fun c hc => digU_dg 5 n c hc)
 have he : l.filter isDg = digU 5 n := by
  rcases hl with rfl | rfl
  ·exact hf
  ·rw [List.filter_cons_of_neg (by decide), hf]
 have e5 : (10 : Nat) ^ 5 = 100000 := by decide
 unfold valU
 rw [he]
 exact dig_fold 5 n (by omega) (by decide)
theorem valN_digs {n : Int} (h1 : -9999 ≤ n) (h2 : n ≤ 9999) : valN (digs n) = n := by
 unfold valN digs
 by_cases h : n < 0
 ·rw [if_pos h]
  rw [if_pos (by rfl), valU_dig (n := n.natAbs) (by omega) _ (.inr rfl)]
  omega
 ·rw [if_neg h]
  have hd : ¬ (digU 5 n.toNat).head? = some 45 := fun he => by
   have hm : (45 : Int) ∈ digU 5 n.toNat := List.mem_of_mem_head? (by rw [he]; rfl)
   have := digU_dg 5 n.toNat _ hm
   revert this
   decide
  rw [if_neg hd, valU_dig (n := n.toNat) (by omega) _ (.inl rfl)]
  omega
theorem num_yes {l : List UInt8} (h : numB (bz l) = true) : atoiAll l = .ok (valN (bz l)) ∧ itoa (valN (bz l)) = l ∧ -9999 ≤ valN (bz l) ∧ valN (bz l) ≤ 9999 := by
 unfold numB at h
 rw [decide_eq_true_iff] at h
 obtain ⟨h1, h2, h3⟩ := h
 have e : itoa (valN (bz l)) = l := bz_inj (by rw [digs_itoa h1 h2, h3])
 refine ⟨?_, e, h1, h2⟩
 have q := atoi_itoa h1 h2
 rw [e] at q
 exact q
theorem num_not {l : List UInt8} (h : numB (bz l) = false) (v : Int) (h1 : -9999 ≤ v) (h2 : v ≤ 9999) : itoa v ≠ l := fun e => by
 have q : digs v = bz l := by rw [← digs_itoa h1 h2, e]
 have hv : valN (bz l) = v := by rw [← q, valN_digs h1 h2]
 unfold numB at h
 rw [decide_eq_false_iff_not] at h
 exact h ⟨by rw [hv]; exact h1, by rw [hv]; exact h2, by rw [hv, q]⟩
end Go.Proofs.YtomppblgalepjaaGreatDoor

/- The package variables that a text's numbers lean on (layer 14): what the rows list, and that it stays. -/
namespace Go.Proofs.YtomppblgalepjaaGreatDoor
open Go.RowKit Go.Lib Go.Joins
set_option linter.unusedVariables false
def LV (w : World) : Prop := (∃ tp p, w.var? Tryz.prog "strconv.ErrSyntax" = some #[.iface tp p]) ∧ (∃ tp p, w.var? Tryz.prog "strconv.ErrRange" = some #[.iface tp p]) ∧ TabIs Tryz.prog w "internal/strconv.uint64pow10" .u64 pow10Tab
theorem gES : Tryz.prog.globalNamed "strconv.ErrSyntax" = some 0 := by kernel_rfl
theorem gER : Tryz.prog.globalNamed "strconv.ErrRange" = some 1 := by kernel_rfl
theorem gPW : Tryz.prog.globalNamed "internal/strconv.uint64pow10" = some 2 := by kernel_rfl
theorem gESt : (Tryz.prog.globals[0]?).map (·.type) = some 143 := by kernel_rfl
theorem gERt : (Tryz.prog.globals[1]?).map (·.type) = some 143 := by kernel_rfl
theorem gPWt : (Tryz.prog.globals[2]?).map (·.type) = some 177 := by kernel_rfl
theorem LV.below {w w' : World} (h : LV w) (hb : Below w.heap.size w w') : LV w' := by
 obtain ⟨⟨t1, p1, h1⟩, ⟨t2, p2, h2⟩, h3⟩ := h
 exact ⟨⟨t1, p1, var_stays gES h1 hb (Nat.le_refl _)⟩, ⟨t2, p2, var_stays gER h2 hb (Nat.le_refl _)⟩, tab_stays gPW h3 hb (Nat.le_refl _)⟩
theorem star : "*" ++ "errors.errorString" = "*errors.errorString" := by decide
theorem rowES (u : TypeId) (h : Tryz.prog.typeName? 3 u = some "*errors.errorString") : u = 173 :=
 typeName_ptr_named (nm := "errors.errorString") (by rw [star]; kernel_rfl) (by kernel_rfl) (by decide) u (by rw [star]; exact h)
theorem cellsES : Tryz.prog.cellsOf 175 = 1 := by kernel_rfl
theorem cellsST : Tryz.prog.cellsOf 9 = 1 := by kernel_rfl
theorem cellsPW : Tryz.prog.cellsOf 177 = 20 := by kernel_rfl
theorem cellsU64 : Tryz.prog.cellsOf 158 = 1 := by kernel_rfl
theorem lv_of {W : World} (h : laidMetH Tryz.prog Rows.sortsOfRow.laid W) : LV W := by
 rw [MakeChecks.laidMetH_plain _ _ _ (by kernel_rfl)] at h
 have h3 := h.tail.tail
 have e : (Rows.laid_internal_strconv_uint64pow10 : DataW Unit) = tabData .u64 pow10Tab := by kernel_rfl
 rw [e] at h3
 have k3 := tabIs_of_head gPW gPWt Tryz.underlying177 Tryz.underlying158 cellsU64 cellsPW h3
 obtain ⟨a1, s1, v1, _⟩ := laid_sentinel h3.tail gER gERt Tryz.underlying143 rowES Tryz.underlying173 Tryz.underlying175 rfl rfl Tryz.underlying9 cellsES cellsST
 obtain ⟨a2, s2, v2, _⟩ := laid_sentinel h3.tail.tail gES gESt Tryz.underlying143 rowES Tryz.underlying173 Tryz.underlying175 rfl rfl Tryz.underlying9 cellsES cellsST
 exact ⟨⟨_, _, v2⟩, ⟨_, _, v1⟩, k3⟩
end Go.Proofs.YtomppblgalepjaaGreatDoor

