/- A line that is none, told (layer 15): the reader gives up by a panic, and its caller takes it. -/
import Derived.Test.YtadmibfnjhockaaDoorNR6
import Derived.Defers
import Derived.Recover
import Derived.Tactics2
import Derived.Laws.Pointers
namespace Go.Proofs.YtadmibfnjhockaaDoor
open Go.RowKit Go.Lib
set_option linter.unusedVariables false
/-- Two variables are written; else nothing that was there turns. -/
def Two2 (ga ge : Nat) (a e : Int) (w w' : World) : Prop := BX w' ga #[.int .i64 a] 3 ∧ BX w' ge #[.int .i64 e] 24 ∧ w.heap.size ≤ w'.heap.size ∧ (∀ g, g < w.heap.size → g ≠ ga → g ≠ ge → w'.heap[g]? = w.heap[g]?) ∧ w'.os = w.os ∧ w'.tape = w.tape ∧ w'.output = w.output
theorem Two2.put {ga ge : Nat} {w W : World} {a e a' e' : Int} (h : Two2 ga ge a e w W) (hne : ga ≠ ge) : Two2 ga ge a' e' w ((W.setCell ⟨ga, 0, none⟩ (.int .i64 a')).setCell ⟨ge, 0, none⟩ (.int .i64 e')) := by
  obtain ⟨h1, h2, h3, h4, h5⟩ := h
  refine ⟨BX.other (h1.set 0 (.int .i64 a')) (Ne.symm hne) 0 _, (BX.other h2 hne 0 _).set 0 (.int .i64 e'), by simp [World.setCell]; exact h3, fun g hg n1 n2 => ?_, h5⟩
  simp [World.setCell, Array.getElem?_modify, Ne.symm n1, Ne.symm n2]
  exact h4 g hg n1 n2
theorem Two2.refl {ga ge : Nat} {w : World} {a e : Int} (h1 : BX w ga #[.int .i64 a] 3) (h2 : BX w ge #[.int .i64 e] 24) : Two2 ga ge a e w w := ⟨h1, h2, Nat.le_refl _, fun _ _ _ _ => rfl, rfl, rfl, rfl⟩
theorem Two2.below {ga ge : Nat} {w W W' : World} {a e : Int} (h : Two2 ga ge a e w W) (hb : Below W.heap.size W W') : Two2 ga ge a e w W' := ⟨h.1.below hb, h.2.1.below hb, Nat.le_trans h.2.2.1 hb.size, fun g hg n1 n2 => (hb.block g (Nat.lt_of_lt_of_le hg h.2.2.1)).trans (h.2.2.2.1 g hg n1 n2), hb.os.trans h.2.2.2.2.1, hb.tape.trans h.2.2.2.2.2.1, hb.output.trans h.2.2.2.2.2.2⟩
theorem Two2.bel {ga ge N : Nat} {u w w' : World} {a e : Int} (h : Two2 ga ge a e w w') (hb : Below N u w) (hN : N ≤ w.heap.size) (h1 : N ≤ ga) (h2 : N ≤ ge) : Below N u w' := hb.trans ⟨h.2.2.2.2.1, h.2.2.2.2.2.1, h.2.2.2.2.2.2, h.2.2.1, fun g hg => h.2.2.2.1 g (by omega) (by omega) (by omega)⟩
set_option maxHeartbeats 2000000 in
theorem tell_pan (ga ge : Nat) (y z : Int) (w : World) (h1 : BX w ga #[.int .i64 y] 3) (h2 : BX w ge #[.int .i64 z] 24) (hne : ga ≠ ge) (x : Int) : CallsD Tryd.prog 23 #[.pointer (some ⟨ga, 0, none⟩), .pointer (some ⟨ge, 0, none⟩)] (.panicking [{ v := noL x, recovered := false }]) w fun e u' w' => e = .returned (.tuple #[]) ∧ u' = .panicking [{ v := noL x, recovered := true }] ∧ Two2 ga ge x 2 w w' := by
  have HW := hide (Two2.refl h1 h2)
  clear h1 h2
  have hta : ∀ (W : World), (Instr.typeAssert (.iface 51 (.agg #[.int .i64 x])) 20 51 true).run Tryd.prog W = .ok (.tuple #[.agg #[.int .i64 x], .bool true]) W := fun W => by kernel_rfl
  unfold noL
  refine callsD_of_wpS Tryd.func23 rfl fun c₀ cs hu => ?_
  apply wpS_seq
  apply wpS_region
  simp [wpOpsS, go_sem, recoverD, hu, Tryd.ntmps23, Exit.thenS]
  rw [show (#[.pointer (some ⟨ga, 0, none⟩), .pointer (some ⟨ge, 0, none⟩)] ++ ((Array.replicate 16 undef).setIfInBounds 3 (.iface 51 (.agg #[.int .i64 x]))).setIfInBounds 0 (.iface 51 (.agg #[.int .i64 x])) : Array Value) = #[.pointer (some ⟨ga, 0, none⟩), .pointer (some ⟨ge, 0, none⟩), .iface 51 (.agg #[.int .i64 x]), undef, undef, .iface 51 (.agg #[.int .i64 x]), undef, undef, undef, undef, undef, undef, undef, undef, undef, undef, undef, undef] from by kernel_rfl]
  refine wpS_of_wp ?_
  have bq := bel1 w (.cells #[.int .i64 x] 51)
  have HX : Hid (BX (w.alloc (.cells #[.int .i64 x] 51)) w.heap.size #[.int .i64 x] 51) := BX.new w _ rfl _ _
  replace HW := hide (HW.out.below bq)
  clear bq
  go_upto_region 3 with fail
  generalize w.alloc (.cells #[.int .i64 x] 51) = w1 at *
  have x0 := HX.out.cell 0 _ rfl
  have a0 := HW.out.1.cell 0 _ rfl
  have a1 := HW.out.1.free 0
  have e0 := HW.out.2.1.cell 0 _ rfl
  have e1 := HW.out.2.1.free 0
  go_wp2
  simp [bodyPostS, results, Tryd.results23]
  exact HW.out.put hne
set_option maxHeartbeats 2000000 in
theorem tell_idle (ga ge : Nat) (w : World) : CallsD Tryd.prog 23 #[.pointer (some ⟨ga, 0, none⟩), .pointer (some ⟨ge, 0, none⟩)] .returning w fun e u' w' => e = .returned (.tuple #[]) ∧ u' = .returning ∧ w' = w := by
  refine callsD_of_wpS Tryd.func23 rfl fun c₀ cs hu => ?_
  apply wpS_seq
  apply wpS_region
  simp [wpOpsS, go_sem, recoverD, hu, Tryd.ntmps23, Exit.thenS]
  rw [show (#[.pointer (some ⟨ga, 0, none⟩), .pointer (some ⟨ge, 0, none⟩)] ++ ((Array.replicate 16 undef).setIfInBounds 3 .nilIface).setIfInBounds 0 .nilIface : Array Value) = #[.pointer (some ⟨ga, 0, none⟩), .pointer (some ⟨ge, 0, none⟩), .nilIface, undef, undef, .nilIface, undef, undef, undef, undef, undef, undef, undef, undef, undef, undef, undef, undef] from by kernel_rfl]
  refine wpS_of_wp ?_
  go_wp2
  cases c₀
  simp_all [bodyPostS, results, Tryd.results23]
/-- What the lines of tokens are told to be. -/
def TlQ (w : World) (R : Except Int (List Dc)) (e : Ending) (w' : World) : Prop := (∃ ds v, R = .ok ds ∧ e = .returned (.tuple #[v, .int .i64 0, .int .i64 0]) ∧ OwnF 7 RDc 32 w.heap.size w' v ds ∧ ds.length ≤ 800 ∧ Below w.heap.size w w') ∨ (∃ x, R = .error x ∧ e = .returned (.tuple #[.slice none 0 0, .int .i64 x, .int .i64 2]) ∧ Below w.heap.size w w')
set_option maxRecDepth 2000 in
set_option maxHeartbeats 4000000 in
theorem tell15 (a : Option Addr) (c : Nat) (l : List Tk) (w : World) (hK : KS w a l.length l) (hC : CP a l.length c) (hA : ∀ b, a = some b → b.block < w.heap.size) (hE : EndT l) (hTx : Txt0 l) (hNm : Num0 l) (hZ : EndZ l) (h8 : l.length ≤ 800) {R : Except Int (List Dc)} (hR : linX l [] = R) : Calls Tryd.prog 15 #[.slice a l.length c] w (TlQ w R) := by
  have b1 := bel1 w (.cells #[.int .i64 0] 3)
  have b2 := bel1 (w.alloc (.cells #[.int .i64 0] 3)) (.cells #[.int .i64 0] 24)
  have b3 := bel1 ((w.alloc (.cells #[.int .i64 0] 3)).alloc (.cells #[.int .i64 0] 24)) (.cells #[.slice a l.length c] 54)
  have s1 : (w.alloc (.cells #[.int .i64 0] 3)).heap.size = w.heap.size + 1 := by first | rfl | simp
  have s2 : ((w.alloc (.cells #[.int .i64 0] 3)).alloc (.cells #[.int .i64 0] 24)).heap.size = w.heap.size + 2 := by first | rfl | simp
  have HA : Hid (BX (((w.alloc (.cells #[.int .i64 0] 3)).alloc (.cells #[.int .i64 0] 24)).alloc (.cells #[.slice a l.length c] 54)) w.heap.size #[.int .i64 0] 3) := ((BX.new w _ rfl _ _).below b2).below b3
  have HE : Hid (BX (((w.alloc (.cells #[.int .i64 0] 3)).alloc (.cells #[.int .i64 0] 24)).alloc (.cells #[.slice a l.length c] 54)) (w.heap.size + 1) #[.int .i64 0] 24) := (BX.new (w.alloc (.cells #[.int .i64 0] 3)) _ s1.symm _ _).below b3
  have HX : Hid (BX (((w.alloc (.cells #[.int .i64 0] 3)).alloc (.cells #[.int .i64 0] 24)).alloc (.cells #[.slice a l.length c] 54)) (w.heap.size + 2) #[.slice a l.length c] 54) := BX.new ((w.alloc (.cells #[.int .i64 0] 3)).alloc (.cells #[.int .i64 0] 24)) _ s2.symm _ _
  have HB : Hid (Below w.heap.size w (((w.alloc (.cells #[.int .i64 0] 3)).alloc (.cells #[.int .i64 0] 24)).alloc (.cells #[.slice a l.length c] 54))) := bel_next (bel_next b1 b2) b3
  have hsz : (((w.alloc (.cells #[.int .i64 0] 3)).alloc (.cells #[.int .i64 0] 24)).alloc (.cells #[.slice a l.length c] 54)).heap.size = w.heap.size + 3 := by first | rfl | simp
  have HR : Hid (RP (w.heap.size + 2) (((w.alloc (.cells #[.int .i64 0] 3)).alloc (.cells #[.int .i64 0] 24)).alloc (.cells #[.slice a l.length c] 54)) l) := ⟨a, c, HX.out, ((hK.below b1).below b2).below b3, hC, fun b hb => by have := hA b hb; omega⟩
  have HLS := hide (fun W => lines15 (D := w.heap.size + 2) hE hTx hNm hZ h8 hR W)
  clear b1 b2 b3 s1 s2 hK hC hA hE hTx hNm hZ h8 hR HX
  obtain ⟨ga, hga⟩ : ∃ g, w.heap.size = g := ⟨_, rfl⟩
  obtain ⟨ge, hge⟩ : ∃ g, ga + 1 = g := ⟨_, rfl⟩
  obtain ⟨D, hD⟩ : ∃ g, ge + 1 = g := ⟨_, rfl⟩
  have hD2 : ga + 2 = D := by omega
  have hmf : ∀ (fn : Fn) (first cap : Array Value) (w : World), (Instr.makeFunc fn first cap).run Tryd.prog w = .ok (.func fn first cap) w := fun _ _ _ _ => rfl
  go_enter_defers Tryd.func15, Tryd.ntmps15
  go_upto_region 3 with fail
  rw [hga, hge] at HE
  rw [hga] at HA
  rw [hga, hD2] at HR HLS
  rw [hga] at hsz
  try rw [hD]
  have hgaD : ga < D := by omega
  have hgeD : ge < D := by omega
  have hnea : ga ≠ D := by omega
  have hnee : ge ≠ D := by omega
  have hne : ga ≠ ge := by omega
  have hgw : w.heap.size ≤ ga := by omega
  have hgw2 : w.heap.size ≤ ge := by omega
  have hDw : w.heap.size ≤ D := by omega
  generalize hw3 : ((w.alloc (.cells #[.int .i64 0] 3)).alloc (.cells #[.int .i64 0] 24)).alloc (.cells #[.slice a l.length c] 54) = w3 at *
  have hDN : D < w3.heap.size := by omega
  clear hw3 hD hD2 hge hga hsz
  have hN3 : w.heap.size ≤ w3.heap.size := HB.out.size
  rcases R with x | ds
  · have HL2 : Hid (∀ W, RP D W l → Calls Tryd.prog 24 #[.pointer (some ⟨D, 0, none⟩)] W fun e w' => e = .panicked [{ v := noL x, recovered := false }] ∧ GB D W w') := fun W hW => (HLS.out W hW).mono (by
      rintro e w' (⟨_, _, h, _⟩ | ⟨y, h, rfl, hb⟩)
      · cases h
      · cases h; exact ⟨rfl, hb⟩)
    clear HLS
    go_wp2_with (go_at_call 24; refine (HL2.out _ HR.out).mono ?_; rintro e w4 ⟨rfl, hb⟩; replace HA := hide (HA.out.gb hb hnea); replace HE := hide (HE.out.gb hb hnee); have HB4 := hide (GB.bel HB.out hb hN3 hDw); clear hb)
    refine leaves_cons (f := 23) (args := #[.pointer (some ⟨ga, 0, none⟩), .pointer (some ⟨ge, 0, none⟩)]) (by simp) (by simp [go_sem]) ?_
    refine (tell_pan ga ge 0 0 _ HA.out HE.out hne x).mono ?_
    rintro e u' w5 ⟨rfl, rfl, hw5⟩
    have a0 := hw5.1.cell 0 _ rfl
    have e0 := hw5.2.1.cell 0 _ rfl
    have HB5 : Hid (Below w.heap.size w w5) := hw5.bel HB4.out HB4.out.size hgw hgw2
    clear hw5
    simp [Leaves, settle, results, Tryd.results15, go_sem, a0, e0]
    exact .inr ⟨x, rfl, rfl, HB5.out⟩
  · have HL2 : Hid (∀ W, RP D W l → Calls Tryd.prog 24 #[.pointer (some ⟨D, 0, none⟩)] W fun e w' => ∃ v, e = .returned v ∧ OwnF 7 (RDx D) 32 W.heap.size w' v ds ∧ ds.length ≤ 800 ∧ GB D W w') := fun W hW => (HLS.out W hW).mono (by
      rintro e w' (⟨_, v, h, rfl, h2⟩ | ⟨y, h, _⟩)
      · cases h; exact ⟨v, rfl, h2⟩
      · cases h)
    clear HLS
    go_wp2_with (go_at_call 24; refine (HL2.out _ HR.out).mono ?_; rintro e w4 ⟨v, rfl, ho, h8, hb⟩; have HO := hide (OwnF.old2 (OwnF.old2 ho hgaD hDN 0 (.int .i64 0)) hgeD hDN 0 (.int .i64 0)); replace HA := hide (HA.out.gb hb hnea); replace HE := hide (HE.out.gb hb hnee); have HB4 := hide (GB.bel HB.out hb hN3 hDw); have a0 := HA.out.cell 0 _ rfl; have a1 := HA.out.free 0; have e0 := HE.out.cell 0 _ rfl; have e1 := HE.out.free 0; clear ho hb)
    replace HA := hide (BX.other (HA.out.set 0 (.int .i64 0)) (Ne.symm hne) 0 (.int .i64 0))
    replace HE := hide ((BX.other HE.out hne 0 (.int .i64 0)).set 0 (.int .i64 0))
    replace HB4 := hide ((HB4.out.setCell (p := ⟨ga, 0, none⟩) hgw (.int .i64 0)).setCell (p := ⟨ge, 0, none⟩) hgw2 (.int .i64 0))
    clear a0 a1 e0 e1
    generalize (w4.setCell ⟨ga, 0, none⟩ (.int .i64 0)).setCell ⟨ge, 0, none⟩ (.int .i64 0) = w6 at *
    refine leaves_cons (f := 23) (args := #[.pointer (some ⟨ga, 0, none⟩), .pointer (some ⟨ge, 0, none⟩)]) (by simp) (by simp [go_sem]) ?_
    refine (tell_idle ga ge _).mono ?_
    rintro e u' w5 ⟨rfl, rfl, rfl⟩
    have a0 := HA.out.cell 0 _ rfl
    have e0 := HE.out.cell 0 _ rfl
    simp [Leaves, settle, results, Tryd.results15, go_sem, a0, e0]
    exact .inl ⟨ds, v, rfl, rfl, (OwnF.flat HO.out).mono hN3, h8, HB4.out⟩
end Go.Proofs.YtadmibfnjhockaaDoor
