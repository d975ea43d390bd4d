/- What the statements do with both disks, act by act. -/
import Derived.Test.YteamedilcpfkgaaP6
import Derived.Test.YteamedilcpfkgaaK4
namespace Go.Proofs.Yteamedilcpfkgaa
open Go.RowKit
set_option linter.unusedVariables false
theorem Stp.then {g : Nat} {va vb va' vb' : Value} {w w2 W : World} (s : Stp g va vb va' vb' w w2) (hb : Below w.heap.size w2 W) : Stp g va vb va' vb' w W :=
  ⟨fun k hk hn => by rw [hb.block k hk, s.1 k hk hn], s.2.1, Nat.le_trans s.2.2 hb.size⟩
theorem Own.moved {N : Nat} {w W : World} {v : Value} {l : List Int} {k0 : Nat} (h : Own N w v l) (hm : ∀ k D r, BX w k D r → k0 ≠ k → BX W k D r) (hk : v.ownBlock ≠ some k0) : Own N W v l := by
  refine ⟨h.1, ?_⟩
  rcases h.2 with hn | ⟨g', cap, cur, rfl, hb', hgg, rest⟩
  · exact .inl hn
  · exact .inr ⟨g', cap, cur, rfl, hb', hm g' cur _ hgg (fun e => hk (by simp [Value.ownBlock, e])), rest⟩
theorem PD.moved {N g : Nat} {w W : World} {va vb : Value} {d : Dk} {k0 : Nat} (h : PD N g w va vb d) (hm : ∀ k D r, BX w k D r → k0 ≠ k → BX W k D r) (hk : ¬ Xs g va vb k0) : PD N g W va vb d :=
  ⟨hm _ _ _ h.1 (fun e => hk (.inl e)), h.2.1.moved hm (fun e => hk (.inr (.inl e))), h.2.2.1.moved hm (fun e => hk (.inr (.inr e))), h.2.2.2⟩
theorem PD.notX {N g : Nat} {w : World} {va vb : Value} {d : Dk} (h : PD N g w va vb d) {k : Nat} (hk : w.heap.size ≤ k) : ¬ Xs g va vb k := fun e => by
  have := h.xs k e
  omega
theorem Stp.notX {g : Nat} {va vb va' vb' : Value} {w w' : World} (s : Stp g va vb va' vb' w w') {k : Nat} (hk : k < w.heap.size) (hn : ¬ Xs g va vb k) : ¬ Xs g va' vb' k := fun e => by
  rcases s.2.1 k e with q | q
  · exact hn q
  · omega
theorem NSN.ns {N : Nat} {w : World} {p : Option Addr} {n : Nat} {l : List Int} (h : NSN N w p n l) : NS w p n l := by
  obtain ⟨h1, h2, h3 | ⟨b, off, rfl, h3, h4⟩⟩ := h
  · exact ⟨h1, h2, .inl h3⟩
  · refine ⟨h1, h2, .inr ⟨b, off, rfl, fun i hi => h4 i _ ?_⟩⟩
    rw [List.getD_eq_getElem?_getD, List.getElem?_eq_getElem (by omega)]
    rfl
theorem NSN.below {N : Nat} {w w' : World} {p : Option Addr} {n : Nat} {l : List Int} (h : NSN N w p n l) (hb : Below w.heap.size w w') (hN : N ≤ w.heap.size) : NSN N w' p n l := h.keep (hb.mono hN)
theorem BSX.weak {X Y : Nat → Prop} {w : World} {p : Option Addr} {n : Nat} {l : List Int} (h : BSX X w p n l) (hxy : ∀ b, Y b → X b) : BSX Y w p n l := ⟨h.1, h.2.imp id fun q a ha hy => q a ha (hxy _ hy)⟩
/-- What an act makes of the program's disk, and of the document's. -/
def lawP (d : Dk) (x : Ac) : Dk := if x.o = 0 then (d.pact 0 x.i x.b).1 else if x.o = 1 then (d.pact 1 x.i []).1 else if x.o = 2 then (d.pact 2 x.i []).1 else if x.o = 3 then d.halt x.n else if x.o = 4 then d.crash x.ks else d
def lawR (f : Dk) (x : Ac) : Dk := if x.o = 0 ∨ x.o = 1 ∨ x.o = 2 then (f.act x.o x.i x.b).1 else if x.o = 3 then { f with stop := if x.n < 0 then -1 else x.n } else if x.o = 4 then f.crash x.ks else f
def LD (N g : Nat) (va vb : Value) (w : World) (e1 e2 : Dk) (e : Ending) (w' : World) : Prop := ∃ va' vb' y b, e = .returned (.tuple #[y, .bool b]) ∧ PD N g w' va' vb' e1 ∧ RD (Xs g va' vb') w' y e2 ∧ Stp g va vb va' vb' w w' ∧ Below N w w'
set_option maxHeartbeats 4000000 in
theorem Do1 {N g : Nat} {va vb : Value} {d f : Dk} (v : Value) (x : Ac) (pB : Option Addr) (nB cB : Nat) (pK : Option Addr) (nK cK : Nat) (w : World) (h : PD N g w va vb d) (hr : RD (Xs g va vb) w v f) (hf : f.ok) (hB : BSX (Xs g va vb) w pB nB x.b) (hC : CP pB nB cB) (hK : NSN N w pK nK x.ks) :
    Calls Try.prog 9 #[.pointer (some ⟨g, 0, none⟩), v, .agg #[.int .i64 1, .int .i64 x.i, .slice pB nB cB, .int .i64 x.n, .slice pK nK cK]] w (LD N g va vb w (d.pact 1 x.i []).1 (f.act 1 x.i x.b).1) := by
  have HR0 := hide hr
  obtain ⟨pa, ca, pb, cb, rfl, _⟩ := hr
  have hN := h.hN
  have UB : Hid (Below w.heap.size w (((w.alloc (.cells #[.slice pa f.a.l.length ca, .int .i64 f.a.s, .slice pb f.b.l.length cb, .int .i64 f.b.s, .int .i64 f.room, .int .i64 f.stop, .bool f.dead] 33)).alloc (.cells #[.int .i64 1, .int .i64 x.i, .slice pB nB cB, .int .i64 x.n, .slice pK nK cK] 39)).alloc (.cells #[.slice none 0 0, .int .i64 0, .slice none 0 0, .int .i64 0, .int .i64 0, .int .i64 0, .bool false] 33))) := bel_next (bel2 w (.cells #[.slice pa f.a.l.length ca, .int .i64 f.a.s, .slice pb f.b.l.length cb, .int .i64 f.b.s, .int .i64 f.room, .int .i64 f.stop, .bool f.dead] 33) (.cells #[.int .i64 1, .int .i64 x.i, .slice pB nB cB, .int .i64 x.n, .slice pK nK cK] 39)) (bel1 _ _)
  have b0 : Hid (BX (((w.alloc (.cells #[.slice pa f.a.l.length ca, .int .i64 f.a.s, .slice pb f.b.l.length cb, .int .i64 f.b.s, .int .i64 f.room, .int .i64 f.stop, .bool f.dead] 33)).alloc (.cells #[.int .i64 1, .int .i64 x.i, .slice pB nB cB, .int .i64 x.n, .slice pK nK cK] 39)).alloc (.cells #[.slice none 0 0, .int .i64 0, .slice none 0 0, .int .i64 0, .int .i64 0, .int .i64 0, .bool false] 33)) w.heap.size #[.slice pa f.a.l.length ca, .int .i64 f.a.s, .slice pb f.b.l.length cb, .int .i64 f.b.s, .int .i64 f.room, .int .i64 f.stop, .bool f.dead] 33) := (BX.alloc (BX.alloc (BX.new w w.heap.size rfl _ _) _) _)
  have b1 : Hid (BX (((w.alloc (.cells #[.slice pa f.a.l.length ca, .int .i64 f.a.s, .slice pb f.b.l.length cb, .int .i64 f.b.s, .int .i64 f.room, .int .i64 f.stop, .bool f.dead] 33)).alloc (.cells #[.int .i64 1, .int .i64 x.i, .slice pB nB cB, .int .i64 x.n, .slice pK nK cK] 39)).alloc (.cells #[.slice none 0 0, .int .i64 0, .slice none 0 0, .int .i64 0, .int .i64 0, .int .i64 0, .bool false] 33)) (w.heap.size + 1) #[.int .i64 1, .int .i64 x.i, .slice pB nB cB, .int .i64 x.n, .slice pK nK cK] 39) := BX.alloc (BX.new (w.alloc (.cells #[.slice pa f.a.l.length ca, .int .i64 f.a.s, .slice pb f.b.l.length cb, .int .i64 f.b.s, .int .i64 f.room, .int .i64 f.stop, .bool f.dead] 33)) (w.heap.size + 1) (by simp) _ _) _
  have b2 : Hid (BX (((w.alloc (.cells #[.slice pa f.a.l.length ca, .int .i64 f.a.s, .slice pb f.b.l.length cb, .int .i64 f.b.s, .int .i64 f.room, .int .i64 f.stop, .bool f.dead] 33)).alloc (.cells #[.int .i64 1, .int .i64 x.i, .slice pB nB cB, .int .i64 x.n, .slice pK nK cK] 39)).alloc (.cells #[.slice none 0 0, .int .i64 0, .slice none 0 0, .int .i64 0, .int .i64 0, .int .i64 0, .bool false] 33)) (w.heap.size + 1 + 1) #[.slice none 0 0, .int .i64 0, .slice none 0 0, .int .i64 0, .int .i64 0, .int .i64 0, .bool false] 33) := BX.new ((w.alloc (.cells #[.slice pa f.a.l.length ca, .int .i64 f.a.s, .slice pb f.b.l.length cb, .int .i64 f.b.s, .int .i64 f.room, .int .i64 f.stop, .bool f.dead] 33)).alloc (.cells #[.int .i64 1, .int .i64 x.i, .slice pB nB cB, .int .i64 x.n, .slice pK nK cK] 39)) (w.heap.size + 1 + 1) (by simp) _ _
  have PU := hide (h.below UB.out)
  have RU := hide (HR0.out.below UB.out)
  have BU := hide (hB.below UB.out)
  have KU := hide (hK.below UB.out hN)
  have n0 : Hid (¬ Xs g va vb w.heap.size) := h.notX (by omega)
  have n1 : Hid (¬ Xs g va vb (w.heap.size + 1)) := h.notX (by omega)
  have n2 : Hid (¬ Xs g va vb (w.heap.size + 1 + 1)) := h.notX (by omega)
  have HF := hide hf
  have HN := hide hN
  clear h hB hK HR0 hf hN
  go_enter Try.func9, Try.ntmps9
  go_wp2_with fail
  refine (Clear_any x.i _ PU.out).mono ?_
  rintro e w1 ⟨va', vb', rfl, hp, hs, hb⟩
  generalize (d.pact 1 x.i []).2 = pc at *
  have s0 : Stp g va vb va' vb' w w1 := (Stp.below UB.out).trans hs
  have S := hide s0
  have m0 := hide (hs.notX b0.out.size n0.out)
  have m1 := hide (hs.notX b1.out.size n1.out)
  have m2 := hide (hs.notX b2.out.size n2.out)
  have g0 := b0.out.stp hs n0.out
  have g1 := b1.out.stp hs n1.out
  have g2 := b2.out.stp hs n2.out
  have R1 := hide (RU.out.stp hs)
  have Q1 := hide (BU.out.stp hs)
  have K1 := hide (KU.out.keep hb)
  have P1 := hide hp
  have X1 := hide hp.xs
  have L1 := hide ((UB.out.mono HN.out).trans hb)
  have c0 := g0.cell 0 _ rfl
  have c1 := g0.cell 1 _ rfl
  have c2 := g0.cell 2 _ rfl
  have c3 := g0.cell 3 _ rfl
  have c4 := g0.cell 4 _ rfl
  have c5 := g0.cell 5 _ rfl
  have c6 := g0.cell 6 _ rfl
  have a0 := g1.cell 0 _ rfl
  have a1 := g1.cell 1 _ rfl
  have a2 := g1.cell 2 _ rfl
  have a3 := g1.cell 3 _ rfl
  have a4 := g1.cell 4 _ rfl
  have G0 := hide g0
  have G2 := hide g2
  clear hp hs hb s0 g0 g1 g2 b0 b1 b2 PU RU BU KU n0 n1 n2
  go_wp2_with fail
  refine (actR_any _ f 1 x.i pB nB cB x.b w1 R1.out HF.out Q1.out.1 hC X1.out).mono ?_
  rintro e w2 ⟨y, rfl, hy, hb⟩
  generalize (f.act 1 x.i x.b).1 = ff at *
  generalize (f.act 1 x.i x.b).2 = fc at *
  have HY := hide hy
  obtain ⟨pa2, ca2, pb2, cb2, rfl, _⟩ := hy
  have g2 := G2.out.below hb
  have P2 := hide ((P1.out.below hb).below (bel1 w2 (.cells #[.slice pa2 ff.a.l.length ca2, .int .i64 ff.a.s, .slice pb2 ff.b.l.length cb2, .int .i64 ff.b.s, .int .i64 ff.room, .int .i64 ff.stop, .bool ff.dead] 33)))
  have Y2 := hide (HY.out.below (bel1 w2 (.cells #[.slice pa2 ff.a.l.length ca2, .int .i64 ff.a.s, .slice pb2 ff.b.l.length cb2, .int .i64 ff.b.s, .int .i64 ff.room, .int .i64 ff.stop, .bool ff.dead] 33)))
  have T2 := hide ((S.out.then (hb.mono S.out.2.2)).then ((bel1 w2 (.cells #[.slice pa2 ff.a.l.length ca2, .int .i64 ff.a.s, .slice pb2 ff.b.l.length cb2, .int .i64 ff.b.s, .int .i64 ff.room, .int .i64 ff.stop, .bool ff.dead] 33)).mono (Nat.le_trans S.out.2.2 hb.size)))
  have hN1 := P1.out.hN
  have L2 := hide ((L1.out.trans (hb.mono hN1)).trans ((bel1 w2 (.cells #[.slice pa2 ff.a.l.length ca2, .int .i64 ff.a.s, .slice pb2 ff.b.l.length cb2, .int .i64 ff.b.s, .int .i64 ff.room, .int .i64 ff.stop, .bool ff.dead] 33)).mono (Nat.le_trans hN1 hb.size)))
  have G3 := hide (g2.alloc (.cells #[.slice pa2 ff.a.l.length ca2, .int .i64 ff.a.s, .slice pb2 ff.b.l.length cb2, .int .i64 ff.b.s, .int .i64 ff.room, .int .i64 ff.stop, .bool ff.dead] 33))
  have G4 := hide (BX.new w2 w2.heap.size rfl #[.slice pa2 ff.a.l.length ca2, .int .i64 ff.a.s, .slice pb2 ff.b.l.length cb2, .int .i64 ff.b.s, .int .i64 ff.room, .int .i64 ff.stop, .bool ff.dead] 33)
  clear hb hN1 g2 G2 P1 S HY L1
  go_upto_region 20 with fail
  generalize w2.heap.size = k3 at *
  generalize w2.alloc (.cells #[.slice pa2 ff.a.l.length ca2, .int .i64 ff.a.s, .slice pb2 ff.b.l.length cb2, .int .i64 ff.b.s, .int .i64 ff.room, .int .i64 ff.stop, .bool ff.dead] 33) = w3 at *
  have d0 := G3.out.cell 0 _ rfl
  have d1 := G3.out.cell 1 _ rfl
  have d2 := G3.out.cell 2 _ rfl
  have d3 := G3.out.cell 3 _ rfl
  have d4 := G3.out.cell 4 _ rfl
  have d5 := G3.out.cell 5 _ rfl
  have d6 := G3.out.cell 6 _ rfl
  have e0 := G4.out.cell 0 _ rfl
  have e1 := G4.out.cell 1 _ rfl
  have e2 := G4.out.cell 2 _ rfl
  have e3 := G4.out.cell 3 _ rfl
  have e4 := G4.out.cell 4 _ rfl
  have e5 := G4.out.cell 5 _ rfl
  have e6 := G4.out.cell 6 _ rfl
  have hfr := fun j => G3.out.free j
  clear c0 c1 c2 c3 c4 c5 c6 a0 a1 a2 a3 a4
  go_wp2
  obtain ⟨r1, r2, r3, r4⟩ := G3.out.put7 (.slice pa2 ff.a.l.length ca2) (.int .i64 ff.a.s) (.slice pb2 ff.b.l.length cb2) (.int .i64 ff.b.s) (.int .i64 ff.room) (.int .i64 ff.stop) (.bool ff.dead)
  have LW := r3 _ _ (Below.refl w.heap.size w3) (by omega)
  exact bodyPost_ret (results_cell_tmp rfl _ _ _ _ _ _ _ _ rfl rfl r1 Try.underlying33 rfl Try.infoRD) rfl ⟨_, _, _, _, rfl, P2.out.moved r4 m2.out, Y2.out.kp r2 G3.out (NoB.disk _ _ _ _ _ _ _ _ _ _ _), T2.out.then LW, L2.out.trans (LW.mono HN.out)⟩
set_option maxHeartbeats 4000000 in
theorem Do2 {N g : Nat} {va vb : Value} {d f : Dk} (v : Value) (x : Ac) (pB : Option Addr) (nB cB : Nat) (pK : Option Addr) (nK cK : Nat) (w : World) (h : PD N g w va vb d) (hr : RD (Xs g va vb) w v f) (hf : f.ok) (hB : BSX (Xs g va vb) w pB nB x.b) (hC : CP pB nB cB) (hK : NSN N w pK nK x.ks) :
    Calls Try.prog 9 #[.pointer (some ⟨g, 0, none⟩), v, .agg #[.int .i64 2, .int .i64 x.i, .slice pB nB cB, .int .i64 x.n, .slice pK nK cK]] w (LD N g va vb w (d.pact 2 x.i []).1 (f.act 2 x.i x.b).1) := by
  have HR0 := hide hr
  obtain ⟨pa, ca, pb, cb, rfl, _⟩ := hr
  have hN := h.hN
  have UB : Hid (Below w.heap.size w (((w.alloc (.cells #[.slice pa f.a.l.length ca, .int .i64 f.a.s, .slice pb f.b.l.length cb, .int .i64 f.b.s, .int .i64 f.room, .int .i64 f.stop, .bool f.dead] 33)).alloc (.cells #[.int .i64 2, .int .i64 x.i, .slice pB nB cB, .int .i64 x.n, .slice pK nK cK] 39)).alloc (.cells #[.slice none 0 0, .int .i64 0, .slice none 0 0, .int .i64 0, .int .i64 0, .int .i64 0, .bool false] 33))) := bel_next (bel2 w (.cells #[.slice pa f.a.l.length ca, .int .i64 f.a.s, .slice pb f.b.l.length cb, .int .i64 f.b.s, .int .i64 f.room, .int .i64 f.stop, .bool f.dead] 33) (.cells #[.int .i64 2, .int .i64 x.i, .slice pB nB cB, .int .i64 x.n, .slice pK nK cK] 39)) (bel1 _ _)
  have b0 : Hid (BX (((w.alloc (.cells #[.slice pa f.a.l.length ca, .int .i64 f.a.s, .slice pb f.b.l.length cb, .int .i64 f.b.s, .int .i64 f.room, .int .i64 f.stop, .bool f.dead] 33)).alloc (.cells #[.int .i64 2, .int .i64 x.i, .slice pB nB cB, .int .i64 x.n, .slice pK nK cK] 39)).alloc (.cells #[.slice none 0 0, .int .i64 0, .slice none 0 0, .int .i64 0, .int .i64 0, .int .i64 0, .bool false] 33)) w.heap.size #[.slice pa f.a.l.length ca, .int .i64 f.a.s, .slice pb f.b.l.length cb, .int .i64 f.b.s, .int .i64 f.room, .int .i64 f.stop, .bool f.dead] 33) := (BX.alloc (BX.alloc (BX.new w w.heap.size rfl _ _) _) _)
  have b1 : Hid (BX (((w.alloc (.cells #[.slice pa f.a.l.length ca, .int .i64 f.a.s, .slice pb f.b.l.length cb, .int .i64 f.b.s, .int .i64 f.room, .int .i64 f.stop, .bool f.dead] 33)).alloc (.cells #[.int .i64 2, .int .i64 x.i, .slice pB nB cB, .int .i64 x.n, .slice pK nK cK] 39)).alloc (.cells #[.slice none 0 0, .int .i64 0, .slice none 0 0, .int .i64 0, .int .i64 0, .int .i64 0, .bool false] 33)) (w.heap.size + 1) #[.int .i64 2, .int .i64 x.i, .slice pB nB cB, .int .i64 x.n, .slice pK nK cK] 39) := BX.alloc (BX.new (w.alloc (.cells #[.slice pa f.a.l.length ca, .int .i64 f.a.s, .slice pb f.b.l.length cb, .int .i64 f.b.s, .int .i64 f.room, .int .i64 f.stop, .bool f.dead] 33)) (w.heap.size + 1) (by simp) _ _) _
  have b2 : Hid (BX (((w.alloc (.cells #[.slice pa f.a.l.length ca, .int .i64 f.a.s, .slice pb f.b.l.length cb, .int .i64 f.b.s, .int .i64 f.room, .int .i64 f.stop, .bool f.dead] 33)).alloc (.cells #[.int .i64 2, .int .i64 x.i, .slice pB nB cB, .int .i64 x.n, .slice pK nK cK] 39)).alloc (.cells #[.slice none 0 0, .int .i64 0, .slice none 0 0, .int .i64 0, .int .i64 0, .int .i64 0, .bool false] 33)) (w.heap.size + 1 + 1) #[.slice none 0 0, .int .i64 0, .slice none 0 0, .int .i64 0, .int .i64 0, .int .i64 0, .bool false] 33) := BX.new ((w.alloc (.cells #[.slice pa f.a.l.length ca, .int .i64 f.a.s, .slice pb f.b.l.length cb, .int .i64 f.b.s, .int .i64 f.room, .int .i64 f.stop, .bool f.dead] 33)).alloc (.cells #[.int .i64 2, .int .i64 x.i, .slice pB nB cB, .int .i64 x.n, .slice pK nK cK] 39)) (w.heap.size + 1 + 1) (by simp) _ _
  have PU := hide (h.below UB.out)
  have RU := hide (HR0.out.below UB.out)
  have BU := hide (hB.below UB.out)
  have KU := hide (hK.below UB.out hN)
  have n0 : Hid (¬ Xs g va vb w.heap.size) := h.notX (by omega)
  have n1 : Hid (¬ Xs g va vb (w.heap.size + 1)) := h.notX (by omega)
  have n2 : Hid (¬ Xs g va vb (w.heap.size + 1 + 1)) := h.notX (by omega)
  have HF := hide hf
  have HN := hide hN
  clear h hB hK HR0 hf hN
  go_enter Try.func9, Try.ntmps9
  go_wp2_with fail
  refine (Sync_any x.i _ PU.out).mono ?_
  rintro e w1 ⟨va', vb', rfl, hp, hs, hb⟩
  generalize (d.pact 2 x.i []).2 = pc at *
  have s0 : Stp g va vb va' vb' w w1 := (Stp.below UB.out).trans hs
  have S := hide s0
  have m0 := hide (hs.notX b0.out.size n0.out)
  have m1 := hide (hs.notX b1.out.size n1.out)
  have m2 := hide (hs.notX b2.out.size n2.out)
  have g0 := b0.out.stp hs n0.out
  have g1 := b1.out.stp hs n1.out
  have g2 := b2.out.stp hs n2.out
  have R1 := hide (RU.out.stp hs)
  have Q1 := hide (BU.out.stp hs)
  have K1 := hide (KU.out.keep hb)
  have P1 := hide hp
  have X1 := hide hp.xs
  have L1 := hide ((UB.out.mono HN.out).trans hb)
  have c0 := g0.cell 0 _ rfl
  have c1 := g0.cell 1 _ rfl
  have c2 := g0.cell 2 _ rfl
  have c3 := g0.cell 3 _ rfl
  have c4 := g0.cell 4 _ rfl
  have c5 := g0.cell 5 _ rfl
  have c6 := g0.cell 6 _ rfl
  have a0 := g1.cell 0 _ rfl
  have a1 := g1.cell 1 _ rfl
  have a2 := g1.cell 2 _ rfl
  have a3 := g1.cell 3 _ rfl
  have a4 := g1.cell 4 _ rfl
  have G0 := hide g0
  have G2 := hide g2
  clear hp hs hb s0 g0 g1 g2 b0 b1 b2 PU RU BU KU n0 n1 n2
  go_wp2_with fail
  refine (actR_any _ f 2 x.i pB nB cB x.b w1 R1.out HF.out Q1.out.1 hC X1.out).mono ?_
  rintro e w2 ⟨y, rfl, hy, hb⟩
  generalize (f.act 2 x.i x.b).1 = ff at *
  generalize (f.act 2 x.i x.b).2 = fc at *
  have HY := hide hy
  obtain ⟨pa2, ca2, pb2, cb2, rfl, _⟩ := hy
  have g2 := G2.out.below hb
  have P2 := hide ((P1.out.below hb).below (bel1 w2 (.cells #[.slice pa2 ff.a.l.length ca2, .int .i64 ff.a.s, .slice pb2 ff.b.l.length cb2, .int .i64 ff.b.s, .int .i64 ff.room, .int .i64 ff.stop, .bool ff.dead] 33)))
  have Y2 := hide (HY.out.below (bel1 w2 (.cells #[.slice pa2 ff.a.l.length ca2, .int .i64 ff.a.s, .slice pb2 ff.b.l.length cb2, .int .i64 ff.b.s, .int .i64 ff.room, .int .i64 ff.stop, .bool ff.dead] 33)))
  have T2 := hide ((S.out.then (hb.mono S.out.2.2)).then ((bel1 w2 (.cells #[.slice pa2 ff.a.l.length ca2, .int .i64 ff.a.s, .slice pb2 ff.b.l.length cb2, .int .i64 ff.b.s, .int .i64 ff.room, .int .i64 ff.stop, .bool ff.dead] 33)).mono (Nat.le_trans S.out.2.2 hb.size)))
  have hN1 := P1.out.hN
  have L2 := hide ((L1.out.trans (hb.mono hN1)).trans ((bel1 w2 (.cells #[.slice pa2 ff.a.l.length ca2, .int .i64 ff.a.s, .slice pb2 ff.b.l.length cb2, .int .i64 ff.b.s, .int .i64 ff.room, .int .i64 ff.stop, .bool ff.dead] 33)).mono (Nat.le_trans hN1 hb.size)))
  have G3 := hide (g2.alloc (.cells #[.slice pa2 ff.a.l.length ca2, .int .i64 ff.a.s, .slice pb2 ff.b.l.length cb2, .int .i64 ff.b.s, .int .i64 ff.room, .int .i64 ff.stop, .bool ff.dead] 33))
  have G4 := hide (BX.new w2 w2.heap.size rfl #[.slice pa2 ff.a.l.length ca2, .int .i64 ff.a.s, .slice pb2 ff.b.l.length cb2, .int .i64 ff.b.s, .int .i64 ff.room, .int .i64 ff.stop, .bool ff.dead] 33)
  clear hb hN1 g2 G2 P1 S HY L1
  go_upto_region 20 with fail
  generalize w2.heap.size = k3 at *
  generalize w2.alloc (.cells #[.slice pa2 ff.a.l.length ca2, .int .i64 ff.a.s, .slice pb2 ff.b.l.length cb2, .int .i64 ff.b.s, .int .i64 ff.room, .int .i64 ff.stop, .bool ff.dead] 33) = w3 at *
  have d0 := G3.out.cell 0 _ rfl
  have d1 := G3.out.cell 1 _ rfl
  have d2 := G3.out.cell 2 _ rfl
  have d3 := G3.out.cell 3 _ rfl
  have d4 := G3.out.cell 4 _ rfl
  have d5 := G3.out.cell 5 _ rfl
  have d6 := G3.out.cell 6 _ rfl
  have e0 := G4.out.cell 0 _ rfl
  have e1 := G4.out.cell 1 _ rfl
  have e2 := G4.out.cell 2 _ rfl
  have e3 := G4.out.cell 3 _ rfl
  have e4 := G4.out.cell 4 _ rfl
  have e5 := G4.out.cell 5 _ rfl
  have e6 := G4.out.cell 6 _ rfl
  have hfr := fun j => G3.out.free j
  clear c0 c1 c2 c3 c4 c5 c6 a0 a1 a2 a3 a4
  go_wp2
  obtain ⟨r1, r2, r3, r4⟩ := G3.out.put7 (.slice pa2 ff.a.l.length ca2) (.int .i64 ff.a.s) (.slice pb2 ff.b.l.length cb2) (.int .i64 ff.b.s) (.int .i64 ff.room) (.int .i64 ff.stop) (.bool ff.dead)
  have LW := r3 _ _ (Below.refl w.heap.size w3) (by omega)
  exact bodyPost_ret (results_cell_tmp rfl _ _ _ _ _ _ _ _ rfl rfl r1 Try.underlying33 rfl Try.infoRD) rfl ⟨_, _, _, _, rfl, P2.out.moved r4 m2.out, Y2.out.kp r2 G3.out (NoB.disk _ _ _ _ _ _ _ _ _ _ _), T2.out.then LW, L2.out.trans (LW.mono HN.out)⟩
set_option maxHeartbeats 4000000 in
theorem Do0 {N g : Nat} {va vb : Value} {d f : Dk} (v : Value) (x : Ac) (pB : Option Addr) (nB cB : Nat) (pK : Option Addr) (nK cK : Nat) (w : World) (h : PD N g w va vb d) (hr : RD (Xs g va vb) w v f) (hf : f.ok) (hB : BSX (Xs g va vb) w pB nB x.b) (hC : CP pB nB cB) (hK : NSN N w pK nK x.ks) (hfew : x.b.length ≤ 200) :
    Calls Try.prog 9 #[.pointer (some ⟨g, 0, none⟩), v, .agg #[.int .i64 0, .int .i64 x.i, .slice pB nB cB, .int .i64 x.n, .slice pK nK cK]] w (LD N g va vb w (d.pact 0 x.i x.b).1 (f.act 0 x.i x.b).1) := by
  have HR0 := hide hr
  obtain ⟨pa, ca, pb, cb, rfl, _⟩ := hr
  have hN := h.hN
  have UB : Hid (Below w.heap.size w (((w.alloc (.cells #[.slice pa f.a.l.length ca, .int .i64 f.a.s, .slice pb f.b.l.length cb, .int .i64 f.b.s, .int .i64 f.room, .int .i64 f.stop, .bool f.dead] 33)).alloc (.cells #[.int .i64 0, .int .i64 x.i, .slice pB nB cB, .int .i64 x.n, .slice pK nK cK] 39)).alloc (.cells #[.slice none 0 0, .int .i64 0, .slice none 0 0, .int .i64 0, .int .i64 0, .int .i64 0, .bool false] 33))) := bel_next (bel2 w (.cells #[.slice pa f.a.l.length ca, .int .i64 f.a.s, .slice pb f.b.l.length cb, .int .i64 f.b.s, .int .i64 f.room, .int .i64 f.stop, .bool f.dead] 33) (.cells #[.int .i64 0, .int .i64 x.i, .slice pB nB cB, .int .i64 x.n, .slice pK nK cK] 39)) (bel1 _ _)
  have b0 : Hid (BX (((w.alloc (.cells #[.slice pa f.a.l.length ca, .int .i64 f.a.s, .slice pb f.b.l.length cb, .int .i64 f.b.s, .int .i64 f.room, .int .i64 f.stop, .bool f.dead] 33)).alloc (.cells #[.int .i64 0, .int .i64 x.i, .slice pB nB cB, .int .i64 x.n, .slice pK nK cK] 39)).alloc (.cells #[.slice none 0 0, .int .i64 0, .slice none 0 0, .int .i64 0, .int .i64 0, .int .i64 0, .bool false] 33)) w.heap.size #[.slice pa f.a.l.length ca, .int .i64 f.a.s, .slice pb f.b.l.length cb, .int .i64 f.b.s, .int .i64 f.room, .int .i64 f.stop, .bool f.dead] 33) := (BX.alloc (BX.alloc (BX.new w w.heap.size rfl _ _) _) _)
  have b1 : Hid (BX (((w.alloc (.cells #[.slice pa f.a.l.length ca, .int .i64 f.a.s, .slice pb f.b.l.length cb, .int .i64 f.b.s, .int .i64 f.room, .int .i64 f.stop, .bool f.dead] 33)).alloc (.cells #[.int .i64 0, .int .i64 x.i, .slice pB nB cB, .int .i64 x.n, .slice pK nK cK] 39)).alloc (.cells #[.slice none 0 0, .int .i64 0, .slice none 0 0, .int .i64 0, .int .i64 0, .int .i64 0, .bool false] 33)) (w.heap.size + 1) #[.int .i64 0, .int .i64 x.i, .slice pB nB cB, .int .i64 x.n, .slice pK nK cK] 39) := BX.alloc (BX.new (w.alloc (.cells #[.slice pa f.a.l.length ca, .int .i64 f.a.s, .slice pb f.b.l.length cb, .int .i64 f.b.s, .int .i64 f.room, .int .i64 f.stop, .bool f.dead] 33)) (w.heap.size + 1) (by simp) _ _) _
  have b2 : Hid (BX (((w.alloc (.cells #[.slice pa f.a.l.length ca, .int .i64 f.a.s, .slice pb f.b.l.length cb, .int .i64 f.b.s, .int .i64 f.room, .int .i64 f.stop, .bool f.dead] 33)).alloc (.cells #[.int .i64 0, .int .i64 x.i, .slice pB nB cB, .int .i64 x.n, .slice pK nK cK] 39)).alloc (.cells #[.slice none 0 0, .int .i64 0, .slice none 0 0, .int .i64 0, .int .i64 0, .int .i64 0, .bool false] 33)) (w.heap.size + 1 + 1) #[.slice none 0 0, .int .i64 0, .slice none 0 0, .int .i64 0, .int .i64 0, .int .i64 0, .bool false] 33) := BX.new ((w.alloc (.cells #[.slice pa f.a.l.length ca, .int .i64 f.a.s, .slice pb f.b.l.length cb, .int .i64 f.b.s, .int .i64 f.room, .int .i64 f.stop, .bool f.dead] 33)).alloc (.cells #[.int .i64 0, .int .i64 x.i, .slice pB nB cB, .int .i64 x.n, .slice pK nK cK] 39)) (w.heap.size + 1 + 1) (by simp) _ _
  have PU := hide (h.below UB.out)
  have RU := hide (HR0.out.below UB.out)
  have BU := hide (hB.below UB.out)
  have KU := hide (hK.below UB.out hN)
  have n0 : Hid (¬ Xs g va vb w.heap.size) := h.notX (by omega)
  have n1 : Hid (¬ Xs g va vb (w.heap.size + 1)) := h.notX (by omega)
  have n2 : Hid (¬ Xs g va vb (w.heap.size + 1 + 1)) := h.notX (by omega)
  have HF := hide hf
  have HN := hide hN
  clear h hB hK HR0 hf hN
  go_enter Try.func9, Try.ntmps9
  go_upto_region 5 with fail
  generalize (((w.alloc (.cells #[.slice pa f.a.l.length ca, .int .i64 f.a.s, .slice pb f.b.l.length cb, .int .i64 f.b.s, .int .i64 f.room, .int .i64 f.stop, .bool f.dead] 33)).alloc (.cells #[.int .i64 0, .int .i64 x.i, .slice pB nB cB, .int .i64 x.n, .slice pK nK cK] 39)).alloc (.cells #[.slice none 0 0, .int .i64 0, .slice none 0 0, .int .i64 0, .int .i64 0, .int .i64 0, .bool false] 33)) = u at *
  refine wp_region_held_drew (S := fun W => BX W (w.heap.size + 1) #[.int .i64 0, .int .i64 x.i, .slice pB nB cB, .int .i64 x.n, .slice pK nK cK] 39) (by kernel_rfl) (b1.out.drew) (fun hS0 => ?_)
  refine takeInH 0 16 ?v1 rfl rfl (by kernel_rfl) (by kernel_rfl) (by kernel_rfl) (fun _ _ _ h => h) (by kernel_rfl) hS0 ?hy1 ?_
  case hy1 => (intro W hW; clear hW; go_simp; try rfl)
  simp only [Act.put, List.setIfInBounds_toArray, List.set_cons_zero, List.set_cons_succ]
  refine takeInH 1 17 ?v2 rfl rfl (by kernel_rfl) (by kernel_rfl) (by kernel_rfl) (fun _ _ _ h => h) (by kernel_rfl) hS0 ?hy2 ?_
  case hy2 => (intro W hW; clear hW; go_simp; try rfl)
  simp only [Act.put, List.setIfInBounds_toArray, List.set_cons_zero, List.set_cons_succ]
  refine takeInH 2 18 ?v3 rfl rfl (by kernel_rfl) (by kernel_rfl) (by kernel_rfl) (fun _ _ _ h => h) (by kernel_rfl) hS0 ?hy3 ?_
  case hy3 => (intro W hW; have e0 := hW.cell 1 _ rfl; have e1 := hW.cell 2 _ rfl; clear hW; go_simp; try rfl)
  simp only [Act.put, List.setIfInBounds_toArray, List.set_cons_zero, List.set_cons_succ]
  refine takeInH 4 20 ?v4 rfl rfl (by kernel_rfl) (by kernel_rfl) (by kernel_rfl) (fun _ _ _ h => h) (by kernel_rfl) hS0 ?hy4 ?_
  case hy4 => (intro W hW; clear hW; go_simp; try rfl)
  simp only [Act.put, List.setIfInBounds_toArray, List.set_cons_zero, List.set_cons_succ]
  refine takeInH 5 21 ?v5 rfl rfl (by kernel_rfl) (by kernel_rfl) (by kernel_rfl) (fun _ _ _ h => h) (by kernel_rfl) hS0 ?hy5 ?_
  case hy5 => (intro W hW; have e0 := hW.cell 1 _ rfl; have e1 := hW.cell 2 _ rfl; clear hW; go_simp; try rfl)
  simp only [Act.put, List.setIfInBounds_toArray, List.set_cons_zero, List.set_cons_succ]
  refine wpAnyH_ready (rs := [3]) (by kernel_rfl) (by simp) ?_
  refine AllReadyH.cons rfl (fun K hK => ?_) AllReadyH.nil
  go_simp
  have OW := hide (Own.made u u.heap.size u.heap.size rfl (Nat.le_refl _)).drew
  have BL : Hid (Below u.heap.size u (u.alloc (.cells #[] 5)).drew) := ((Below.refl _ u).alloc (Nat.le_refl _) _).drew
  have BW := b1.out.below BL.out
  generalize (u.alloc (.cells #[] 5)).drew = wA at *
  refine hK.out _ _ ?hs6 (fun hS1 => ?_)
  case hs6 => exact BW
  clear hK K
  try simp only [Act.put, List.setIfInBounds_toArray, List.set_cons_zero, List.set_cons_succ]
  refine wpAnyH_ready (rs := [6]) (by kernel_rfl) (by simp) ?_
  refine AllReadyH.cons rfl (fun K hK => ?_) AllReadyH.nil
  rw [if_pos (by kernel_rfl)]
  refine append_bw _ _ rfl u.heap.size _ [] x.b rfl OW.out pB nB cB rfl hC.2.2 (BU.out.1.below BL.out) (by simp; omega) BL.out.size ?_
  intro v1 wB ho hgr hbel
  rw [List.nil_append] at ho
  obtain ⟨p1, c1, rfl, hbs, hcp1⟩ := ho.open BU.out.1.2.2.1
  have BS1 := hide hbs
  replace BL := hide (hbel _ BL.out)
  have BW := b1.out.below BL.out
  clear OW hbs ho hgr hbel
  change K (Act.put _ (some 22) _) _
  refine hK.out _ _ ?hs7 (fun hS2 => ?_)
  case hs7 => exact BW
  clear hK K
  try simp only [Act.put, List.setIfInBounds_toArray, List.set_cons_zero, List.set_cons_succ]
  refine wpAnyH_ready (rs := [7]) (by kernel_rfl) (by simp) ?_
  refine AllReadyH.cons rfl (fun K hK => ?_) AllReadyH.nil
  go_simp
  refine (Append_any x.i p1 _ c1 x.b wB (PU.out.below BL.out) BS1.out hcp1).mono ?_
  rintro e w1 ⟨va', vb', rfl, hp, hs', hb'⟩
  have hs : Stp g va vb va' vb' u w1 := (Stp.below BL.out).trans hs'
  have hb : Below N u w1 := (BL.out.mono PU.out.hN).trans hb'
  have BW := b1.out.stp hs n1.out
  clear hs' hb' BS1 BL
  generalize (d.pact 0 x.i x.b).2 = pc at *
  try go_wp2_with fail
  refine hK.out _ _ ?hs8 (fun hS3 => ?_)
  case hs8 => exact BW
  clear hK K
  try simp only [Act.put, List.setIfInBounds_toArray, List.set_cons_zero, List.set_cons_succ]
  refine takeInH 8 8 ?v9 rfl rfl (by kernel_rfl) (by kernel_rfl) (by kernel_rfl) (fun _ _ _ h => h) (by kernel_rfl) hS3 ?hy9 ?_
  case hy9 => (intro W hW; clear hW; go_simp; try rfl)
  simp only [Act.put, List.setIfInBounds_toArray, List.set_cons_zero, List.set_cons_succ]
  refine wpAnyH_done (by kernel_rfl) ?_ _
  have s0 : Stp g va vb va' vb' w w1 := (Stp.below UB.out).trans hs
  have S := hide s0
  have m0 := hide (hs.notX b0.out.size n0.out)
  have m1 := hide (hs.notX b1.out.size n1.out)
  have m2 := hide (hs.notX b2.out.size n2.out)
  have g0 := b0.out.stp hs n0.out
  have g1 := b1.out.stp hs n1.out
  have g2 := b2.out.stp hs n2.out
  have R1 := hide (RU.out.stp hs)
  have Q1 := hide (BU.out.stp hs)
  have K1 := hide (KU.out.keep hb)
  have P1 := hide hp
  have X1 := hide hp.xs
  have L1 := hide ((UB.out.mono HN.out).trans hb)
  have c0 := g0.cell 0 _ rfl
  have c1 := g0.cell 1 _ rfl
  have c2 := g0.cell 2 _ rfl
  have c3 := g0.cell 3 _ rfl
  have c4 := g0.cell 4 _ rfl
  have c5 := g0.cell 5 _ rfl
  have c6 := g0.cell 6 _ rfl
  have a0 := g1.cell 0 _ rfl
  have a1 := g1.cell 1 _ rfl
  have a2 := g1.cell 2 _ rfl
  have a3 := g1.cell 3 _ rfl
  have a4 := g1.cell 4 _ rfl
  have G0 := hide g0
  have G2 := hide g2
  clear hp hs hb s0 g0 g1 g2 b0 b1 b2 PU RU BU KU n0 n1 n2
  go_wp2_with fail
  refine (actR_any _ f 0 x.i pB nB cB x.b w1 R1.out HF.out Q1.out.1 hC X1.out).mono ?_
  rintro e w2 ⟨y, rfl, hy, hb⟩
  generalize (f.act 0 x.i x.b).1 = ff at *
  generalize (f.act 0 x.i x.b).2 = fc at *
  have HY := hide hy
  obtain ⟨pa2, ca2, pb2, cb2, rfl, _⟩ := hy
  have g2 := G2.out.below hb
  have P2 := hide ((P1.out.below hb).below (bel1 w2 (.cells #[.slice pa2 ff.a.l.length ca2, .int .i64 ff.a.s, .slice pb2 ff.b.l.length cb2, .int .i64 ff.b.s, .int .i64 ff.room, .int .i64 ff.stop, .bool ff.dead] 33)))
  have Y2 := hide (HY.out.below (bel1 w2 (.cells #[.slice pa2 ff.a.l.length ca2, .int .i64 ff.a.s, .slice pb2 ff.b.l.length cb2, .int .i64 ff.b.s, .int .i64 ff.room, .int .i64 ff.stop, .bool ff.dead] 33)))
  have T2 := hide ((S.out.then (hb.mono S.out.2.2)).then ((bel1 w2 (.cells #[.slice pa2 ff.a.l.length ca2, .int .i64 ff.a.s, .slice pb2 ff.b.l.length cb2, .int .i64 ff.b.s, .int .i64 ff.room, .int .i64 ff.stop, .bool ff.dead] 33)).mono (Nat.le_trans S.out.2.2 hb.size)))
  have hN1 := P1.out.hN
  have L2 := hide ((L1.out.trans (hb.mono hN1)).trans ((bel1 w2 (.cells #[.slice pa2 ff.a.l.length ca2, .int .i64 ff.a.s, .slice pb2 ff.b.l.length cb2, .int .i64 ff.b.s, .int .i64 ff.room, .int .i64 ff.stop, .bool ff.dead] 33)).mono (Nat.le_trans hN1 hb.size)))
  have G3 := hide (g2.alloc (.cells #[.slice pa2 ff.a.l.length ca2, .int .i64 ff.a.s, .slice pb2 ff.b.l.length cb2, .int .i64 ff.b.s, .int .i64 ff.room, .int .i64 ff.stop, .bool ff.dead] 33))
  have G4 := hide (BX.new w2 w2.heap.size rfl #[.slice pa2 ff.a.l.length ca2, .int .i64 ff.a.s, .slice pb2 ff.b.l.length cb2, .int .i64 ff.b.s, .int .i64 ff.room, .int .i64 ff.stop, .bool ff.dead] 33)
  clear hb hN1 g2 G2 P1 S HY L1
  go_upto_region 20 with fail
  generalize w2.heap.size = k3 at *
  generalize w2.alloc (.cells #[.slice pa2 ff.a.l.length ca2, .int .i64 ff.a.s, .slice pb2 ff.b.l.length cb2, .int .i64 ff.b.s, .int .i64 ff.room, .int .i64 ff.stop, .bool ff.dead] 33) = w3 at *
  have d0 := G3.out.cell 0 _ rfl
  have d1 := G3.out.cell 1 _ rfl
  have d2 := G3.out.cell 2 _ rfl
  have d3 := G3.out.cell 3 _ rfl
  have d4 := G3.out.cell 4 _ rfl
  have d5 := G3.out.cell 5 _ rfl
  have d6 := G3.out.cell 6 _ rfl
  have e0 := G4.out.cell 0 _ rfl
  have e1 := G4.out.cell 1 _ rfl
  have e2 := G4.out.cell 2 _ rfl
  have e3 := G4.out.cell 3 _ rfl
  have e4 := G4.out.cell 4 _ rfl
  have e5 := G4.out.cell 5 _ rfl
  have e6 := G4.out.cell 6 _ rfl
  have hfr := fun j => G3.out.free j
  clear c0 c1 c2 c3 c4 c5 c6 a0 a1 a2 a3 a4
  go_wp2
  obtain ⟨r1, r2, r3, r4⟩ := G3.out.put7 (.slice pa2 ff.a.l.length ca2) (.int .i64 ff.a.s) (.slice pb2 ff.b.l.length cb2) (.int .i64 ff.b.s) (.int .i64 ff.room) (.int .i64 ff.stop) (.bool ff.dead)
  have LW := r3 _ _ (Below.refl w.heap.size w3) (by omega)
  exact bodyPost_ret (results_cell_tmp rfl _ _ _ _ _ _ _ _ rfl rfl r1 Try.underlying33 rfl Try.infoRD) rfl ⟨_, _, _, _, rfl, P2.out.moved r4 m2.out, Y2.out.kp r2 G3.out (NoB.disk _ _ _ _ _ _ _ _ _ _ _), T2.out.then LW, L2.out.trans (LW.mono HN.out)⟩
theorem RD.halt {X : Nat → Prop} {w : World} {pa pb : Option Addr} {ca cb : Nat} {f : Dk} (h : RD X w (.agg #[.slice pa f.a.l.length ca, .int .i64 f.a.s, .slice pb f.b.l.length cb, .int .i64 f.b.s, .int .i64 f.room, .int .i64 f.stop, .bool f.dead]) f) (z : Int) : RD X w (.agg #[.slice pa f.a.l.length ca, .int .i64 f.a.s, .slice pb f.b.l.length cb, .int .i64 f.b.s, .int .i64 f.room, .int .i64 z, .bool f.dead]) { f with stop := z } := by
  obtain ⟨qa, qc, qb, qd, hv, h1, h2, h3, h4⟩ := h
  cases hv
  exact ⟨pa, ca, pb, cb, rfl, h1, h2, h3, h4⟩
set_option maxHeartbeats 4000000 in
theorem Do3n {N g : Nat} {va vb : Value} {d f : Dk} (v : Value) (x : Ac) (pB : Option Addr) (nB cB : Nat) (pK : Option Addr) (nK cK : Nat) (w : World) (h : PD N g w va vb d) (hr : RD (Xs g va vb) w v f) (hf : f.ok) (hB : BSX (Xs g va vb) w pB nB x.b) (hC : CP pB nB cB) (hK : NSN N w pK nK x.ks) (hn : x.n ≤ 9223372036854775807) (hz : x.n < 0) :
    Calls Try.prog 9 #[.pointer (some ⟨g, 0, none⟩), v, .agg #[.int .i64 3, .int .i64 x.i, .slice pB nB cB, .int .i64 x.n, .slice pK nK cK]] w (LD N g va vb w (d.halt x.n) { f with stop := (-1) }) := by
  have HR0 := hide hr
  obtain ⟨pa, ca, pb, cb, rfl, _⟩ := hr
  have hN := h.hN
  have UB : Hid (Below w.heap.size w (((w.alloc (.cells #[.slice pa f.a.l.length ca, .int .i64 f.a.s, .slice pb f.b.l.length cb, .int .i64 f.b.s, .int .i64 f.room, .int .i64 f.stop, .bool f.dead] 33)).alloc (.cells #[.int .i64 3, .int .i64 x.i, .slice pB nB cB, .int .i64 x.n, .slice pK nK cK] 39)).alloc (.cells #[.slice none 0 0, .int .i64 0, .slice none 0 0, .int .i64 0, .int .i64 0, .int .i64 0, .bool false] 33))) := bel_next (bel2 w (.cells #[.slice pa f.a.l.length ca, .int .i64 f.a.s, .slice pb f.b.l.length cb, .int .i64 f.b.s, .int .i64 f.room, .int .i64 f.stop, .bool f.dead] 33) (.cells #[.int .i64 3, .int .i64 x.i, .slice pB nB cB, .int .i64 x.n, .slice pK nK cK] 39)) (bel1 _ _)
  have b0 : Hid (BX (((w.alloc (.cells #[.slice pa f.a.l.length ca, .int .i64 f.a.s, .slice pb f.b.l.length cb, .int .i64 f.b.s, .int .i64 f.room, .int .i64 f.stop, .bool f.dead] 33)).alloc (.cells #[.int .i64 3, .int .i64 x.i, .slice pB nB cB, .int .i64 x.n, .slice pK nK cK] 39)).alloc (.cells #[.slice none 0 0, .int .i64 0, .slice none 0 0, .int .i64 0, .int .i64 0, .int .i64 0, .bool false] 33)) w.heap.size #[.slice pa f.a.l.length ca, .int .i64 f.a.s, .slice pb f.b.l.length cb, .int .i64 f.b.s, .int .i64 f.room, .int .i64 f.stop, .bool f.dead] 33) := (BX.alloc (BX.alloc (BX.new w w.heap.size rfl _ _) _) _)
  have b1 : Hid (BX (((w.alloc (.cells #[.slice pa f.a.l.length ca, .int .i64 f.a.s, .slice pb f.b.l.length cb, .int .i64 f.b.s, .int .i64 f.room, .int .i64 f.stop, .bool f.dead] 33)).alloc (.cells #[.int .i64 3, .int .i64 x.i, .slice pB nB cB, .int .i64 x.n, .slice pK nK cK] 39)).alloc (.cells #[.slice none 0 0, .int .i64 0, .slice none 0 0, .int .i64 0, .int .i64 0, .int .i64 0, .bool false] 33)) (w.heap.size + 1) #[.int .i64 3, .int .i64 x.i, .slice pB nB cB, .int .i64 x.n, .slice pK nK cK] 39) := BX.alloc (BX.new (w.alloc (.cells #[.slice pa f.a.l.length ca, .int .i64 f.a.s, .slice pb f.b.l.length cb, .int .i64 f.b.s, .int .i64 f.room, .int .i64 f.stop, .bool f.dead] 33)) (w.heap.size + 1) (by simp) _ _) _
  have b2 : Hid (BX (((w.alloc (.cells #[.slice pa f.a.l.length ca, .int .i64 f.a.s, .slice pb f.b.l.length cb, .int .i64 f.b.s, .int .i64 f.room, .int .i64 f.stop, .bool f.dead] 33)).alloc (.cells #[.int .i64 3, .int .i64 x.i, .slice pB nB cB, .int .i64 x.n, .slice pK nK cK] 39)).alloc (.cells #[.slice none 0 0, .int .i64 0, .slice none 0 0, .int .i64 0, .int .i64 0, .int .i64 0, .bool false] 33)) (w.heap.size + 1 + 1) #[.slice none 0 0, .int .i64 0, .slice none 0 0, .int .i64 0, .int .i64 0, .int .i64 0, .bool false] 33) := BX.new ((w.alloc (.cells #[.slice pa f.a.l.length ca, .int .i64 f.a.s, .slice pb f.b.l.length cb, .int .i64 f.b.s, .int .i64 f.room, .int .i64 f.stop, .bool f.dead] 33)).alloc (.cells #[.int .i64 3, .int .i64 x.i, .slice pB nB cB, .int .i64 x.n, .slice pK nK cK] 39)) (w.heap.size + 1 + 1) (by simp) _ _
  have PU := hide (h.below UB.out)
  have RU := hide (HR0.out.below UB.out)
  have BU := hide (hB.below UB.out)
  have KU := hide (hK.below UB.out hN)
  have n0 : Hid (¬ Xs g va vb w.heap.size) := h.notX (by omega)
  have n1 : Hid (¬ Xs g va vb (w.heap.size + 1)) := h.notX (by omega)
  have n2 : Hid (¬ Xs g va vb (w.heap.size + 1 + 1)) := h.notX (by omega)
  have HF := hide hf
  have HN := hide hN
  clear h hB hK HR0 hf hN
  go_enter Try.func9, Try.ntmps9
  go_wp2_with fail
  refine (Stop_any x.n _ PU.out hn).mono ?_
  rintro e w1 ⟨rfl, hp, hs, hb⟩
  have s0 : Stp g va vb va vb w w1 := (Stp.below UB.out).trans hs
  have S := hide s0
  have m0 := hide (hs.notX b0.out.size n0.out)
  have m1 := hide (hs.notX b1.out.size n1.out)
  have m2 := hide (hs.notX b2.out.size n2.out)
  have g0 := b0.out.stp hs n0.out
  have g1 := b1.out.stp hs n1.out
  have g2 := b2.out.stp hs n2.out
  have R1 := hide (RU.out.stp hs)
  have Q1 := hide (BU.out.stp hs)
  have K1 := hide (KU.out.keep hb)
  have P1 := hide hp
  have X1 := hide hp.xs
  have L1 := hide ((UB.out.mono HN.out).trans hb)
  have c0 := g0.cell 0 _ rfl
  have c1 := g0.cell 1 _ rfl
  have c2 := g0.cell 2 _ rfl
  have c3 := g0.cell 3 _ rfl
  have c4 := g0.cell 4 _ rfl
  have c5 := g0.cell 5 _ rfl
  have c6 := g0.cell 6 _ rfl
  have a0 := g1.cell 0 _ rfl
  have a1 := g1.cell 1 _ rfl
  have a2 := g1.cell 2 _ rfl
  have a3 := g1.cell 3 _ rfl
  have a4 := g1.cell 4 _ rfl
  have G0 := hide g0
  have G2 := hide g2
  clear hp hs hb s0 g0 g1 g2 b0 b1 b2 PU RU BU KU n0 n1 n2
  have hf0 := fun j => G0.out.free j
  have KK : Hid (KP w.heap.size w1 ((w1.setCell ⟨w.heap.size, 5, none⟩ (.int .i64 x.n)).setCell ⟨w.heap.size, 5, none⟩ (.int .i64 (-1)))) := ((KP.refl w.heap.size w1).set 5 (.int .i64 x.n)).set 5 (.int .i64 (-1))
  have BB : Hid (Below w.heap.size w1 ((w1.setCell ⟨w.heap.size, 5, none⟩ (.int .i64 x.n)).setCell ⟨w.heap.size, 5, none⟩ (.int .i64 (-1)))) := ((Below.refl w.heap.size w1).setCell (p := ⟨w.heap.size, 5, none⟩) (Nat.le_refl _) _).setCell (p := ⟨w.heap.size, 5, none⟩) (Nat.le_refl _) _
  have P2 : Hid (PD N g ((w1.setCell ⟨w.heap.size, 5, none⟩ (.int .i64 x.n)).setCell ⟨w.heap.size, 5, none⟩ (.int .i64 (-1))) va vb (d.halt x.n)) := (P1.out.moved (fun k D r hk hne => hk.other hne 5 (.int .i64 x.n)) m0.out).moved (fun k D r hk hne => hk.other hne 5 (.int .i64 (-1))) m0.out
  have T2 := hide (S.out.then BB.out)
  have L2 := hide (L1.out.trans (BB.out.mono HN.out))
  have FB := hide ((G0.out.set 5 (.int .i64 x.n)).free 5)
  have fb5 := FB.out
  have cb5 := (G0.out.set 5 (.int .i64 x.n)).cell 5 _ rfl
  go_upto_region 15 with fail
  have G3 := hide ((G2.out.other (k := w.heap.size) (by omega) 5 (.int .i64 x.n)).other (k := w.heap.size) (by omega) 5 (.int .i64 (-1)))
  have G4 : Hid (BX ((w1.setCell ⟨w.heap.size, 5, none⟩ (.int .i64 x.n)).setCell ⟨w.heap.size, 5, none⟩ (.int .i64 (-1))) w.heap.size #[.slice pa f.a.l.length ca, .int .i64 f.a.s, .slice pb f.b.l.length cb, .int .i64 f.b.s, .int .i64 f.room, .int .i64 (-1), .bool f.dead] 33) := (G0.out.set 5 (.int .i64 x.n)).set 5 (.int .i64 (-1))
  have Y2 : Hid (RD (Xs g va vb) ((w1.setCell ⟨w.heap.size, 5, none⟩ (.int .i64 x.n)).setCell ⟨w.heap.size, 5, none⟩ (.int .i64 (-1))) (.agg #[.slice pa f.a.l.length ca, .int .i64 f.a.s, .slice pb f.b.l.length cb, .int .i64 f.b.s, .int .i64 f.room, .int .i64 (-1), .bool f.dead]) { f with stop := (-1) }) := (R1.out.kp KK.out G0.out (NoB.disk _ _ _ _ _ _ _ _ _ _ _)).halt _
  generalize ((w1.setCell ⟨w.heap.size, 5, none⟩ (.int .i64 x.n)).setCell ⟨w.heap.size, 5, none⟩ (.int .i64 (-1))) = w3 at *
  have d0 := G3.out.cell 0 _ rfl
  have d1 := G3.out.cell 1 _ rfl
  have d2 := G3.out.cell 2 _ rfl
  have d3 := G3.out.cell 3 _ rfl
  have d4 := G3.out.cell 4 _ rfl
  have d5 := G3.out.cell 5 _ rfl
  have d6 := G3.out.cell 6 _ rfl
  have e0 := G4.out.cell 0 _ rfl
  have e1 := G4.out.cell 1 _ rfl
  have e2 := G4.out.cell 2 _ rfl
  have e3 := G4.out.cell 3 _ rfl
  have e4 := G4.out.cell 4 _ rfl
  have e5 := G4.out.cell 5 _ rfl
  have e6 := G4.out.cell 6 _ rfl
  have hfr := fun j => G3.out.free j
  go_wp2
  obtain ⟨r1, r2, r3, r4⟩ := G3.out.put7 (.slice pa f.a.l.length ca) (.int .i64 f.a.s) (.slice pb f.b.l.length cb) (.int .i64 f.b.s) (.int .i64 f.room) (.int .i64 (-1)) (.bool f.dead)
  have LW := r3 _ _ (Below.refl w.heap.size w3) (by omega)
  exact bodyPost_ret (results_cell_tmp rfl _ _ _ _ _ _ _ _ rfl rfl r1 Try.underlying33 rfl Try.infoRD) rfl ⟨_, _, _, _, rfl, P2.out.moved r4 m2.out, Y2.out.kp r2 G3.out (NoB.disk _ _ _ _ _ _ _ _ _ _ _), T2.out.then LW, L2.out.trans (LW.mono HN.out)⟩
set_option maxHeartbeats 4000000 in
theorem Do3p {N g : Nat} {va vb : Value} {d f : Dk} (v : Value) (x : Ac) (pB : Option Addr) (nB cB : Nat) (pK : Option Addr) (nK cK : Nat) (w : World) (h : PD N g w va vb d) (hr : RD (Xs g va vb) w v f) (hf : f.ok) (hB : BSX (Xs g va vb) w pB nB x.b) (hC : CP pB nB cB) (hK : NSN N w pK nK x.ks) (hn : x.n ≤ 9223372036854775807) (hz : ¬ x.n < 0) :
    Calls Try.prog 9 #[.pointer (some ⟨g, 0, none⟩), v, .agg #[.int .i64 3, .int .i64 x.i, .slice pB nB cB, .int .i64 x.n, .slice pK nK cK]] w (LD N g va vb w (d.halt x.n) { f with stop := x.n }) := by
  have HR0 := hide hr
  obtain ⟨pa, ca, pb, cb, rfl, _⟩ := hr
  have hN := h.hN
  have UB : Hid (Below w.heap.size w (((w.alloc (.cells #[.slice pa f.a.l.length ca, .int .i64 f.a.s, .slice pb f.b.l.length cb, .int .i64 f.b.s, .int .i64 f.room, .int .i64 f.stop, .bool f.dead] 33)).alloc (.cells #[.int .i64 3, .int .i64 x.i, .slice pB nB cB, .int .i64 x.n, .slice pK nK cK] 39)).alloc (.cells #[.slice none 0 0, .int .i64 0, .slice none 0 0, .int .i64 0, .int .i64 0, .int .i64 0, .bool false] 33))) := bel_next (bel2 w (.cells #[.slice pa f.a.l.length ca, .int .i64 f.a.s, .slice pb f.b.l.length cb, .int .i64 f.b.s, .int .i64 f.room, .int .i64 f.stop, .bool f.dead] 33) (.cells #[.int .i64 3, .int .i64 x.i, .slice pB nB cB, .int .i64 x.n, .slice pK nK cK] 39)) (bel1 _ _)
  have b0 : Hid (BX (((w.alloc (.cells #[.slice pa f.a.l.length ca, .int .i64 f.a.s, .slice pb f.b.l.length cb, .int .i64 f.b.s, .int .i64 f.room, .int .i64 f.stop, .bool f.dead] 33)).alloc (.cells #[.int .i64 3, .int .i64 x.i, .slice pB nB cB, .int .i64 x.n, .slice pK nK cK] 39)).alloc (.cells #[.slice none 0 0, .int .i64 0, .slice none 0 0, .int .i64 0, .int .i64 0, .int .i64 0, .bool false] 33)) w.heap.size #[.slice pa f.a.l.length ca, .int .i64 f.a.s, .slice pb f.b.l.length cb, .int .i64 f.b.s, .int .i64 f.room, .int .i64 f.stop, .bool f.dead] 33) := (BX.alloc (BX.alloc (BX.new w w.heap.size rfl _ _) _) _)
  have b1 : Hid (BX (((w.alloc (.cells #[.slice pa f.a.l.length ca, .int .i64 f.a.s, .slice pb f.b.l.length cb, .int .i64 f.b.s, .int .i64 f.room, .int .i64 f.stop, .bool f.dead] 33)).alloc (.cells #[.int .i64 3, .int .i64 x.i, .slice pB nB cB, .int .i64 x.n, .slice pK nK cK] 39)).alloc (.cells #[.slice none 0 0, .int .i64 0, .slice none 0 0, .int .i64 0, .int .i64 0, .int .i64 0, .bool false] 33)) (w.heap.size + 1) #[.int .i64 3, .int .i64 x.i, .slice pB nB cB, .int .i64 x.n, .slice pK nK cK] 39) := BX.alloc (BX.new (w.alloc (.cells #[.slice pa f.a.l.length ca, .int .i64 f.a.s, .slice pb f.b.l.length cb, .int .i64 f.b.s, .int .i64 f.room, .int .i64 f.stop, .bool f.dead] 33)) (w.heap.size + 1) (by simp) _ _) _
  have b2 : Hid (BX (((w.alloc (.cells #[.slice pa f.a.l.length ca, .int .i64 f.a.s, .slice pb f.b.l.length cb, .int .i64 f.b.s, .int .i64 f.room, .int .i64 f.stop, .bool f.dead] 33)).alloc (.cells #[.int .i64 3, .int .i64 x.i, .slice pB nB cB, .int .i64 x.n, .slice pK nK cK] 39)).alloc (.cells #[.slice none 0 0, .int .i64 0, .slice none 0 0, .int .i64 0, .int .i64 0, .int .i64 0, .bool false] 33)) (w.heap.size + 1 + 1) #[.slice none 0 0, .int .i64 0, .slice none 0 0, .int .i64 0, .int .i64 0, .int .i64 0, .bool false] 33) := BX.new ((w.alloc (.cells #[.slice pa f.a.l.length ca, .int .i64 f.a.s, .slice pb f.b.l.length cb, .int .i64 f.b.s, .int .i64 f.room, .int .i64 f.stop, .bool f.dead] 33)).alloc (.cells #[.int .i64 3, .int .i64 x.i, .slice pB nB cB, .int .i64 x.n, .slice pK nK cK] 39)) (w.heap.size + 1 + 1) (by simp) _ _
  have PU := hide (h.below UB.out)
  have RU := hide (HR0.out.below UB.out)
  have BU := hide (hB.below UB.out)
  have KU := hide (hK.below UB.out hN)
  have n0 : Hid (¬ Xs g va vb w.heap.size) := h.notX (by omega)
  have n1 : Hid (¬ Xs g va vb (w.heap.size + 1)) := h.notX (by omega)
  have n2 : Hid (¬ Xs g va vb (w.heap.size + 1 + 1)) := h.notX (by omega)
  have HF := hide hf
  have HN := hide hN
  clear h hB hK HR0 hf hN
  go_enter Try.func9, Try.ntmps9
  go_wp2_with fail
  refine (Stop_any x.n _ PU.out hn).mono ?_
  rintro e w1 ⟨rfl, hp, hs, hb⟩
  have s0 : Stp g va vb va vb w w1 := (Stp.below UB.out).trans hs
  have S := hide s0
  have m0 := hide (hs.notX b0.out.size n0.out)
  have m1 := hide (hs.notX b1.out.size n1.out)
  have m2 := hide (hs.notX b2.out.size n2.out)
  have g0 := b0.out.stp hs n0.out
  have g1 := b1.out.stp hs n1.out
  have g2 := b2.out.stp hs n2.out
  have R1 := hide (RU.out.stp hs)
  have Q1 := hide (BU.out.stp hs)
  have K1 := hide (KU.out.keep hb)
  have P1 := hide hp
  have X1 := hide hp.xs
  have L1 := hide ((UB.out.mono HN.out).trans hb)
  have c0 := g0.cell 0 _ rfl
  have c1 := g0.cell 1 _ rfl
  have c2 := g0.cell 2 _ rfl
  have c3 := g0.cell 3 _ rfl
  have c4 := g0.cell 4 _ rfl
  have c5 := g0.cell 5 _ rfl
  have c6 := g0.cell 6 _ rfl
  have a0 := g1.cell 0 _ rfl
  have a1 := g1.cell 1 _ rfl
  have a2 := g1.cell 2 _ rfl
  have a3 := g1.cell 3 _ rfl
  have a4 := g1.cell 4 _ rfl
  have G0 := hide g0
  have G2 := hide g2
  clear hp hs hb s0 g0 g1 g2 b0 b1 b2 PU RU BU KU n0 n1 n2
  have hf0 := fun j => G0.out.free j
  have KK : Hid (KP w.heap.size w1 (w1.setCell ⟨w.heap.size, 5, none⟩ (.int .i64 x.n))) := (KP.refl w.heap.size w1).set 5 (.int .i64 x.n)
  have BB : Hid (Below w.heap.size w1 (w1.setCell ⟨w.heap.size, 5, none⟩ (.int .i64 x.n))) := (Below.refl w.heap.size w1).setCell (p := ⟨w.heap.size, 5, none⟩) (Nat.le_refl _) _
  have P2 : Hid (PD N g (w1.setCell ⟨w.heap.size, 5, none⟩ (.int .i64 x.n)) va vb (d.halt x.n)) := P1.out.moved (fun k D r hk hne => hk.other hne 5 (.int .i64 x.n)) m0.out
  have T2 := hide (S.out.then BB.out)
  have L2 := hide (L1.out.trans (BB.out.mono HN.out))
  have FB := hide ((G0.out.set 5 (.int .i64 x.n)).free 5)
  have fb5 := FB.out
  have cb5 := (G0.out.set 5 (.int .i64 x.n)).cell 5 _ rfl
  go_upto_region 15 with fail
  have G3 := hide (G2.out.other (k := w.heap.size) (by omega) 5 (.int .i64 x.n))
  have G4 : Hid (BX (w1.setCell ⟨w.heap.size, 5, none⟩ (.int .i64 x.n)) w.heap.size #[.slice pa f.a.l.length ca, .int .i64 f.a.s, .slice pb f.b.l.length cb, .int .i64 f.b.s, .int .i64 f.room, .int .i64 x.n, .bool f.dead] 33) := G0.out.set 5 (.int .i64 x.n)
  have Y2 : Hid (RD (Xs g va vb) (w1.setCell ⟨w.heap.size, 5, none⟩ (.int .i64 x.n)) (.agg #[.slice pa f.a.l.length ca, .int .i64 f.a.s, .slice pb f.b.l.length cb, .int .i64 f.b.s, .int .i64 f.room, .int .i64 x.n, .bool f.dead]) { f with stop := x.n }) := (R1.out.kp KK.out G0.out (NoB.disk _ _ _ _ _ _ _ _ _ _ _)).halt _
  generalize (w1.setCell ⟨w.heap.size, 5, none⟩ (.int .i64 x.n)) = w3 at *
  have d0 := G3.out.cell 0 _ rfl
  have d1 := G3.out.cell 1 _ rfl
  have d2 := G3.out.cell 2 _ rfl
  have d3 := G3.out.cell 3 _ rfl
  have d4 := G3.out.cell 4 _ rfl
  have d5 := G3.out.cell 5 _ rfl
  have d6 := G3.out.cell 6 _ rfl
  have e0 := G4.out.cell 0 _ rfl
  have e1 := G4.out.cell 1 _ rfl
  have e2 := G4.out.cell 2 _ rfl
  have e3 := G4.out.cell 3 _ rfl
  have e4 := G4.out.cell 4 _ rfl
  have e5 := G4.out.cell 5 _ rfl
  have e6 := G4.out.cell 6 _ rfl
  have hfr := fun j => G3.out.free j
  go_wp2
  obtain ⟨r1, r2, r3, r4⟩ := G3.out.put7 (.slice pa f.a.l.length ca) (.int .i64 f.a.s) (.slice pb f.b.l.length cb) (.int .i64 f.b.s) (.int .i64 f.room) (.int .i64 x.n) (.bool f.dead)
  have LW := r3 _ _ (Below.refl w.heap.size w3) (by omega)
  exact bodyPost_ret (results_cell_tmp rfl _ _ _ _ _ _ _ _ rfl rfl r1 Try.underlying33 rfl Try.infoRD) rfl ⟨_, _, _, _, rfl, P2.out.moved r4 m2.out, Y2.out.kp r2 G3.out (NoB.disk _ _ _ _ _ _ _ _ _ _ _), T2.out.then LW, L2.out.trans (LW.mono HN.out)⟩
set_option maxHeartbeats 4000000 in
theorem Do4 {N g : Nat} {va vb : Value} {d f : Dk} (v : Value) (x : Ac) (pB : Option Addr) (nB cB : Nat) (pK : Option Addr) (nK cK : Nat) (w : World) (h : PD N g w va vb d) (hr : RD (Xs g va vb) w v f) (hf : f.ok) (hB : BSX (Xs g va vb) w pB nB x.b) (hC : CP pB nB cB) (hK : NSN N w pK nK x.ks) :
    Calls Try.prog 9 #[.pointer (some ⟨g, 0, none⟩), v, .agg #[.int .i64 4, .int .i64 x.i, .slice pB nB cB, .int .i64 x.n, .slice pK nK cK]] w (LD N g va vb w (d.crash x.ks) (f.crash x.ks)) := by
  have HR0 := hide hr
  obtain ⟨pa, ca, pb, cb, rfl, _⟩ := hr
  have hN := h.hN
  have UB : Hid (Below w.heap.size w (((w.alloc (.cells #[.slice pa f.a.l.length ca, .int .i64 f.a.s, .slice pb f.b.l.length cb, .int .i64 f.b.s, .int .i64 f.room, .int .i64 f.stop, .bool f.dead] 33)).alloc (.cells #[.int .i64 4, .int .i64 x.i, .slice pB nB cB, .int .i64 x.n, .slice pK nK cK] 39)).alloc (.cells #[.slice none 0 0, .int .i64 0, .slice none 0 0, .int .i64 0, .int .i64 0, .int .i64 0, .bool false] 33))) := bel_next (bel2 w (.cells #[.slice pa f.a.l.length ca, .int .i64 f.a.s, .slice pb f.b.l.length cb, .int .i64 f.b.s, .int .i64 f.room, .int .i64 f.stop, .bool f.dead] 33) (.cells #[.int .i64 4, .int .i64 x.i, .slice pB nB cB, .int .i64 x.n, .slice pK nK cK] 39)) (bel1 _ _)
  have b0 : Hid (BX (((w.alloc (.cells #[.slice pa f.a.l.length ca, .int .i64 f.a.s, .slice pb f.b.l.length cb, .int .i64 f.b.s, .int .i64 f.room, .int .i64 f.stop, .bool f.dead] 33)).alloc (.cells #[.int .i64 4, .int .i64 x.i, .slice pB nB cB, .int .i64 x.n, .slice pK nK cK] 39)).alloc (.cells #[.slice none 0 0, .int .i64 0, .slice none 0 0, .int .i64 0, .int .i64 0, .int .i64 0, .bool false] 33)) w.heap.size #[.slice pa f.a.l.length ca, .int .i64 f.a.s, .slice pb f.b.l.length cb, .int .i64 f.b.s, .int .i64 f.room, .int .i64 f.stop, .bool f.dead] 33) := (BX.alloc (BX.alloc (BX.new w w.heap.size rfl _ _) _) _)
  have b1 : Hid (BX (((w.alloc (.cells #[.slice pa f.a.l.length ca, .int .i64 f.a.s, .slice pb f.b.l.length cb, .int .i64 f.b.s, .int .i64 f.room, .int .i64 f.stop, .bool f.dead] 33)).alloc (.cells #[.int .i64 4, .int .i64 x.i, .slice pB nB cB, .int .i64 x.n, .slice pK nK cK] 39)).alloc (.cells #[.slice none 0 0, .int .i64 0, .slice none 0 0, .int .i64 0, .int .i64 0, .int .i64 0, .bool false] 33)) (w.heap.size + 1) #[.int .i64 4, .int .i64 x.i, .slice pB nB cB, .int .i64 x.n, .slice pK nK cK] 39) := BX.alloc (BX.new (w.alloc (.cells #[.slice pa f.a.l.length ca, .int .i64 f.a.s, .slice pb f.b.l.length cb, .int .i64 f.b.s, .int .i64 f.room, .int .i64 f.stop, .bool f.dead] 33)) (w.heap.size + 1) (by simp) _ _) _
  have b2 : Hid (BX (((w.alloc (.cells #[.slice pa f.a.l.length ca, .int .i64 f.a.s, .slice pb f.b.l.length cb, .int .i64 f.b.s, .int .i64 f.room, .int .i64 f.stop, .bool f.dead] 33)).alloc (.cells #[.int .i64 4, .int .i64 x.i, .slice pB nB cB, .int .i64 x.n, .slice pK nK cK] 39)).alloc (.cells #[.slice none 0 0, .int .i64 0, .slice none 0 0, .int .i64 0, .int .i64 0, .int .i64 0, .bool false] 33)) (w.heap.size + 1 + 1) #[.slice none 0 0, .int .i64 0, .slice none 0 0, .int .i64 0, .int .i64 0, .int .i64 0, .bool false] 33) := BX.new ((w.alloc (.cells #[.slice pa f.a.l.length ca, .int .i64 f.a.s, .slice pb f.b.l.length cb, .int .i64 f.b.s, .int .i64 f.room, .int .i64 f.stop, .bool f.dead] 33)).alloc (.cells #[.int .i64 4, .int .i64 x.i, .slice pB nB cB, .int .i64 x.n, .slice pK nK cK] 39)) (w.heap.size + 1 + 1) (by simp) _ _
  have PU := hide (h.below UB.out)
  have RU := hide (HR0.out.below UB.out)
  have BU := hide (hB.below UB.out)
  have KU := hide (hK.below UB.out hN)
  have n0 : Hid (¬ Xs g va vb w.heap.size) := h.notX (by omega)
  have n1 : Hid (¬ Xs g va vb (w.heap.size + 1)) := h.notX (by omega)
  have n2 : Hid (¬ Xs g va vb (w.heap.size + 1 + 1)) := h.notX (by omega)
  have HF := hide hf
  have HN := hide hN
  clear h hB hK HR0 hf hN
  go_enter Try.func9, Try.ntmps9
  go_wp2_with fail
  refine (Crash_any pK nK cK x.ks _ PU.out KU.out).mono ?_
  rintro e w1 ⟨va', vb', rfl, hp, hs, hb⟩
  have s0 : Stp g va vb va' vb' w w1 := (Stp.below UB.out).trans hs
  have S := hide s0
  have m0 := hide (hs.notX b0.out.size n0.out)
  have m1 := hide (hs.notX b1.out.size n1.out)
  have m2 := hide (hs.notX b2.out.size n2.out)
  have g0 := b0.out.stp hs n0.out
  have g1 := b1.out.stp hs n1.out
  have g2 := b2.out.stp hs n2.out
  have R1 := hide (RU.out.stp hs)
  have Q1 := hide (BU.out.stp hs)
  have K1 := hide (KU.out.keep hb)
  have P1 := hide hp
  have X1 := hide hp.xs
  have L1 := hide ((UB.out.mono HN.out).trans hb)
  have c0 := g0.cell 0 _ rfl
  have c1 := g0.cell 1 _ rfl
  have c2 := g0.cell 2 _ rfl
  have c3 := g0.cell 3 _ rfl
  have c4 := g0.cell 4 _ rfl
  have c5 := g0.cell 5 _ rfl
  have c6 := g0.cell 6 _ rfl
  have a0 := g1.cell 0 _ rfl
  have a1 := g1.cell 1 _ rfl
  have a2 := g1.cell 2 _ rfl
  have a3 := g1.cell 3 _ rfl
  have a4 := g1.cell 4 _ rfl
  have G0 := hide g0
  have G2 := hide g2
  clear hp hs hb s0 g0 g1 g2 b0 b1 b2 PU RU BU KU n0 n1 n2
  go_wp2_with fail
  refine (crashR_any _ f pK nK cK x.ks w1 R1.out HF.out K1.out.ns X1.out).mono ?_
  rintro e w2 ⟨y, rfl, hy, hb⟩
  generalize f.crash x.ks = ff at *
  have P2 := hide (P1.out.below hb)
  have T2 := hide (S.out.then (hb.mono S.out.2.2))
  have L2 := hide (L1.out.trans (hb.mono P1.out.hN))
  have G3 := hide (G2.out.below hb)
  have Y2 := hide hy
  obtain ⟨pa2, ca2, pb2, cb2, rfl, _⟩ := hy
  have d0 := G3.out.cell 0 _ rfl
  have d1 := G3.out.cell 1 _ rfl
  have d2 := G3.out.cell 2 _ rfl
  have d3 := G3.out.cell 3 _ rfl
  have d4 := G3.out.cell 4 _ rfl
  have d5 := G3.out.cell 5 _ rfl
  have d6 := G3.out.cell 6 _ rfl
  have hfr := fun j => G3.out.free j
  clear c0 c1 c2 c3 c4 c5 c6 a0 a1 a2 a3 a4 hb
  go_wp2
  obtain ⟨r1, r2, r3, r4⟩ := G3.out.put7 (.slice pa2 ff.a.l.length ca2) (.int .i64 ff.a.s) (.slice pb2 ff.b.l.length cb2) (.int .i64 ff.b.s) (.int .i64 ff.room) (.int .i64 ff.stop) (.bool ff.dead)
  have LW := r3 _ _ (Below.refl w.heap.size w2) (by omega)
  exact bodyPost_ret (results_cell_tmp rfl _ _ _ _ _ _ _ _ rfl rfl r1 Try.underlying33 rfl Try.infoRD) rfl ⟨_, _, _, _, rfl, P2.out.moved r4 m2.out, Y2.out.kp r2 G3.out (NoB.disk _ _ _ _ _ _ _ _ _ _ _), T2.out.then LW, L2.out.trans (LW.mono HN.out)⟩
set_option maxHeartbeats 4000000 in
theorem DoE {N g : Nat} {va vb : Value} {d f : Dk} (v : Value) (x : Ac) (pB : Option Addr) (nB cB : Nat) (pK : Option Addr) (nK cK : Nat) (w : World) (h : PD N g w va vb d) (hr : RD (Xs g va vb) w v f) (hf : f.ok) (hB : BSX (Xs g va vb) w pB nB x.b) (hC : CP pB nB cB) (hK : NSN N w pK nK x.ks) (h0 : ¬ x.o = 0) (h1 : ¬ x.o = 1) (h2 : ¬ x.o = 2) (h3 : ¬ x.o = 3) (h4 : ¬ x.o = 4) :
    Calls Try.prog 9 #[.pointer (some ⟨g, 0, none⟩), v, .agg #[.int .i64 x.o, .int .i64 x.i, .slice pB nB cB, .int .i64 x.n, .slice pK nK cK]] w (LD N g va vb w d f) := by
  have HR0 := hide hr
  obtain ⟨pa, ca, pb, cb, rfl, _⟩ := hr
  have hN := h.hN
  have UB : Hid (Below w.heap.size w (((w.alloc (.cells #[.slice pa f.a.l.length ca, .int .i64 f.a.s, .slice pb f.b.l.length cb, .int .i64 f.b.s, .int .i64 f.room, .int .i64 f.stop, .bool f.dead] 33)).alloc (.cells #[.int .i64 x.o, .int .i64 x.i, .slice pB nB cB, .int .i64 x.n, .slice pK nK cK] 39)).alloc (.cells #[.slice none 0 0, .int .i64 0, .slice none 0 0, .int .i64 0, .int .i64 0, .int .i64 0, .bool false] 33))) := bel_next (bel2 w (.cells #[.slice pa f.a.l.length ca, .int .i64 f.a.s, .slice pb f.b.l.length cb, .int .i64 f.b.s, .int .i64 f.room, .int .i64 f.stop, .bool f.dead] 33) (.cells #[.int .i64 x.o, .int .i64 x.i, .slice pB nB cB, .int .i64 x.n, .slice pK nK cK] 39)) (bel1 _ _)
  have b0 : Hid (BX (((w.alloc (.cells #[.slice pa f.a.l.length ca, .int .i64 f.a.s, .slice pb f.b.l.length cb, .int .i64 f.b.s, .int .i64 f.room, .int .i64 f.stop, .bool f.dead] 33)).alloc (.cells #[.int .i64 x.o, .int .i64 x.i, .slice pB nB cB, .int .i64 x.n, .slice pK nK cK] 39)).alloc (.cells #[.slice none 0 0, .int .i64 0, .slice none 0 0, .int .i64 0, .int .i64 0, .int .i64 0, .bool false] 33)) w.heap.size #[.slice pa f.a.l.length ca, .int .i64 f.a.s, .slice pb f.b.l.length cb, .int .i64 f.b.s, .int .i64 f.room, .int .i64 f.stop, .bool f.dead] 33) := (BX.alloc (BX.alloc (BX.new w w.heap.size rfl _ _) _) _)
  have b1 : Hid (BX (((w.alloc (.cells #[.slice pa f.a.l.length ca, .int .i64 f.a.s, .slice pb f.b.l.length cb, .int .i64 f.b.s, .int .i64 f.room, .int .i64 f.stop, .bool f.dead] 33)).alloc (.cells #[.int .i64 x.o, .int .i64 x.i, .slice pB nB cB, .int .i64 x.n, .slice pK nK cK] 39)).alloc (.cells #[.slice none 0 0, .int .i64 0, .slice none 0 0, .int .i64 0, .int .i64 0, .int .i64 0, .bool false] 33)) (w.heap.size + 1) #[.int .i64 x.o, .int .i64 x.i, .slice pB nB cB, .int .i64 x.n, .slice pK nK cK] 39) := BX.alloc (BX.new (w.alloc (.cells #[.slice pa f.a.l.length ca, .int .i64 f.a.s, .slice pb f.b.l.length cb, .int .i64 f.b.s, .int .i64 f.room, .int .i64 f.stop, .bool f.dead] 33)) (w.heap.size + 1) (by simp) _ _) _
  have b2 : Hid (BX (((w.alloc (.cells #[.slice pa f.a.l.length ca, .int .i64 f.a.s, .slice pb f.b.l.length cb, .int .i64 f.b.s, .int .i64 f.room, .int .i64 f.stop, .bool f.dead] 33)).alloc (.cells #[.int .i64 x.o, .int .i64 x.i, .slice pB nB cB, .int .i64 x.n, .slice pK nK cK] 39)).alloc (.cells #[.slice none 0 0, .int .i64 0, .slice none 0 0, .int .i64 0, .int .i64 0, .int .i64 0, .bool false] 33)) (w.heap.size + 1 + 1) #[.slice none 0 0, .int .i64 0, .slice none 0 0, .int .i64 0, .int .i64 0, .int .i64 0, .bool false] 33) := BX.new ((w.alloc (.cells #[.slice pa f.a.l.length ca, .int .i64 f.a.s, .slice pb f.b.l.length cb, .int .i64 f.b.s, .int .i64 f.room, .int .i64 f.stop, .bool f.dead] 33)).alloc (.cells #[.int .i64 x.o, .int .i64 x.i, .slice pB nB cB, .int .i64 x.n, .slice pK nK cK] 39)) (w.heap.size + 1 + 1) (by simp) _ _
  have PU := hide (h.below UB.out)
  have RU := hide (HR0.out.below UB.out)
  have BU := hide (hB.below UB.out)
  have KU := hide (hK.below UB.out hN)
  have n0 : Hid (¬ Xs g va vb w.heap.size) := h.notX (by omega)
  have n1 : Hid (¬ Xs g va vb (w.heap.size + 1)) := h.notX (by omega)
  have n2 : Hid (¬ Xs g va vb (w.heap.size + 1 + 1)) := h.notX (by omega)
  have HF := hide hf
  have HN := hide hN
  clear h hB hK HR0 hf hN
  have k0 : (x.o == 0) = false := by simpa using h0
  have k1 : (x.o == 1) = false := by simpa using h1
  have k2 : (x.o == 2) = false := by simpa using h2
  have k3 : (x.o == 3) = false := by simpa using h3
  have k4 : (x.o == 4) = false := by simpa using h4
  have P2 := PU
  have m2 := n2
  have T2 : Hid (Stp g va vb va vb w (((w.alloc (.cells #[.slice pa f.a.l.length ca, .int .i64 f.a.s, .slice pb f.b.l.length cb, .int .i64 f.b.s, .int .i64 f.room, .int .i64 f.stop, .bool f.dead] 33)).alloc (.cells #[.int .i64 x.o, .int .i64 x.i, .slice pB nB cB, .int .i64 x.n, .slice pK nK cK] 39)).alloc (.cells #[.slice none 0 0, .int .i64 0, .slice none 0 0, .int .i64 0, .int .i64 0, .int .i64 0, .bool false] 33))) := Stp.below UB.out
  have L2 := hide (UB.out.mono HN.out)
  have G3 := b2
  have G4 := b0
  have Y2 := RU
  clear h0 h1 h2 h3 h4 PU n2 b2 b0 RU
  go_enter Try.func9, Try.ntmps9
  go_upto_region 3 with fail
  generalize (((w.alloc (.cells #[.slice pa f.a.l.length ca, .int .i64 f.a.s, .slice pb f.b.l.length cb, .int .i64 f.b.s, .int .i64 f.room, .int .i64 f.stop, .bool f.dead] 33)).alloc (.cells #[.int .i64 x.o, .int .i64 x.i, .slice pB nB cB, .int .i64 x.n, .slice pK nK cK] 39)).alloc (.cells #[.slice none 0 0, .int .i64 0, .slice none 0 0, .int .i64 0, .int .i64 0, .int .i64 0, .bool false] 33)) = w3 at *
  have d0 := G3.out.cell 0 _ rfl
  have d1 := G3.out.cell 1 _ rfl
  have d2 := G3.out.cell 2 _ rfl
  have d3 := G3.out.cell 3 _ rfl
  have d4 := G3.out.cell 4 _ rfl
  have d5 := G3.out.cell 5 _ rfl
  have d6 := G3.out.cell 6 _ rfl
  have e0 := G4.out.cell 0 _ rfl
  have e1 := G4.out.cell 1 _ rfl
  have e2 := G4.out.cell 2 _ rfl
  have e3 := G4.out.cell 3 _ rfl
  have e4 := G4.out.cell 4 _ rfl
  have e5 := G4.out.cell 5 _ rfl
  have e6 := G4.out.cell 6 _ rfl
  have hfr := fun j => G3.out.free j
  go_wp2
  obtain ⟨r1, r2, r3, r4⟩ := G3.out.put7 (.slice pa f.a.l.length ca) (.int .i64 f.a.s) (.slice pb f.b.l.length cb) (.int .i64 f.b.s) (.int .i64 f.room) (.int .i64 f.stop) (.bool f.dead)
  have LW := r3 _ _ (Below.refl w.heap.size w3) (by omega)
  exact bodyPost_ret (results_cell_tmp rfl _ _ _ _ _ _ _ _ rfl rfl r1 Try.underlying33 rfl Try.infoRD) rfl ⟨_, _, _, _, rfl, P2.out.moved r4 m2.out, Y2.out.kp r2 G3.out (NoB.disk _ _ _ _ _ _ _ _ _ _ _), T2.out.then LW, L2.out.trans (LW.mono HN.out)⟩
end Go.Proofs.Yteamedilcpfkgaa
