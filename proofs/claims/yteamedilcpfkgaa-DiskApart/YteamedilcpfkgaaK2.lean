/- The document's disk: what an act makes of it. -/
import Derived.Test.YteamedilcpfkgaaK1
namespace Go.Proofs.Yteamedilcpfkgaa
open Go.RowKit
set_option linter.unusedVariables false
section
variable {X : Nat → Prop}
theorem Dk.tick_get (d : Dk) (i : Int) : d.tick.get i = d.get i := by unfold Dk.tick; split <;> rfl
theorem Dk.tick_pos {d : Dk} (h : d.stop > 0) : d.tick = { d with stop := d.stop - 1 } := by unfold Dk.tick; rw [if_pos h]
theorem Dk.tick_neg {d : Dk} (h : ¬ d.stop > 0) : d.tick = d := by unfold Dk.tick; rw [if_neg h]
theorem NoB.disk (a b : Option Addr) (na ca nb cb : Nat) (x y z q : Int) (e : Bool) : NoB #[.slice a na ca, .int .i64 x, .slice b nb cb, .int .i64 y, .int .i64 z, .int .i64 q, .bool e] := NoB.mk _ (by simp)
theorem NoB.slot (a : Option Addr) (na ca : Nat) (x : Int) : NoB #[.slice a na ca, .int .i64 x] := NoB.mk _ (by simp)
theorem RD.kp {g : Nat} {u W : World} {v : Value} {d : Dk} (h : RD X u v d) (hk : KP g u W) {C : Array Value} {t : TypeId} (hx : BX u g C t) (hv : NoB C) : RD X W v d := by
  obtain ⟨pa, ca, pb, cb, h0, h1, h2, h3, h4⟩ := h
  exact ⟨pa, ca, pb, cb, h0, h1.kp hk hx hv, h2, h3.kp hk hx hv, h4⟩
theorem Try.infoRD : (Try.prog.info? 33).map (·.size) = some 7 := by kernel_rfl
set_option maxHeartbeats 1000000 in
theorem actR_00p (v : Value) (d : Dk) (p : Option Addr) (n c : Nat) (m : List Int) (w : World) (h : RD X w v d) (hd : d.ok) (hB : BS w p n m) (hC : CP p n c) (hX : ∀ b, X b → b < w.heap.size) (h1 : d.dead = false) (hs : ¬ d.stop = 0) (hs2 : d.stop > 0) (hlf : ¬ (n : Int) > d.left) :
    Calls Try.prog 15 #[v, .int .i64 0, .int .i64 0, .slice p n c] w fun e w' => ∃ y, e = .returned (.tuple #[y, .int .i64 0]) ∧ RD X w' y (d.tick.set 0 ((d.get 0).act 0 m)) ∧ Below w.heap.size w w' := by
  have HX := hide hX
  clear hX
  have h6 : d.stop ≤ 9223372036854775807 := hd.2.2.2.2.2
  have HL := hide (leftR_any (X := X) v d)
  have HR := hide h
  have HO := hide hd
  have hgl : ((d.get 0).l.length : Int) + m.length ≤ 2097152 := by
    have q1 := hd.lens
    have q2 := hB.1
    have q3 : 0 ≤ d.left := hd.2.2.1
    have q4 : d.room ≤ 1048576 := hd.2.2.2.1
    have q5 : d.left ≤ d.room := by unfold Dk.left; omega
    unfold Dk.get
    split <;> omega
  obtain ⟨pa, ca, pb, cb, rfl, g1, g2, g3, g4⟩ := h
  have HD : Hid (∀ W, Below w.heap.size w W → RD X W (.agg #[.slice pa d.a.l.length ca, .int .i64 d.a.s, .slice pb d.b.l.length cb, .int .i64 d.b.s, .int .i64 d.room, .int .i64 (d.stop - 1), .bool false]) d.tick) := by
    intro W hW
    rw [Dk.tick_pos hs2]
    exact ⟨pa, ca, pb, cb, by rw [← h1], g1.below hW, g2, g3.below hW, g4⟩
  have HT := hide (Dk.tick_get d 0)
  generalize hget : d.get 0 = s at *
  clear hget
  have HA : Hid (s.act 0 m = ⟨s.l ++ m, s.s⟩) := by unfold Hid Sl.act; rw [if_pos rfl]
  generalize hset : s.act 0 m = s' at *
  clear hset
  generalize d.tick = t at *
  obtain ⟨ds, HDS⟩ : ∃ ds, Hid (t.set 0 s' = ds) := ⟨_, rfl⟩
  rw [HDS.out]
  have HB := hide hB
  have hnm := hide hB.1
  rw [h1] at HL HR
  clear g1 g3 hB hd
  go_enter Try.func15, Try.ntmps15
  go_wp2_with fail
  refine (HL.out _ (HR.out.below (bel2 w (.cells #[.slice pa d.a.l.length ca, .int .i64 d.a.s, .slice pb d.b.l.length cb, .int .i64 d.b.s, .int .i64 d.room, .int .i64 d.stop, .bool false] 33) (.cells #[.slice none 0 0, .int .i64 0, .slice none 0 0, .int .i64 0, .int .i64 0, .int .i64 0, .bool false] 33))) HO.out).mono ?_
  rintro e w0 ⟨rfl, hb⟩
  have b1 := (BX.alloc (BX.new w w.heap.size rfl _ _) (.cells #[.slice none 0 0, .int .i64 0, .slice none 0 0, .int .i64 0, .int .i64 0, .int .i64 0, .bool false] 33) : BX ((w.alloc (.cells #[.slice pa d.a.l.length ca, .int .i64 d.a.s, .slice pb d.b.l.length cb, .int .i64 d.b.s, .int .i64 d.room, .int .i64 d.stop, .bool false] 33)).alloc (.cells #[.slice none 0 0, .int .i64 0, .slice none 0 0, .int .i64 0, .int .i64 0, .int .i64 0, .bool false] 33)) w.heap.size _ _).below hb
  have b2 := (BX.new (w.alloc (.cells #[.slice pa d.a.l.length ca, .int .i64 d.a.s, .slice pb d.b.l.length cb, .int .i64 d.b.s, .int .i64 d.room, .int .i64 d.stop, .bool false] 33)) (w.heap.size + 1) (by simp) #[.slice none 0 0, .int .i64 0, .slice none 0 0, .int .i64 0, .int .i64 0, .int .i64 0, .bool false] 33).below hb
  have B0 := hide (bel_next (bel2 w (.cells #[.slice pa d.a.l.length ca, .int .i64 d.a.s, .slice pb d.b.l.length cb, .int .i64 d.b.s, .int .i64 d.room, .int .i64 d.stop, .bool false] 33) (.cells #[.slice none 0 0, .int .i64 0, .slice none 0 0, .int .i64 0, .int .i64 0, .int .i64 0, .bool false] 33)) hb)
  clear hb
  have c0 := b1.cell 0 _ rfl
  have c1 := b1.cell 1 _ rfl
  have c2 := b1.cell 2 _ rfl
  have c3 := b1.cell 3 _ rfl
  have c4 := b1.cell 4 _ rfl
  have c5 := b1.cell 5 _ rfl
  have c6 := b1.cell 6 _ rfl
  have hf := fun j => b1.free j
  have hz := b2.size
  have B1 := hide b1
  have B2 := hide b2
  clear b1 b2
  go_wp2_with fail
  have b1 := B1.out.set 5 (.int .i64 (d.stop - 1))
  have b2 := B2.out.other (k := w.heap.size) (by omega) 5 (.int .i64 (d.stop - 1))
  replace B0 := hide (B0.out.setCell (p := ⟨w.heap.size, 5, none⟩) (Nat.le_refl _) (.int .i64 (d.stop - 1)))
  clear c0 c1 c2 c3 c4 c5 c6 hf hz B1 B2
  refine (getR_any _ t _ _ (HD.out _ B0.out)).mono ?_
  rintro e w1 ⟨x, rfl, hx, hb⟩
  rw [HT.out] at hx
  replace b1 := b1.below hb
  replace b2 := b2.below hb
  replace B0 := hide (bel_next B0.out hb)
  obtain ⟨q, cq, rfl, hq, hcq⟩ := hx
  clear hb
  have hz := b2.size
  have B1 := hide b1
  have B2 := hide b2
  have Q := hide hq
  clear b1 b2 hq
  go_wp2_with (at_builtin; refine Stop.at ?_)
  unfold Stop
  have B3 := hide (bel1 w1 (.cells #[.slice q s.l.length cq, .int .i64 s.s] 31))
  have B4 := hide (BX.new w1 w1.heap.size rfl #[.slice q s.l.length cq, .int .i64 s.s] 31)
  have HZ : Hid ((w1.alloc (.cells #[.slice q s.l.length cq, .int .i64 s.s] 31)).heap.size = w1.heap.size + 1) := by unfold Hid; simp
  replace HX : Hid (∀ b, X b → b < (w1.alloc (.cells #[.slice q s.l.length cq, .int .i64 s.s] 31)).heap.size) := by
    intro b hb
    have q1 := HX.out b hb
    have q2 := B0.out.size
    rw [HZ.out]
    omega
  have hs1 := hide ((Below.refl (w1.alloc (.cells #[.slice q s.l.length cq, .int .i64 s.s] 31)).heap.size (w1.alloc (.cells #[.slice q s.l.length cq, .int .i64 s.s] 31))).alloc (Nat.le_refl _) (.cells #[] 5)).size
  refine append_bytes rfl _ _ rfl (w1.alloc (.cells #[.slice q s.l.length cq, .int .i64 s.s] 31)).heap.size _ [] s.l rfl (Own.made (w1.alloc (.cells #[.slice q s.l.length cq, .int .i64 s.s] 31)) _ _ (by simp) (Nat.le_refl _)) q _ cq rfl hcq.2.2 ((Q.out.1.below B3.out).alloc _) (by have := hgl; simp; omega) hs1.out ?_
  intro v1 w2 ho1 hgr1 hbel1
  have BB := hide (hbel1 _ ((Below.refl (w1.alloc (.cells #[.slice q s.l.length cq, .int .i64 s.s] 31)).heap.size (w1.alloc (.cells #[.slice q s.l.length cq, .int .i64 s.s] 31))).alloc (Nat.le_refl _) (.cells #[] 5)))
  have O1 := hide ho1
  clear ho1 hgr1 hbel1
  go_wp2_with (at_builtin; refine Stop.at ?_)
  unfold Stop
  refine append_bytes rfl _ _ rfl (w1.alloc (.cells #[.slice q s.l.length cq, .int .i64 s.s] 31)).heap.size _ ([] ++ s.l) m rfl O1.out p n c rfl hC.2.2 (((HB.out.below B0.out).below B3.out).below BB.out) (by have := hgl; simp; omega) BB.out.size ?_
  intro v2 w3 ho2 hgr2 hbel2
  rw [List.nil_append] at ho2
  replace BB := hide (hbel2 _ BB.out)
  have hby : By (s.l ++ m) := By.append Q.out.1.2.2.1 HB.out.2.2.1
  obtain ⟨p2, cap2, rfl, hbs2, hcp2⟩ := ho2.open hby
  have OFF := hide (ho2.off HX.out)
  clear ho2 hgr2 hbel2 O1
  have hz3 : Hid (w1.heap.size < w3.heap.size) := by have := BB.out.size; rw [HZ.out] at this; unfold Hid; omega
  have b1 := (B1.out.below B3.out).below BB.out
  have b2 := (B2.out.below B3.out).below BB.out
  have b4 := B4.out.below BB.out
  replace B0 := hide (bel_next (bel_next B0.out B3.out) BB.out)
  have hne1 : w1.heap.size ≠ w.heap.size := by omega
  have hne2 : w1.heap.size ≠ w.heap.size + 1 := by omega
  have a1 := b1.other hne1 0 (.slice p2 (s.l ++ m).length cap2)
  have a2 := b2.other hne2 0 (.slice p2 (s.l ++ m).length cap2)
  have a4 := b4.set 0 (.slice p2 (s.l ++ m).length cap2)
  have k4 := KP.set (KP.refl w1.heap.size w3) 0 (.slice p2 (s.l ++ m).length cap2)
  have HBS := hide (hbs2.kp k4 b4 (NoB.slot _ _ _ _))
  have HRD := hide ((HD.out _ B0.out).kp k4 b4 (NoB.slot _ _ _ _))
  replace B0 := hide (B0.out.setCell (p := ⟨w1.heap.size, 0, none⟩) (by have := hz; simp only []; omega) (.slice p2 (s.l ++ m).length cap2))
  replace B2 := hide a2
  have f40 := b4.free 0
  have c40 := b4.cell 0 _ rfl
  have c0 := a1.cell 0 _ rfl
  have c1 := a1.cell 1 _ rfl
  have c2 := a1.cell 2 _ rfl
  have c3 := a1.cell 3 _ rfl
  have c4 := a1.cell 4 _ rfl
  have c5 := a1.cell 5 _ rfl
  have c6 := a1.cell 6 _ rfl
  have e0 := a4.cell 0 _ rfl
  have e1 := a4.cell 1 _ rfl
  clear b1 b2 b4 a1 a2 a4 k4 hbs2
  generalize hS : s.l ++ m = sm at *
  go_wp2_with fail
  refine (setR_any _ t _ _ s' _ HRD.out (by rw [HA.out]; exact ⟨p2, cap2, rfl, ⟨HBS.out, OFF.out⟩, hcp2⟩)).mono ?_
  rintro e w5 ⟨y, rfl, hy, hb⟩
  rw [HDS.out] at hy
  replace B2 := hide (B2.out.below hb)
  replace B0 := hide (bel_next B0.out hb)
  have HY := hide hy
  obtain ⟨pa', ca', pb', cb', rfl, k1, k2, k3, k4⟩ := hy
  have d0 := B2.out.cell 0 _ rfl
  have d1 := B2.out.cell 1 _ rfl
  have d2 := B2.out.cell 2 _ rfl
  have d3 := B2.out.cell 3 _ rfl
  have d4 := B2.out.cell 4 _ rfl
  have d5 := B2.out.cell 5 _ rfl
  have d6 := B2.out.cell 6 _ rfl
  have hf := fun j => B2.out.free j
  have hz2 := B2.out.size
  clear c0 c1 c2 c3 c4 c5 c6 e0 e1 f40 c40 hb k1 k2 k3 k4 hz
  go_wp2
  obtain ⟨r1, r2, r3, _⟩ := B2.out.put7 (.slice pa' ds.a.l.length ca') (.int .i64 ds.a.s) (.slice pb' ds.b.l.length cb') (.int .i64 ds.b.s) (.int .i64 ds.room) (.int .i64 ds.stop) (.bool ds.dead)
  exact bodyPost_ret (results_cell_tmp rfl _ _ _ _ _ _ _ _ rfl rfl r1 Try.underlying33 rfl Try.infoRD) rfl ⟨_, rfl, HY.out.kp r2 B2.out (NoB.disk _ _ _ _ _ _ _ _ _ _ _), r3 _ _ B0.out (by omega)⟩
set_option maxHeartbeats 1000000 in
theorem actR_00m (v : Value) (d : Dk) (p : Option Addr) (n c : Nat) (m : List Int) (w : World) (h : RD X w v d) (hd : d.ok) (hB : BS w p n m) (hC : CP p n c) (hX : ∀ b, X b → b < w.heap.size) (h1 : d.dead = false) (hs : ¬ d.stop = 0) (hs2 : ¬ d.stop > 0) (hlf : ¬ (n : Int) > d.left) :
    Calls Try.prog 15 #[v, .int .i64 0, .int .i64 0, .slice p n c] w fun e w' => ∃ y, e = .returned (.tuple #[y, .int .i64 0]) ∧ RD X w' y (d.tick.set 0 ((d.get 0).act 0 m)) ∧ Below w.heap.size w w' := by
  have HX := hide hX
  clear hX
  have h6 : d.stop ≤ 9223372036854775807 := hd.2.2.2.2.2
  have HL := hide (leftR_any (X := X) v d)
  have HR := hide h
  have HO := hide hd
  have hgl : ((d.get 0).l.length : Int) + m.length ≤ 2097152 := by
    have q1 := hd.lens
    have q2 := hB.1
    have q3 : 0 ≤ d.left := hd.2.2.1
    have q4 : d.room ≤ 1048576 := hd.2.2.2.1
    have q5 : d.left ≤ d.room := by unfold Dk.left; omega
    unfold Dk.get
    split <;> omega
  obtain ⟨pa, ca, pb, cb, rfl, g1, g2, g3, g4⟩ := h
  have HD : Hid (∀ W, Below w.heap.size w W → RD X W (.agg #[.slice pa d.a.l.length ca, .int .i64 d.a.s, .slice pb d.b.l.length cb, .int .i64 d.b.s, .int .i64 d.room, .int .i64 (d.stop), .bool false]) d.tick) := by
    intro W hW
    rw [Dk.tick_neg hs2]
    exact ⟨pa, ca, pb, cb, by rw [← h1], g1.below hW, g2, g3.below hW, g4⟩
  have HT := hide (Dk.tick_get d 0)
  generalize hget : d.get 0 = s at *
  clear hget
  have HA : Hid (s.act 0 m = ⟨s.l ++ m, s.s⟩) := by unfold Hid Sl.act; rw [if_pos rfl]
  generalize hset : s.act 0 m = s' at *
  clear hset
  generalize d.tick = t at *
  obtain ⟨ds, HDS⟩ : ∃ ds, Hid (t.set 0 s' = ds) := ⟨_, rfl⟩
  rw [HDS.out]
  have HB := hide hB
  have hnm := hide hB.1
  rw [h1] at HL HR
  clear g1 g3 hB hd
  go_enter Try.func15, Try.ntmps15
  go_wp2_with fail
  refine (HL.out _ (HR.out.below (bel2 w (.cells #[.slice pa d.a.l.length ca, .int .i64 d.a.s, .slice pb d.b.l.length cb, .int .i64 d.b.s, .int .i64 d.room, .int .i64 d.stop, .bool false] 33) (.cells #[.slice none 0 0, .int .i64 0, .slice none 0 0, .int .i64 0, .int .i64 0, .int .i64 0, .bool false] 33))) HO.out).mono ?_
  rintro e w0 ⟨rfl, hb⟩
  have b1 := (BX.alloc (BX.new w w.heap.size rfl _ _) (.cells #[.slice none 0 0, .int .i64 0, .slice none 0 0, .int .i64 0, .int .i64 0, .int .i64 0, .bool false] 33) : BX ((w.alloc (.cells #[.slice pa d.a.l.length ca, .int .i64 d.a.s, .slice pb d.b.l.length cb, .int .i64 d.b.s, .int .i64 d.room, .int .i64 d.stop, .bool false] 33)).alloc (.cells #[.slice none 0 0, .int .i64 0, .slice none 0 0, .int .i64 0, .int .i64 0, .int .i64 0, .bool false] 33)) w.heap.size _ _).below hb
  have b2 := (BX.new (w.alloc (.cells #[.slice pa d.a.l.length ca, .int .i64 d.a.s, .slice pb d.b.l.length cb, .int .i64 d.b.s, .int .i64 d.room, .int .i64 d.stop, .bool false] 33)) (w.heap.size + 1) (by simp) #[.slice none 0 0, .int .i64 0, .slice none 0 0, .int .i64 0, .int .i64 0, .int .i64 0, .bool false] 33).below hb
  have B0 := hide (bel_next (bel2 w (.cells #[.slice pa d.a.l.length ca, .int .i64 d.a.s, .slice pb d.b.l.length cb, .int .i64 d.b.s, .int .i64 d.room, .int .i64 d.stop, .bool false] 33) (.cells #[.slice none 0 0, .int .i64 0, .slice none 0 0, .int .i64 0, .int .i64 0, .int .i64 0, .bool false] 33)) hb)
  clear hb
  have c0 := b1.cell 0 _ rfl
  have c1 := b1.cell 1 _ rfl
  have c2 := b1.cell 2 _ rfl
  have c3 := b1.cell 3 _ rfl
  have c4 := b1.cell 4 _ rfl
  have c5 := b1.cell 5 _ rfl
  have c6 := b1.cell 6 _ rfl
  have hf := fun j => b1.free j
  have hz := b2.size
  have B1 := hide b1
  have B2 := hide b2
  clear b1 b2
  go_wp2_with fail
  have b1 := B1.out
  have b2 := B2.out
  clear c0 c1 c2 c3 c4 c5 c6 hf hz B1 B2
  refine (getR_any _ t _ _ (HD.out _ B0.out)).mono ?_
  rintro e w1 ⟨x, rfl, hx, hb⟩
  rw [HT.out] at hx
  replace b1 := b1.below hb
  replace b2 := b2.below hb
  replace B0 := hide (bel_next B0.out hb)
  obtain ⟨q, cq, rfl, hq, hcq⟩ := hx
  clear hb
  have hz := b2.size
  have B1 := hide b1
  have B2 := hide b2
  have Q := hide hq
  clear b1 b2 hq
  go_wp2_with (at_builtin; refine Stop.at ?_)
  unfold Stop
  have B3 := hide (bel1 w1 (.cells #[.slice q s.l.length cq, .int .i64 s.s] 31))
  have B4 := hide (BX.new w1 w1.heap.size rfl #[.slice q s.l.length cq, .int .i64 s.s] 31)
  have HZ : Hid ((w1.alloc (.cells #[.slice q s.l.length cq, .int .i64 s.s] 31)).heap.size = w1.heap.size + 1) := by unfold Hid; simp
  replace HX : Hid (∀ b, X b → b < (w1.alloc (.cells #[.slice q s.l.length cq, .int .i64 s.s] 31)).heap.size) := by
    intro b hb
    have q1 := HX.out b hb
    have q2 := B0.out.size
    rw [HZ.out]
    omega
  have hs1 := hide ((Below.refl (w1.alloc (.cells #[.slice q s.l.length cq, .int .i64 s.s] 31)).heap.size (w1.alloc (.cells #[.slice q s.l.length cq, .int .i64 s.s] 31))).alloc (Nat.le_refl _) (.cells #[] 5)).size
  refine append_bytes rfl _ _ rfl (w1.alloc (.cells #[.slice q s.l.length cq, .int .i64 s.s] 31)).heap.size _ [] s.l rfl (Own.made (w1.alloc (.cells #[.slice q s.l.length cq, .int .i64 s.s] 31)) _ _ (by simp) (Nat.le_refl _)) q _ cq rfl hcq.2.2 ((Q.out.1.below B3.out).alloc _) (by have := hgl; simp; omega) hs1.out ?_
  intro v1 w2 ho1 hgr1 hbel1
  have BB := hide (hbel1 _ ((Below.refl (w1.alloc (.cells #[.slice q s.l.length cq, .int .i64 s.s] 31)).heap.size (w1.alloc (.cells #[.slice q s.l.length cq, .int .i64 s.s] 31))).alloc (Nat.le_refl _) (.cells #[] 5)))
  have O1 := hide ho1
  clear ho1 hgr1 hbel1
  go_wp2_with (at_builtin; refine Stop.at ?_)
  unfold Stop
  refine append_bytes rfl _ _ rfl (w1.alloc (.cells #[.slice q s.l.length cq, .int .i64 s.s] 31)).heap.size _ ([] ++ s.l) m rfl O1.out p n c rfl hC.2.2 (((HB.out.below B0.out).below B3.out).below BB.out) (by have := hgl; simp; omega) BB.out.size ?_
  intro v2 w3 ho2 hgr2 hbel2
  rw [List.nil_append] at ho2
  replace BB := hide (hbel2 _ BB.out)
  have hby : By (s.l ++ m) := By.append Q.out.1.2.2.1 HB.out.2.2.1
  obtain ⟨p2, cap2, rfl, hbs2, hcp2⟩ := ho2.open hby
  have OFF := hide (ho2.off HX.out)
  clear ho2 hgr2 hbel2 O1
  have hz3 : Hid (w1.heap.size < w3.heap.size) := by have := BB.out.size; rw [HZ.out] at this; unfold Hid; omega
  have b1 := (B1.out.below B3.out).below BB.out
  have b2 := (B2.out.below B3.out).below BB.out
  have b4 := B4.out.below BB.out
  replace B0 := hide (bel_next (bel_next B0.out B3.out) BB.out)
  have hne1 : w1.heap.size ≠ w.heap.size := by omega
  have hne2 : w1.heap.size ≠ w.heap.size + 1 := by omega
  have a1 := b1.other hne1 0 (.slice p2 (s.l ++ m).length cap2)
  have a2 := b2.other hne2 0 (.slice p2 (s.l ++ m).length cap2)
  have a4 := b4.set 0 (.slice p2 (s.l ++ m).length cap2)
  have k4 := KP.set (KP.refl w1.heap.size w3) 0 (.slice p2 (s.l ++ m).length cap2)
  have HBS := hide (hbs2.kp k4 b4 (NoB.slot _ _ _ _))
  have HRD := hide ((HD.out _ B0.out).kp k4 b4 (NoB.slot _ _ _ _))
  replace B0 := hide (B0.out.setCell (p := ⟨w1.heap.size, 0, none⟩) (by have := hz; simp only []; omega) (.slice p2 (s.l ++ m).length cap2))
  replace B2 := hide a2
  have f40 := b4.free 0
  have c40 := b4.cell 0 _ rfl
  have c0 := a1.cell 0 _ rfl
  have c1 := a1.cell 1 _ rfl
  have c2 := a1.cell 2 _ rfl
  have c3 := a1.cell 3 _ rfl
  have c4 := a1.cell 4 _ rfl
  have c5 := a1.cell 5 _ rfl
  have c6 := a1.cell 6 _ rfl
  have e0 := a4.cell 0 _ rfl
  have e1 := a4.cell 1 _ rfl
  clear b1 b2 b4 a1 a2 a4 k4 hbs2
  generalize hS : s.l ++ m = sm at *
  go_wp2_with fail
  refine (setR_any _ t _ _ s' _ HRD.out (by rw [HA.out]; exact ⟨p2, cap2, rfl, ⟨HBS.out, OFF.out⟩, hcp2⟩)).mono ?_
  rintro e w5 ⟨y, rfl, hy, hb⟩
  rw [HDS.out] at hy
  replace B2 := hide (B2.out.below hb)
  replace B0 := hide (bel_next B0.out hb)
  have HY := hide hy
  obtain ⟨pa', ca', pb', cb', rfl, k1, k2, k3, k4⟩ := hy
  have d0 := B2.out.cell 0 _ rfl
  have d1 := B2.out.cell 1 _ rfl
  have d2 := B2.out.cell 2 _ rfl
  have d3 := B2.out.cell 3 _ rfl
  have d4 := B2.out.cell 4 _ rfl
  have d5 := B2.out.cell 5 _ rfl
  have d6 := B2.out.cell 6 _ rfl
  have hf := fun j => B2.out.free j
  have hz2 := B2.out.size
  clear c0 c1 c2 c3 c4 c5 c6 e0 e1 f40 c40 hb k1 k2 k3 k4 hz
  go_wp2
  obtain ⟨r1, r2, r3, _⟩ := B2.out.put7 (.slice pa' ds.a.l.length ca') (.int .i64 ds.a.s) (.slice pb' ds.b.l.length cb') (.int .i64 ds.b.s) (.int .i64 ds.room) (.int .i64 ds.stop) (.bool ds.dead)
  exact bodyPost_ret (results_cell_tmp rfl _ _ _ _ _ _ _ _ rfl rfl r1 Try.underlying33 rfl Try.infoRD) rfl ⟨_, rfl, HY.out.kp r2 B2.out (NoB.disk _ _ _ _ _ _ _ _ _ _ _), r3 _ _ B0.out (by omega)⟩
set_option maxHeartbeats 1000000 in
theorem actR_01p (v : Value) (d : Dk) (p : Option Addr) (n c : Nat) (m : List Int) (w : World) (h : RD X w v d) (hd : d.ok) (hB : BS w p n m) (hC : CP p n c) (hX : ∀ b, X b → b < w.heap.size) (h1 : d.dead = false) (hs : ¬ d.stop = 0) (hs2 : d.stop > 0) (hlf : ¬ (n : Int) > d.left) :
    Calls Try.prog 15 #[v, .int .i64 0, .int .i64 1, .slice p n c] w fun e w' => ∃ y, e = .returned (.tuple #[y, .int .i64 0]) ∧ RD X w' y (d.tick.set 1 ((d.get 1).act 0 m)) ∧ Below w.heap.size w w' := by
  have HX := hide hX
  clear hX
  have h6 : d.stop ≤ 9223372036854775807 := hd.2.2.2.2.2
  have HL := hide (leftR_any (X := X) v d)
  have HR := hide h
  have HO := hide hd
  have hgl : ((d.get 1).l.length : Int) + m.length ≤ 2097152 := by
    have q1 := hd.lens
    have q2 := hB.1
    have q3 : 0 ≤ d.left := hd.2.2.1
    have q4 : d.room ≤ 1048576 := hd.2.2.2.1
    have q5 : d.left ≤ d.room := by unfold Dk.left; omega
    unfold Dk.get
    split <;> omega
  obtain ⟨pa, ca, pb, cb, rfl, g1, g2, g3, g4⟩ := h
  have HD : Hid (∀ W, Below w.heap.size w W → RD X W (.agg #[.slice pa d.a.l.length ca, .int .i64 d.a.s, .slice pb d.b.l.length cb, .int .i64 d.b.s, .int .i64 d.room, .int .i64 (d.stop - 1), .bool false]) d.tick) := by
    intro W hW
    rw [Dk.tick_pos hs2]
    exact ⟨pa, ca, pb, cb, by rw [← h1], g1.below hW, g2, g3.below hW, g4⟩
  have HT := hide (Dk.tick_get d 1)
  generalize hget : d.get 1 = s at *
  clear hget
  have HA : Hid (s.act 0 m = ⟨s.l ++ m, s.s⟩) := by unfold Hid Sl.act; rw [if_pos rfl]
  generalize hset : s.act 0 m = s' at *
  clear hset
  generalize d.tick = t at *
  obtain ⟨ds, HDS⟩ : ∃ ds, Hid (t.set 1 s' = ds) := ⟨_, rfl⟩
  rw [HDS.out]
  have HB := hide hB
  have hnm := hide hB.1
  rw [h1] at HL HR
  clear g1 g3 hB hd
  go_enter Try.func15, Try.ntmps15
  go_wp2_with fail
  refine (HL.out _ (HR.out.below (bel2 w (.cells #[.slice pa d.a.l.length ca, .int .i64 d.a.s, .slice pb d.b.l.length cb, .int .i64 d.b.s, .int .i64 d.room, .int .i64 d.stop, .bool false] 33) (.cells #[.slice none 0 0, .int .i64 0, .slice none 0 0, .int .i64 0, .int .i64 0, .int .i64 0, .bool false] 33))) HO.out).mono ?_
  rintro e w0 ⟨rfl, hb⟩
  have b1 := (BX.alloc (BX.new w w.heap.size rfl _ _) (.cells #[.slice none 0 0, .int .i64 0, .slice none 0 0, .int .i64 0, .int .i64 0, .int .i64 0, .bool false] 33) : BX ((w.alloc (.cells #[.slice pa d.a.l.length ca, .int .i64 d.a.s, .slice pb d.b.l.length cb, .int .i64 d.b.s, .int .i64 d.room, .int .i64 d.stop, .bool false] 33)).alloc (.cells #[.slice none 0 0, .int .i64 0, .slice none 0 0, .int .i64 0, .int .i64 0, .int .i64 0, .bool false] 33)) w.heap.size _ _).below hb
  have b2 := (BX.new (w.alloc (.cells #[.slice pa d.a.l.length ca, .int .i64 d.a.s, .slice pb d.b.l.length cb, .int .i64 d.b.s, .int .i64 d.room, .int .i64 d.stop, .bool false] 33)) (w.heap.size + 1) (by simp) #[.slice none 0 0, .int .i64 0, .slice none 0 0, .int .i64 0, .int .i64 0, .int .i64 0, .bool false] 33).below hb
  have B0 := hide (bel_next (bel2 w (.cells #[.slice pa d.a.l.length ca, .int .i64 d.a.s, .slice pb d.b.l.length cb, .int .i64 d.b.s, .int .i64 d.room, .int .i64 d.stop, .bool false] 33) (.cells #[.slice none 0 0, .int .i64 0, .slice none 0 0, .int .i64 0, .int .i64 0, .int .i64 0, .bool false] 33)) hb)
  clear hb
  have c0 := b1.cell 0 _ rfl
  have c1 := b1.cell 1 _ rfl
  have c2 := b1.cell 2 _ rfl
  have c3 := b1.cell 3 _ rfl
  have c4 := b1.cell 4 _ rfl
  have c5 := b1.cell 5 _ rfl
  have c6 := b1.cell 6 _ rfl
  have hf := fun j => b1.free j
  have hz := b2.size
  have B1 := hide b1
  have B2 := hide b2
  clear b1 b2
  go_wp2_with fail
  have b1 := B1.out.set 5 (.int .i64 (d.stop - 1))
  have b2 := B2.out.other (k := w.heap.size) (by omega) 5 (.int .i64 (d.stop - 1))
  replace B0 := hide (B0.out.setCell (p := ⟨w.heap.size, 5, none⟩) (Nat.le_refl _) (.int .i64 (d.stop - 1)))
  clear c0 c1 c2 c3 c4 c5 c6 hf hz B1 B2
  refine (getR_any _ t _ _ (HD.out _ B0.out)).mono ?_
  rintro e w1 ⟨x, rfl, hx, hb⟩
  rw [HT.out] at hx
  replace b1 := b1.below hb
  replace b2 := b2.below hb
  replace B0 := hide (bel_next B0.out hb)
  obtain ⟨q, cq, rfl, hq, hcq⟩ := hx
  clear hb
  have hz := b2.size
  have B1 := hide b1
  have B2 := hide b2
  have Q := hide hq
  clear b1 b2 hq
  go_wp2_with (at_builtin; refine Stop.at ?_)
  unfold Stop
  have B3 := hide (bel1 w1 (.cells #[.slice q s.l.length cq, .int .i64 s.s] 31))
  have B4 := hide (BX.new w1 w1.heap.size rfl #[.slice q s.l.length cq, .int .i64 s.s] 31)
  have HZ : Hid ((w1.alloc (.cells #[.slice q s.l.length cq, .int .i64 s.s] 31)).heap.size = w1.heap.size + 1) := by unfold Hid; simp
  replace HX : Hid (∀ b, X b → b < (w1.alloc (.cells #[.slice q s.l.length cq, .int .i64 s.s] 31)).heap.size) := by
    intro b hb
    have q1 := HX.out b hb
    have q2 := B0.out.size
    rw [HZ.out]
    omega
  have hs1 := hide ((Below.refl (w1.alloc (.cells #[.slice q s.l.length cq, .int .i64 s.s] 31)).heap.size (w1.alloc (.cells #[.slice q s.l.length cq, .int .i64 s.s] 31))).alloc (Nat.le_refl _) (.cells #[] 5)).size
  refine append_bytes rfl _ _ rfl (w1.alloc (.cells #[.slice q s.l.length cq, .int .i64 s.s] 31)).heap.size _ [] s.l rfl (Own.made (w1.alloc (.cells #[.slice q s.l.length cq, .int .i64 s.s] 31)) _ _ (by simp) (Nat.le_refl _)) q _ cq rfl hcq.2.2 ((Q.out.1.below B3.out).alloc _) (by have := hgl; simp; omega) hs1.out ?_
  intro v1 w2 ho1 hgr1 hbel1
  have BB := hide (hbel1 _ ((Below.refl (w1.alloc (.cells #[.slice q s.l.length cq, .int .i64 s.s] 31)).heap.size (w1.alloc (.cells #[.slice q s.l.length cq, .int .i64 s.s] 31))).alloc (Nat.le_refl _) (.cells #[] 5)))
  have O1 := hide ho1
  clear ho1 hgr1 hbel1
  go_wp2_with (at_builtin; refine Stop.at ?_)
  unfold Stop
  refine append_bytes rfl _ _ rfl (w1.alloc (.cells #[.slice q s.l.length cq, .int .i64 s.s] 31)).heap.size _ ([] ++ s.l) m rfl O1.out p n c rfl hC.2.2 (((HB.out.below B0.out).below B3.out).below BB.out) (by have := hgl; simp; omega) BB.out.size ?_
  intro v2 w3 ho2 hgr2 hbel2
  rw [List.nil_append] at ho2
  replace BB := hide (hbel2 _ BB.out)
  have hby : By (s.l ++ m) := By.append Q.out.1.2.2.1 HB.out.2.2.1
  obtain ⟨p2, cap2, rfl, hbs2, hcp2⟩ := ho2.open hby
  have OFF := hide (ho2.off HX.out)
  clear ho2 hgr2 hbel2 O1
  have hz3 : Hid (w1.heap.size < w3.heap.size) := by have := BB.out.size; rw [HZ.out] at this; unfold Hid; omega
  have b1 := (B1.out.below B3.out).below BB.out
  have b2 := (B2.out.below B3.out).below BB.out
  have b4 := B4.out.below BB.out
  replace B0 := hide (bel_next (bel_next B0.out B3.out) BB.out)
  have hne1 : w1.heap.size ≠ w.heap.size := by omega
  have hne2 : w1.heap.size ≠ w.heap.size + 1 := by omega
  have a1 := b1.other hne1 0 (.slice p2 (s.l ++ m).length cap2)
  have a2 := b2.other hne2 0 (.slice p2 (s.l ++ m).length cap2)
  have a4 := b4.set 0 (.slice p2 (s.l ++ m).length cap2)
  have k4 := KP.set (KP.refl w1.heap.size w3) 0 (.slice p2 (s.l ++ m).length cap2)
  have HBS := hide (hbs2.kp k4 b4 (NoB.slot _ _ _ _))
  have HRD := hide ((HD.out _ B0.out).kp k4 b4 (NoB.slot _ _ _ _))
  replace B0 := hide (B0.out.setCell (p := ⟨w1.heap.size, 0, none⟩) (by have := hz; simp only []; omega) (.slice p2 (s.l ++ m).length cap2))
  replace B2 := hide a2
  have f40 := b4.free 0
  have c40 := b4.cell 0 _ rfl
  have c0 := a1.cell 0 _ rfl
  have c1 := a1.cell 1 _ rfl
  have c2 := a1.cell 2 _ rfl
  have c3 := a1.cell 3 _ rfl
  have c4 := a1.cell 4 _ rfl
  have c5 := a1.cell 5 _ rfl
  have c6 := a1.cell 6 _ rfl
  have e0 := a4.cell 0 _ rfl
  have e1 := a4.cell 1 _ rfl
  clear b1 b2 b4 a1 a2 a4 k4 hbs2
  generalize hS : s.l ++ m = sm at *
  go_wp2_with fail
  refine (setR_any _ t _ _ s' _ HRD.out (by rw [HA.out]; exact ⟨p2, cap2, rfl, ⟨HBS.out, OFF.out⟩, hcp2⟩)).mono ?_
  rintro e w5 ⟨y, rfl, hy, hb⟩
  rw [HDS.out] at hy
  replace B2 := hide (B2.out.below hb)
  replace B0 := hide (bel_next B0.out hb)
  have HY := hide hy
  obtain ⟨pa', ca', pb', cb', rfl, k1, k2, k3, k4⟩ := hy
  have d0 := B2.out.cell 0 _ rfl
  have d1 := B2.out.cell 1 _ rfl
  have d2 := B2.out.cell 2 _ rfl
  have d3 := B2.out.cell 3 _ rfl
  have d4 := B2.out.cell 4 _ rfl
  have d5 := B2.out.cell 5 _ rfl
  have d6 := B2.out.cell 6 _ rfl
  have hf := fun j => B2.out.free j
  have hz2 := B2.out.size
  clear c0 c1 c2 c3 c4 c5 c6 e0 e1 f40 c40 hb k1 k2 k3 k4 hz
  go_wp2
  obtain ⟨r1, r2, r3, _⟩ := B2.out.put7 (.slice pa' ds.a.l.length ca') (.int .i64 ds.a.s) (.slice pb' ds.b.l.length cb') (.int .i64 ds.b.s) (.int .i64 ds.room) (.int .i64 ds.stop) (.bool ds.dead)
  exact bodyPost_ret (results_cell_tmp rfl _ _ _ _ _ _ _ _ rfl rfl r1 Try.underlying33 rfl Try.infoRD) rfl ⟨_, rfl, HY.out.kp r2 B2.out (NoB.disk _ _ _ _ _ _ _ _ _ _ _), r3 _ _ B0.out (by omega)⟩
set_option maxHeartbeats 1000000 in
theorem actR_01m (v : Value) (d : Dk) (p : Option Addr) (n c : Nat) (m : List Int) (w : World) (h : RD X w v d) (hd : d.ok) (hB : BS w p n m) (hC : CP p n c) (hX : ∀ b, X b → b < w.heap.size) (h1 : d.dead = false) (hs : ¬ d.stop = 0) (hs2 : ¬ d.stop > 0) (hlf : ¬ (n : Int) > d.left) :
    Calls Try.prog 15 #[v, .int .i64 0, .int .i64 1, .slice p n c] w fun e w' => ∃ y, e = .returned (.tuple #[y, .int .i64 0]) ∧ RD X w' y (d.tick.set 1 ((d.get 1).act 0 m)) ∧ Below w.heap.size w w' := by
  have HX := hide hX
  clear hX
  have h6 : d.stop ≤ 9223372036854775807 := hd.2.2.2.2.2
  have HL := hide (leftR_any (X := X) v d)
  have HR := hide h
  have HO := hide hd
  have hgl : ((d.get 1).l.length : Int) + m.length ≤ 2097152 := by
    have q1 := hd.lens
    have q2 := hB.1
    have q3 : 0 ≤ d.left := hd.2.2.1
    have q4 : d.room ≤ 1048576 := hd.2.2.2.1
    have q5 : d.left ≤ d.room := by unfold Dk.left; omega
    unfold Dk.get
    split <;> omega
  obtain ⟨pa, ca, pb, cb, rfl, g1, g2, g3, g4⟩ := h
  have HD : Hid (∀ W, Below w.heap.size w W → RD X W (.agg #[.slice pa d.a.l.length ca, .int .i64 d.a.s, .slice pb d.b.l.length cb, .int .i64 d.b.s, .int .i64 d.room, .int .i64 (d.stop), .bool false]) d.tick) := by
    intro W hW
    rw [Dk.tick_neg hs2]
    exact ⟨pa, ca, pb, cb, by rw [← h1], g1.below hW, g2, g3.below hW, g4⟩
  have HT := hide (Dk.tick_get d 1)
  generalize hget : d.get 1 = s at *
  clear hget
  have HA : Hid (s.act 0 m = ⟨s.l ++ m, s.s⟩) := by unfold Hid Sl.act; rw [if_pos rfl]
  generalize hset : s.act 0 m = s' at *
  clear hset
  generalize d.tick = t at *
  obtain ⟨ds, HDS⟩ : ∃ ds, Hid (t.set 1 s' = ds) := ⟨_, rfl⟩
  rw [HDS.out]
  have HB := hide hB
  have hnm := hide hB.1
  rw [h1] at HL HR
  clear g1 g3 hB hd
  go_enter Try.func15, Try.ntmps15
  go_wp2_with fail
  refine (HL.out _ (HR.out.below (bel2 w (.cells #[.slice pa d.a.l.length ca, .int .i64 d.a.s, .slice pb d.b.l.length cb, .int .i64 d.b.s, .int .i64 d.room, .int .i64 d.stop, .bool false] 33) (.cells #[.slice none 0 0, .int .i64 0, .slice none 0 0, .int .i64 0, .int .i64 0, .int .i64 0, .bool false] 33))) HO.out).mono ?_
  rintro e w0 ⟨rfl, hb⟩
  have b1 := (BX.alloc (BX.new w w.heap.size rfl _ _) (.cells #[.slice none 0 0, .int .i64 0, .slice none 0 0, .int .i64 0, .int .i64 0, .int .i64 0, .bool false] 33) : BX ((w.alloc (.cells #[.slice pa d.a.l.length ca, .int .i64 d.a.s, .slice pb d.b.l.length cb, .int .i64 d.b.s, .int .i64 d.room, .int .i64 d.stop, .bool false] 33)).alloc (.cells #[.slice none 0 0, .int .i64 0, .slice none 0 0, .int .i64 0, .int .i64 0, .int .i64 0, .bool false] 33)) w.heap.size _ _).below hb
  have b2 := (BX.new (w.alloc (.cells #[.slice pa d.a.l.length ca, .int .i64 d.a.s, .slice pb d.b.l.length cb, .int .i64 d.b.s, .int .i64 d.room, .int .i64 d.stop, .bool false] 33)) (w.heap.size + 1) (by simp) #[.slice none 0 0, .int .i64 0, .slice none 0 0, .int .i64 0, .int .i64 0, .int .i64 0, .bool false] 33).below hb
  have B0 := hide (bel_next (bel2 w (.cells #[.slice pa d.a.l.length ca, .int .i64 d.a.s, .slice pb d.b.l.length cb, .int .i64 d.b.s, .int .i64 d.room, .int .i64 d.stop, .bool false] 33) (.cells #[.slice none 0 0, .int .i64 0, .slice none 0 0, .int .i64 0, .int .i64 0, .int .i64 0, .bool false] 33)) hb)
  clear hb
  have c0 := b1.cell 0 _ rfl
  have c1 := b1.cell 1 _ rfl
  have c2 := b1.cell 2 _ rfl
  have c3 := b1.cell 3 _ rfl
  have c4 := b1.cell 4 _ rfl
  have c5 := b1.cell 5 _ rfl
  have c6 := b1.cell 6 _ rfl
  have hf := fun j => b1.free j
  have hz := b2.size
  have B1 := hide b1
  have B2 := hide b2
  clear b1 b2
  go_wp2_with fail
  have b1 := B1.out
  have b2 := B2.out
  clear c0 c1 c2 c3 c4 c5 c6 hf hz B1 B2
  refine (getR_any _ t _ _ (HD.out _ B0.out)).mono ?_
  rintro e w1 ⟨x, rfl, hx, hb⟩
  rw [HT.out] at hx
  replace b1 := b1.below hb
  replace b2 := b2.below hb
  replace B0 := hide (bel_next B0.out hb)
  obtain ⟨q, cq, rfl, hq, hcq⟩ := hx
  clear hb
  have hz := b2.size
  have B1 := hide b1
  have B2 := hide b2
  have Q := hide hq
  clear b1 b2 hq
  go_wp2_with (at_builtin; refine Stop.at ?_)
  unfold Stop
  have B3 := hide (bel1 w1 (.cells #[.slice q s.l.length cq, .int .i64 s.s] 31))
  have B4 := hide (BX.new w1 w1.heap.size rfl #[.slice q s.l.length cq, .int .i64 s.s] 31)
  have HZ : Hid ((w1.alloc (.cells #[.slice q s.l.length cq, .int .i64 s.s] 31)).heap.size = w1.heap.size + 1) := by unfold Hid; simp
  replace HX : Hid (∀ b, X b → b < (w1.alloc (.cells #[.slice q s.l.length cq, .int .i64 s.s] 31)).heap.size) := by
    intro b hb
    have q1 := HX.out b hb
    have q2 := B0.out.size
    rw [HZ.out]
    omega
  have hs1 := hide ((Below.refl (w1.alloc (.cells #[.slice q s.l.length cq, .int .i64 s.s] 31)).heap.size (w1.alloc (.cells #[.slice q s.l.length cq, .int .i64 s.s] 31))).alloc (Nat.le_refl _) (.cells #[] 5)).size
  refine append_bytes rfl _ _ rfl (w1.alloc (.cells #[.slice q s.l.length cq, .int .i64 s.s] 31)).heap.size _ [] s.l rfl (Own.made (w1.alloc (.cells #[.slice q s.l.length cq, .int .i64 s.s] 31)) _ _ (by simp) (Nat.le_refl _)) q _ cq rfl hcq.2.2 ((Q.out.1.below B3.out).alloc _) (by have := hgl; simp; omega) hs1.out ?_
  intro v1 w2 ho1 hgr1 hbel1
  have BB := hide (hbel1 _ ((Below.refl (w1.alloc (.cells #[.slice q s.l.length cq, .int .i64 s.s] 31)).heap.size (w1.alloc (.cells #[.slice q s.l.length cq, .int .i64 s.s] 31))).alloc (Nat.le_refl _) (.cells #[] 5)))
  have O1 := hide ho1
  clear ho1 hgr1 hbel1
  go_wp2_with (at_builtin; refine Stop.at ?_)
  unfold Stop
  refine append_bytes rfl _ _ rfl (w1.alloc (.cells #[.slice q s.l.length cq, .int .i64 s.s] 31)).heap.size _ ([] ++ s.l) m rfl O1.out p n c rfl hC.2.2 (((HB.out.below B0.out).below B3.out).below BB.out) (by have := hgl; simp; omega) BB.out.size ?_
  intro v2 w3 ho2 hgr2 hbel2
  rw [List.nil_append] at ho2
  replace BB := hide (hbel2 _ BB.out)
  have hby : By (s.l ++ m) := By.append Q.out.1.2.2.1 HB.out.2.2.1
  obtain ⟨p2, cap2, rfl, hbs2, hcp2⟩ := ho2.open hby
  have OFF := hide (ho2.off HX.out)
  clear ho2 hgr2 hbel2 O1
  have hz3 : Hid (w1.heap.size < w3.heap.size) := by have := BB.out.size; rw [HZ.out] at this; unfold Hid; omega
  have b1 := (B1.out.below B3.out).below BB.out
  have b2 := (B2.out.below B3.out).below BB.out
  have b4 := B4.out.below BB.out
  replace B0 := hide (bel_next (bel_next B0.out B3.out) BB.out)
  have hne1 : w1.heap.size ≠ w.heap.size := by omega
  have hne2 : w1.heap.size ≠ w.heap.size + 1 := by omega
  have a1 := b1.other hne1 0 (.slice p2 (s.l ++ m).length cap2)
  have a2 := b2.other hne2 0 (.slice p2 (s.l ++ m).length cap2)
  have a4 := b4.set 0 (.slice p2 (s.l ++ m).length cap2)
  have k4 := KP.set (KP.refl w1.heap.size w3) 0 (.slice p2 (s.l ++ m).length cap2)
  have HBS := hide (hbs2.kp k4 b4 (NoB.slot _ _ _ _))
  have HRD := hide ((HD.out _ B0.out).kp k4 b4 (NoB.slot _ _ _ _))
  replace B0 := hide (B0.out.setCell (p := ⟨w1.heap.size, 0, none⟩) (by have := hz; simp only []; omega) (.slice p2 (s.l ++ m).length cap2))
  replace B2 := hide a2
  have f40 := b4.free 0
  have c40 := b4.cell 0 _ rfl
  have c0 := a1.cell 0 _ rfl
  have c1 := a1.cell 1 _ rfl
  have c2 := a1.cell 2 _ rfl
  have c3 := a1.cell 3 _ rfl
  have c4 := a1.cell 4 _ rfl
  have c5 := a1.cell 5 _ rfl
  have c6 := a1.cell 6 _ rfl
  have e0 := a4.cell 0 _ rfl
  have e1 := a4.cell 1 _ rfl
  clear b1 b2 b4 a1 a2 a4 k4 hbs2
  generalize hS : s.l ++ m = sm at *
  go_wp2_with fail
  refine (setR_any _ t _ _ s' _ HRD.out (by rw [HA.out]; exact ⟨p2, cap2, rfl, ⟨HBS.out, OFF.out⟩, hcp2⟩)).mono ?_
  rintro e w5 ⟨y, rfl, hy, hb⟩
  rw [HDS.out] at hy
  replace B2 := hide (B2.out.below hb)
  replace B0 := hide (bel_next B0.out hb)
  have HY := hide hy
  obtain ⟨pa', ca', pb', cb', rfl, k1, k2, k3, k4⟩ := hy
  have d0 := B2.out.cell 0 _ rfl
  have d1 := B2.out.cell 1 _ rfl
  have d2 := B2.out.cell 2 _ rfl
  have d3 := B2.out.cell 3 _ rfl
  have d4 := B2.out.cell 4 _ rfl
  have d5 := B2.out.cell 5 _ rfl
  have d6 := B2.out.cell 6 _ rfl
  have hf := fun j => B2.out.free j
  have hz2 := B2.out.size
  clear c0 c1 c2 c3 c4 c5 c6 e0 e1 f40 c40 hb k1 k2 k3 k4 hz
  go_wp2
  obtain ⟨r1, r2, r3, _⟩ := B2.out.put7 (.slice pa' ds.a.l.length ca') (.int .i64 ds.a.s) (.slice pb' ds.b.l.length cb') (.int .i64 ds.b.s) (.int .i64 ds.room) (.int .i64 ds.stop) (.bool ds.dead)
  exact bodyPost_ret (results_cell_tmp rfl _ _ _ _ _ _ _ _ rfl rfl r1 Try.underlying33 rfl Try.infoRD) rfl ⟨_, rfl, HY.out.kp r2 B2.out (NoB.disk _ _ _ _ _ _ _ _ _ _ _), r3 _ _ B0.out (by omega)⟩
set_option maxHeartbeats 1000000 in
theorem actR_10p (v : Value) (d : Dk) (p : Option Addr) (n c : Nat) (m : List Int) (w : World) (h : RD X w v d) (hd : d.ok) (hB : BS w p n m) (hC : CP p n c) (hX : ∀ b, X b → b < w.heap.size) (h1 : d.dead = false) (hs : ¬ d.stop = 0) (hs2 : d.stop > 0) :
    Calls Try.prog 15 #[v, .int .i64 1, .int .i64 0, .slice p n c] w fun e w' => ∃ y, e = .returned (.tuple #[y, .int .i64 0]) ∧ RD X w' y (d.tick.set 0 ((d.get 0).act 1 m)) ∧ Below w.heap.size w w' := by
  have HX := hide hX
  clear hX
  have h6 : d.stop ≤ 9223372036854775807 := hd.2.2.2.2.2
  obtain ⟨pa, ca, pb, cb, rfl, g1, g2, g3, g4⟩ := h
  have HD : Hid (∀ W, Below w.heap.size w W → RD X W (.agg #[.slice pa d.a.l.length ca, .int .i64 d.a.s, .slice pb d.b.l.length cb, .int .i64 d.b.s, .int .i64 d.room, .int .i64 (d.stop - 1), .bool false]) d.tick) := by
    intro W hW
    rw [Dk.tick_pos hs2]
    exact ⟨pa, ca, pb, cb, by rw [← h1], g1.below hW, g2, g3.below hW, g4⟩
  have HT := hide (Dk.tick_get d 0)
  generalize hget : d.get 0 = s at *
  clear hget
  have HA : Hid (s.act 1 m = ⟨[], 0⟩) := by unfold Hid Sl.act; rw [if_neg (by decide), if_pos rfl]
  generalize hset : s.act 1 m = s' at *
  clear hset
  generalize d.tick = t at *
  obtain ⟨ds, HDS⟩ : ∃ ds, Hid (t.set 0 s' = ds) := ⟨_, rfl⟩
  rw [HDS.out]
  have HB := hide hB
  clear g1 g3 hB hd
  go_enter Try.func15, Try.ntmps15
  go_wp2_with fail
  have b1 := BX.alloc (BX.new w w.heap.size rfl #[.slice pa d.a.l.length ca, .int .i64 d.a.s, .slice pb d.b.l.length cb, .int .i64 d.b.s, .int .i64 d.room, .int .i64 (d.stop - 1), .bool false] 33) (.cells #[.slice none 0 0, .int .i64 0, .slice none 0 0, .int .i64 0, .int .i64 0, .int .i64 0, .bool false] 33)
  have b2 := BX.new (w.alloc (.cells #[.slice pa d.a.l.length ca, .int .i64 d.a.s, .slice pb d.b.l.length cb, .int .i64 d.b.s, .int .i64 d.room, .int .i64 (d.stop - 1), .bool false] 33)) (w.heap.size + 1) (by simp) #[.slice none 0 0, .int .i64 0, .slice none 0 0, .int .i64 0, .int .i64 0, .int .i64 0, .bool false] 33
  have B0 := hide (bel2 w (.cells #[.slice pa d.a.l.length ca, .int .i64 d.a.s, .slice pb d.b.l.length cb, .int .i64 d.b.s, .int .i64 d.room, .int .i64 (d.stop - 1), .bool false] 33) (.cells #[.slice none 0 0, .int .i64 0, .slice none 0 0, .int .i64 0, .int .i64 0, .int .i64 0, .bool false] 33))
  refine (getR_any _ t _ _ (HD.out _ B0.out)).mono ?_
  rintro e w1 ⟨x, rfl, hx, hb⟩
  rw [HT.out] at hx
  replace b1 := b1.below hb
  replace b2 := b2.below hb
  replace B0 := hide (bel_next B0.out hb)
  obtain ⟨q, cq, rfl, hq, hcq⟩ := hx
  clear hb
  have hz := b2.size
  have B1 := hide b1
  have B2 := hide b2
  have Q := hide hq
  have ba := b1.alloc (.cells #[.slice none 0 0, .int .i64 0] 31)
  have c0 := ba.cell 0 _ rfl
  have c1 := ba.cell 1 _ rfl
  have c2 := ba.cell 2 _ rfl
  have c3 := ba.cell 3 _ rfl
  have c4 := ba.cell 4 _ rfl
  have c5 := ba.cell 5 _ rfl
  have c6 := ba.cell 6 _ rfl
  clear b1 b2 hq ba
  go_wp2_with fail
  have B3 := hide (bel1 w1 (.cells #[.slice none 0 0, .int .i64 0] 31))
  replace B2 := hide (B2.out.below B3.out)
  replace B0 := hide (bel_next B0.out B3.out)
  refine (setR_any _ t _ _ s' _ (HD.out _ B0.out) (by rw [HA.out]; exact ⟨none, 0, rfl, BSX.nil _ _, Nat.le_refl _, by decide, fun _ => rfl⟩)).mono ?_
  rintro e w5 ⟨y, rfl, hy, hb⟩
  rw [HDS.out] at hy
  replace B2 := hide (B2.out.below hb)
  replace B0 := hide (bel_next B0.out hb)
  have HY := hide hy
  obtain ⟨pa', ca', pb', cb', rfl, k1, k2, k3, k4⟩ := hy
  have d0 := B2.out.cell 0 _ rfl
  have d1 := B2.out.cell 1 _ rfl
  have d2 := B2.out.cell 2 _ rfl
  have d3 := B2.out.cell 3 _ rfl
  have d4 := B2.out.cell 4 _ rfl
  have d5 := B2.out.cell 5 _ rfl
  have d6 := B2.out.cell 6 _ rfl
  have hf := fun j => B2.out.free j
  have hz2 := B2.out.size
  clear c0 c1 c2 c3 c4 c5 c6 hb k1 k2 k3 k4 hz
  go_wp2
  obtain ⟨r1, r2, r3, _⟩ := B2.out.put7 (.slice pa' ds.a.l.length ca') (.int .i64 ds.a.s) (.slice pb' ds.b.l.length cb') (.int .i64 ds.b.s) (.int .i64 ds.room) (.int .i64 ds.stop) (.bool ds.dead)
  exact bodyPost_ret (results_cell_tmp rfl _ _ _ _ _ _ _ _ rfl rfl r1 Try.underlying33 rfl Try.infoRD) rfl ⟨_, rfl, HY.out.kp r2 B2.out (NoB.disk _ _ _ _ _ _ _ _ _ _ _), r3 _ _ B0.out (by omega)⟩
set_option maxHeartbeats 1000000 in
theorem actR_10m (v : Value) (d : Dk) (p : Option Addr) (n c : Nat) (m : List Int) (w : World) (h : RD X w v d) (hd : d.ok) (hB : BS w p n m) (hC : CP p n c) (hX : ∀ b, X b → b < w.heap.size) (h1 : d.dead = false) (hs : ¬ d.stop = 0) (hs2 : ¬ d.stop > 0) :
    Calls Try.prog 15 #[v, .int .i64 1, .int .i64 0, .slice p n c] w fun e w' => ∃ y, e = .returned (.tuple #[y, .int .i64 0]) ∧ RD X w' y (d.tick.set 0 ((d.get 0).act 1 m)) ∧ Below w.heap.size w w' := by
  have HX := hide hX
  clear hX
  have h6 : d.stop ≤ 9223372036854775807 := hd.2.2.2.2.2
  obtain ⟨pa, ca, pb, cb, rfl, g1, g2, g3, g4⟩ := h
  have HD : Hid (∀ W, Below w.heap.size w W → RD X W (.agg #[.slice pa d.a.l.length ca, .int .i64 d.a.s, .slice pb d.b.l.length cb, .int .i64 d.b.s, .int .i64 d.room, .int .i64 (d.stop), .bool false]) d.tick) := by
    intro W hW
    rw [Dk.tick_neg hs2]
    exact ⟨pa, ca, pb, cb, by rw [← h1], g1.below hW, g2, g3.below hW, g4⟩
  have HT := hide (Dk.tick_get d 0)
  generalize hget : d.get 0 = s at *
  clear hget
  have HA : Hid (s.act 1 m = ⟨[], 0⟩) := by unfold Hid Sl.act; rw [if_neg (by decide), if_pos rfl]
  generalize hset : s.act 1 m = s' at *
  clear hset
  generalize d.tick = t at *
  obtain ⟨ds, HDS⟩ : ∃ ds, Hid (t.set 0 s' = ds) := ⟨_, rfl⟩
  rw [HDS.out]
  have HB := hide hB
  clear g1 g3 hB hd
  go_enter Try.func15, Try.ntmps15
  go_wp2_with fail
  have b1 := BX.alloc (BX.new w w.heap.size rfl #[.slice pa d.a.l.length ca, .int .i64 d.a.s, .slice pb d.b.l.length cb, .int .i64 d.b.s, .int .i64 d.room, .int .i64 (d.stop), .bool false] 33) (.cells #[.slice none 0 0, .int .i64 0, .slice none 0 0, .int .i64 0, .int .i64 0, .int .i64 0, .bool false] 33)
  have b2 := BX.new (w.alloc (.cells #[.slice pa d.a.l.length ca, .int .i64 d.a.s, .slice pb d.b.l.length cb, .int .i64 d.b.s, .int .i64 d.room, .int .i64 (d.stop), .bool false] 33)) (w.heap.size + 1) (by simp) #[.slice none 0 0, .int .i64 0, .slice none 0 0, .int .i64 0, .int .i64 0, .int .i64 0, .bool false] 33
  have B0 := hide (bel2 w (.cells #[.slice pa d.a.l.length ca, .int .i64 d.a.s, .slice pb d.b.l.length cb, .int .i64 d.b.s, .int .i64 d.room, .int .i64 (d.stop), .bool false] 33) (.cells #[.slice none 0 0, .int .i64 0, .slice none 0 0, .int .i64 0, .int .i64 0, .int .i64 0, .bool false] 33))
  refine (getR_any _ t _ _ (HD.out _ B0.out)).mono ?_
  rintro e w1 ⟨x, rfl, hx, hb⟩
  rw [HT.out] at hx
  replace b1 := b1.below hb
  replace b2 := b2.below hb
  replace B0 := hide (bel_next B0.out hb)
  obtain ⟨q, cq, rfl, hq, hcq⟩ := hx
  clear hb
  have hz := b2.size
  have B1 := hide b1
  have B2 := hide b2
  have Q := hide hq
  have ba := b1.alloc (.cells #[.slice none 0 0, .int .i64 0] 31)
  have c0 := ba.cell 0 _ rfl
  have c1 := ba.cell 1 _ rfl
  have c2 := ba.cell 2 _ rfl
  have c3 := ba.cell 3 _ rfl
  have c4 := ba.cell 4 _ rfl
  have c5 := ba.cell 5 _ rfl
  have c6 := ba.cell 6 _ rfl
  clear b1 b2 hq ba
  go_wp2_with fail
  have B3 := hide (bel1 w1 (.cells #[.slice none 0 0, .int .i64 0] 31))
  replace B2 := hide (B2.out.below B3.out)
  replace B0 := hide (bel_next B0.out B3.out)
  refine (setR_any _ t _ _ s' _ (HD.out _ B0.out) (by rw [HA.out]; exact ⟨none, 0, rfl, BSX.nil _ _, Nat.le_refl _, by decide, fun _ => rfl⟩)).mono ?_
  rintro e w5 ⟨y, rfl, hy, hb⟩
  rw [HDS.out] at hy
  replace B2 := hide (B2.out.below hb)
  replace B0 := hide (bel_next B0.out hb)
  have HY := hide hy
  obtain ⟨pa', ca', pb', cb', rfl, k1, k2, k3, k4⟩ := hy
  have d0 := B2.out.cell 0 _ rfl
  have d1 := B2.out.cell 1 _ rfl
  have d2 := B2.out.cell 2 _ rfl
  have d3 := B2.out.cell 3 _ rfl
  have d4 := B2.out.cell 4 _ rfl
  have d5 := B2.out.cell 5 _ rfl
  have d6 := B2.out.cell 6 _ rfl
  have hf := fun j => B2.out.free j
  have hz2 := B2.out.size
  clear c0 c1 c2 c3 c4 c5 c6 hb k1 k2 k3 k4 hz
  go_wp2
  obtain ⟨r1, r2, r3, _⟩ := B2.out.put7 (.slice pa' ds.a.l.length ca') (.int .i64 ds.a.s) (.slice pb' ds.b.l.length cb') (.int .i64 ds.b.s) (.int .i64 ds.room) (.int .i64 ds.stop) (.bool ds.dead)
  exact bodyPost_ret (results_cell_tmp rfl _ _ _ _ _ _ _ _ rfl rfl r1 Try.underlying33 rfl Try.infoRD) rfl ⟨_, rfl, HY.out.kp r2 B2.out (NoB.disk _ _ _ _ _ _ _ _ _ _ _), r3 _ _ B0.out (by omega)⟩
set_option maxHeartbeats 1000000 in
theorem actR_11p (v : Value) (d : Dk) (p : Option Addr) (n c : Nat) (m : List Int) (w : World) (h : RD X w v d) (hd : d.ok) (hB : BS w p n m) (hC : CP p n c) (hX : ∀ b, X b → b < w.heap.size) (h1 : d.dead = false) (hs : ¬ d.stop = 0) (hs2 : d.stop > 0) :
    Calls Try.prog 15 #[v, .int .i64 1, .int .i64 1, .slice p n c] w fun e w' => ∃ y, e = .returned (.tuple #[y, .int .i64 0]) ∧ RD X w' y (d.tick.set 1 ((d.get 1).act 1 m)) ∧ Below w.heap.size w w' := by
  have HX := hide hX
  clear hX
  have h6 : d.stop ≤ 9223372036854775807 := hd.2.2.2.2.2
  obtain ⟨pa, ca, pb, cb, rfl, g1, g2, g3, g4⟩ := h
  have HD : Hid (∀ W, Below w.heap.size w W → RD X W (.agg #[.slice pa d.a.l.length ca, .int .i64 d.a.s, .slice pb d.b.l.length cb, .int .i64 d.b.s, .int .i64 d.room, .int .i64 (d.stop - 1), .bool false]) d.tick) := by
    intro W hW
    rw [Dk.tick_pos hs2]
    exact ⟨pa, ca, pb, cb, by rw [← h1], g1.below hW, g2, g3.below hW, g4⟩
  have HT := hide (Dk.tick_get d 1)
  generalize hget : d.get 1 = s at *
  clear hget
  have HA : Hid (s.act 1 m = ⟨[], 0⟩) := by unfold Hid Sl.act; rw [if_neg (by decide), if_pos rfl]
  generalize hset : s.act 1 m = s' at *
  clear hset
  generalize d.tick = t at *
  obtain ⟨ds, HDS⟩ : ∃ ds, Hid (t.set 1 s' = ds) := ⟨_, rfl⟩
  rw [HDS.out]
  have HB := hide hB
  clear g1 g3 hB hd
  go_enter Try.func15, Try.ntmps15
  go_wp2_with fail
  have b1 := BX.alloc (BX.new w w.heap.size rfl #[.slice pa d.a.l.length ca, .int .i64 d.a.s, .slice pb d.b.l.length cb, .int .i64 d.b.s, .int .i64 d.room, .int .i64 (d.stop - 1), .bool false] 33) (.cells #[.slice none 0 0, .int .i64 0, .slice none 0 0, .int .i64 0, .int .i64 0, .int .i64 0, .bool false] 33)
  have b2 := BX.new (w.alloc (.cells #[.slice pa d.a.l.length ca, .int .i64 d.a.s, .slice pb d.b.l.length cb, .int .i64 d.b.s, .int .i64 d.room, .int .i64 (d.stop - 1), .bool false] 33)) (w.heap.size + 1) (by simp) #[.slice none 0 0, .int .i64 0, .slice none 0 0, .int .i64 0, .int .i64 0, .int .i64 0, .bool false] 33
  have B0 := hide (bel2 w (.cells #[.slice pa d.a.l.length ca, .int .i64 d.a.s, .slice pb d.b.l.length cb, .int .i64 d.b.s, .int .i64 d.room, .int .i64 (d.stop - 1), .bool false] 33) (.cells #[.slice none 0 0, .int .i64 0, .slice none 0 0, .int .i64 0, .int .i64 0, .int .i64 0, .bool false] 33))
  refine (getR_any _ t _ _ (HD.out _ B0.out)).mono ?_
  rintro e w1 ⟨x, rfl, hx, hb⟩
  rw [HT.out] at hx
  replace b1 := b1.below hb
  replace b2 := b2.below hb
  replace B0 := hide (bel_next B0.out hb)
  obtain ⟨q, cq, rfl, hq, hcq⟩ := hx
  clear hb
  have hz := b2.size
  have B1 := hide b1
  have B2 := hide b2
  have Q := hide hq
  have ba := b1.alloc (.cells #[.slice none 0 0, .int .i64 0] 31)
  have c0 := ba.cell 0 _ rfl
  have c1 := ba.cell 1 _ rfl
  have c2 := ba.cell 2 _ rfl
  have c3 := ba.cell 3 _ rfl
  have c4 := ba.cell 4 _ rfl
  have c5 := ba.cell 5 _ rfl
  have c6 := ba.cell 6 _ rfl
  clear b1 b2 hq ba
  go_wp2_with fail
  have B3 := hide (bel1 w1 (.cells #[.slice none 0 0, .int .i64 0] 31))
  replace B2 := hide (B2.out.below B3.out)
  replace B0 := hide (bel_next B0.out B3.out)
  refine (setR_any _ t _ _ s' _ (HD.out _ B0.out) (by rw [HA.out]; exact ⟨none, 0, rfl, BSX.nil _ _, Nat.le_refl _, by decide, fun _ => rfl⟩)).mono ?_
  rintro e w5 ⟨y, rfl, hy, hb⟩
  rw [HDS.out] at hy
  replace B2 := hide (B2.out.below hb)
  replace B0 := hide (bel_next B0.out hb)
  have HY := hide hy
  obtain ⟨pa', ca', pb', cb', rfl, k1, k2, k3, k4⟩ := hy
  have d0 := B2.out.cell 0 _ rfl
  have d1 := B2.out.cell 1 _ rfl
  have d2 := B2.out.cell 2 _ rfl
  have d3 := B2.out.cell 3 _ rfl
  have d4 := B2.out.cell 4 _ rfl
  have d5 := B2.out.cell 5 _ rfl
  have d6 := B2.out.cell 6 _ rfl
  have hf := fun j => B2.out.free j
  have hz2 := B2.out.size
  clear c0 c1 c2 c3 c4 c5 c6 hb k1 k2 k3 k4 hz
  go_wp2
  obtain ⟨r1, r2, r3, _⟩ := B2.out.put7 (.slice pa' ds.a.l.length ca') (.int .i64 ds.a.s) (.slice pb' ds.b.l.length cb') (.int .i64 ds.b.s) (.int .i64 ds.room) (.int .i64 ds.stop) (.bool ds.dead)
  exact bodyPost_ret (results_cell_tmp rfl _ _ _ _ _ _ _ _ rfl rfl r1 Try.underlying33 rfl Try.infoRD) rfl ⟨_, rfl, HY.out.kp r2 B2.out (NoB.disk _ _ _ _ _ _ _ _ _ _ _), r3 _ _ B0.out (by omega)⟩
set_option maxHeartbeats 1000000 in
theorem actR_11m (v : Value) (d : Dk) (p : Option Addr) (n c : Nat) (m : List Int) (w : World) (h : RD X w v d) (hd : d.ok) (hB : BS w p n m) (hC : CP p n c) (hX : ∀ b, X b → b < w.heap.size) (h1 : d.dead = false) (hs : ¬ d.stop = 0) (hs2 : ¬ d.stop > 0) :
    Calls Try.prog 15 #[v, .int .i64 1, .int .i64 1, .slice p n c] w fun e w' => ∃ y, e = .returned (.tuple #[y, .int .i64 0]) ∧ RD X w' y (d.tick.set 1 ((d.get 1).act 1 m)) ∧ Below w.heap.size w w' := by
  have HX := hide hX
  clear hX
  have h6 : d.stop ≤ 9223372036854775807 := hd.2.2.2.2.2
  obtain ⟨pa, ca, pb, cb, rfl, g1, g2, g3, g4⟩ := h
  have HD : Hid (∀ W, Below w.heap.size w W → RD X W (.agg #[.slice pa d.a.l.length ca, .int .i64 d.a.s, .slice pb d.b.l.length cb, .int .i64 d.b.s, .int .i64 d.room, .int .i64 (d.stop), .bool false]) d.tick) := by
    intro W hW
    rw [Dk.tick_neg hs2]
    exact ⟨pa, ca, pb, cb, by rw [← h1], g1.below hW, g2, g3.below hW, g4⟩
  have HT := hide (Dk.tick_get d 1)
  generalize hget : d.get 1 = s at *
  clear hget
  have HA : Hid (s.act 1 m = ⟨[], 0⟩) := by unfold Hid Sl.act; rw [if_neg (by decide), if_pos rfl]
  generalize hset : s.act 1 m = s' at *
  clear hset
  generalize d.tick = t at *
  obtain ⟨ds, HDS⟩ : ∃ ds, Hid (t.set 1 s' = ds) := ⟨_, rfl⟩
  rw [HDS.out]
  have HB := hide hB
  clear g1 g3 hB hd
  go_enter Try.func15, Try.ntmps15
  go_wp2_with fail
  have b1 := BX.alloc (BX.new w w.heap.size rfl #[.slice pa d.a.l.length ca, .int .i64 d.a.s, .slice pb d.b.l.length cb, .int .i64 d.b.s, .int .i64 d.room, .int .i64 (d.stop), .bool false] 33) (.cells #[.slice none 0 0, .int .i64 0, .slice none 0 0, .int .i64 0, .int .i64 0, .int .i64 0, .bool false] 33)
  have b2 := BX.new (w.alloc (.cells #[.slice pa d.a.l.length ca, .int .i64 d.a.s, .slice pb d.b.l.length cb, .int .i64 d.b.s, .int .i64 d.room, .int .i64 (d.stop), .bool false] 33)) (w.heap.size + 1) (by simp) #[.slice none 0 0, .int .i64 0, .slice none 0 0, .int .i64 0, .int .i64 0, .int .i64 0, .bool false] 33
  have B0 := hide (bel2 w (.cells #[.slice pa d.a.l.length ca, .int .i64 d.a.s, .slice pb d.b.l.length cb, .int .i64 d.b.s, .int .i64 d.room, .int .i64 (d.stop), .bool false] 33) (.cells #[.slice none 0 0, .int .i64 0, .slice none 0 0, .int .i64 0, .int .i64 0, .int .i64 0, .bool false] 33))
  refine (getR_any _ t _ _ (HD.out _ B0.out)).mono ?_
  rintro e w1 ⟨x, rfl, hx, hb⟩
  rw [HT.out] at hx
  replace b1 := b1.below hb
  replace b2 := b2.below hb
  replace B0 := hide (bel_next B0.out hb)
  obtain ⟨q, cq, rfl, hq, hcq⟩ := hx
  clear hb
  have hz := b2.size
  have B1 := hide b1
  have B2 := hide b2
  have Q := hide hq
  have ba := b1.alloc (.cells #[.slice none 0 0, .int .i64 0] 31)
  have c0 := ba.cell 0 _ rfl
  have c1 := ba.cell 1 _ rfl
  have c2 := ba.cell 2 _ rfl
  have c3 := ba.cell 3 _ rfl
  have c4 := ba.cell 4 _ rfl
  have c5 := ba.cell 5 _ rfl
  have c6 := ba.cell 6 _ rfl
  clear b1 b2 hq ba
  go_wp2_with fail
  have B3 := hide (bel1 w1 (.cells #[.slice none 0 0, .int .i64 0] 31))
  replace B2 := hide (B2.out.below B3.out)
  replace B0 := hide (bel_next B0.out B3.out)
  refine (setR_any _ t _ _ s' _ (HD.out _ B0.out) (by rw [HA.out]; exact ⟨none, 0, rfl, BSX.nil _ _, Nat.le_refl _, by decide, fun _ => rfl⟩)).mono ?_
  rintro e w5 ⟨y, rfl, hy, hb⟩
  rw [HDS.out] at hy
  replace B2 := hide (B2.out.below hb)
  replace B0 := hide (bel_next B0.out hb)
  have HY := hide hy
  obtain ⟨pa', ca', pb', cb', rfl, k1, k2, k3, k4⟩ := hy
  have d0 := B2.out.cell 0 _ rfl
  have d1 := B2.out.cell 1 _ rfl
  have d2 := B2.out.cell 2 _ rfl
  have d3 := B2.out.cell 3 _ rfl
  have d4 := B2.out.cell 4 _ rfl
  have d5 := B2.out.cell 5 _ rfl
  have d6 := B2.out.cell 6 _ rfl
  have hf := fun j => B2.out.free j
  have hz2 := B2.out.size
  clear c0 c1 c2 c3 c4 c5 c6 hb k1 k2 k3 k4 hz
  go_wp2
  obtain ⟨r1, r2, r3, _⟩ := B2.out.put7 (.slice pa' ds.a.l.length ca') (.int .i64 ds.a.s) (.slice pb' ds.b.l.length cb') (.int .i64 ds.b.s) (.int .i64 ds.room) (.int .i64 ds.stop) (.bool ds.dead)
  exact bodyPost_ret (results_cell_tmp rfl _ _ _ _ _ _ _ _ rfl rfl r1 Try.underlying33 rfl Try.infoRD) rfl ⟨_, rfl, HY.out.kp r2 B2.out (NoB.disk _ _ _ _ _ _ _ _ _ _ _), r3 _ _ B0.out (by omega)⟩
set_option maxHeartbeats 1000000 in
theorem actR_20p (v : Value) (d : Dk) (p : Option Addr) (n c : Nat) (m : List Int) (w : World) (h : RD X w v d) (hd : d.ok) (hB : BS w p n m) (hC : CP p n c) (hX : ∀ b, X b → b < w.heap.size) (h1 : d.dead = false) (hs : ¬ d.stop = 0) (hs2 : d.stop > 0) :
    Calls Try.prog 15 #[v, .int .i64 2, .int .i64 0, .slice p n c] w fun e w' => ∃ y, e = .returned (.tuple #[y, .int .i64 0]) ∧ RD X w' y (d.tick.set 0 ((d.get 0).act 2 m)) ∧ Below w.heap.size w w' := by
  have HX := hide hX
  clear hX
  have h6 : d.stop ≤ 9223372036854775807 := hd.2.2.2.2.2
  obtain ⟨pa, ca, pb, cb, rfl, g1, g2, g3, g4⟩ := h
  have HD : Hid (∀ W, Below w.heap.size w W → RD X W (.agg #[.slice pa d.a.l.length ca, .int .i64 d.a.s, .slice pb d.b.l.length cb, .int .i64 d.b.s, .int .i64 d.room, .int .i64 (d.stop - 1), .bool false]) d.tick) := by
    intro W hW
    rw [Dk.tick_pos hs2]
    exact ⟨pa, ca, pb, cb, by rw [← h1], g1.below hW, g2, g3.below hW, g4⟩
  have HT := hide (Dk.tick_get d 0)
  generalize hget : d.get 0 = s at *
  clear hget
  have HA : Hid (s.act 2 m = ⟨s.l, s.l.length⟩) := by unfold Hid Sl.act; rw [if_neg (by decide), if_neg (by decide), if_pos rfl]
  generalize hset : s.act 2 m = s' at *
  clear hset
  generalize d.tick = t at *
  obtain ⟨ds, HDS⟩ : ∃ ds, Hid (t.set 0 s' = ds) := ⟨_, rfl⟩
  rw [HDS.out]
  have HB := hide hB
  clear g1 g3 hB hd
  go_enter Try.func15, Try.ntmps15
  go_wp2_with fail
  have b1 := BX.alloc (BX.new w w.heap.size rfl #[.slice pa d.a.l.length ca, .int .i64 d.a.s, .slice pb d.b.l.length cb, .int .i64 d.b.s, .int .i64 d.room, .int .i64 (d.stop - 1), .bool false] 33) (.cells #[.slice none 0 0, .int .i64 0, .slice none 0 0, .int .i64 0, .int .i64 0, .int .i64 0, .bool false] 33)
  have b2 := BX.new (w.alloc (.cells #[.slice pa d.a.l.length ca, .int .i64 d.a.s, .slice pb d.b.l.length cb, .int .i64 d.b.s, .int .i64 d.room, .int .i64 (d.stop - 1), .bool false] 33)) (w.heap.size + 1) (by simp) #[.slice none 0 0, .int .i64 0, .slice none 0 0, .int .i64 0, .int .i64 0, .int .i64 0, .bool false] 33
  have B0 := hide (bel2 w (.cells #[.slice pa d.a.l.length ca, .int .i64 d.a.s, .slice pb d.b.l.length cb, .int .i64 d.b.s, .int .i64 d.room, .int .i64 (d.stop - 1), .bool false] 33) (.cells #[.slice none 0 0, .int .i64 0, .slice none 0 0, .int .i64 0, .int .i64 0, .int .i64 0, .bool false] 33))
  refine (getR_any _ t _ _ (HD.out _ B0.out)).mono ?_
  rintro e w1 ⟨x, rfl, hx, hb⟩
  rw [HT.out] at hx
  replace b1 := b1.below hb
  replace b2 := b2.below hb
  replace B0 := hide (bel_next B0.out hb)
  obtain ⟨q, cq, rfl, hq, hcq⟩ := hx
  clear hb
  have hz := b2.size
  have B1 := hide b1
  have B2 := hide b2
  have Q := hide hq
  have ba := b1.alloc (.cells #[.slice q s.l.length cq, .int .i64 (s.l.length : Int)] 31)
  have c0 := ba.cell 0 _ rfl
  have c1 := ba.cell 1 _ rfl
  have c2 := ba.cell 2 _ rfl
  have c3 := ba.cell 3 _ rfl
  have c4 := ba.cell 4 _ rfl
  have c5 := ba.cell 5 _ rfl
  have c6 := ba.cell 6 _ rfl
  clear b1 b2 hq ba
  go_wp2_with fail
  have B3 := hide (bel1 w1 (.cells #[.slice q s.l.length cq, .int .i64 (s.l.length : Int)] 31))
  replace B2 := hide (B2.out.below B3.out)
  replace B0 := hide (bel_next B0.out B3.out)
  refine (setR_any _ t _ _ s' _ (HD.out _ B0.out) (by rw [HA.out]; exact ⟨q, cq, rfl, Q.out.below B3.out, hcq⟩)).mono ?_
  rintro e w5 ⟨y, rfl, hy, hb⟩
  rw [HDS.out] at hy
  replace B2 := hide (B2.out.below hb)
  replace B0 := hide (bel_next B0.out hb)
  have HY := hide hy
  obtain ⟨pa', ca', pb', cb', rfl, k1, k2, k3, k4⟩ := hy
  have d0 := B2.out.cell 0 _ rfl
  have d1 := B2.out.cell 1 _ rfl
  have d2 := B2.out.cell 2 _ rfl
  have d3 := B2.out.cell 3 _ rfl
  have d4 := B2.out.cell 4 _ rfl
  have d5 := B2.out.cell 5 _ rfl
  have d6 := B2.out.cell 6 _ rfl
  have hf := fun j => B2.out.free j
  have hz2 := B2.out.size
  clear c0 c1 c2 c3 c4 c5 c6 hb k1 k2 k3 k4 hz
  go_wp2
  obtain ⟨r1, r2, r3, _⟩ := B2.out.put7 (.slice pa' ds.a.l.length ca') (.int .i64 ds.a.s) (.slice pb' ds.b.l.length cb') (.int .i64 ds.b.s) (.int .i64 ds.room) (.int .i64 ds.stop) (.bool ds.dead)
  exact bodyPost_ret (results_cell_tmp rfl _ _ _ _ _ _ _ _ rfl rfl r1 Try.underlying33 rfl Try.infoRD) rfl ⟨_, rfl, HY.out.kp r2 B2.out (NoB.disk _ _ _ _ _ _ _ _ _ _ _), r3 _ _ B0.out (by omega)⟩
set_option maxHeartbeats 1000000 in
theorem actR_20m (v : Value) (d : Dk) (p : Option Addr) (n c : Nat) (m : List Int) (w : World) (h : RD X w v d) (hd : d.ok) (hB : BS w p n m) (hC : CP p n c) (hX : ∀ b, X b → b < w.heap.size) (h1 : d.dead = false) (hs : ¬ d.stop = 0) (hs2 : ¬ d.stop > 0) :
    Calls Try.prog 15 #[v, .int .i64 2, .int .i64 0, .slice p n c] w fun e w' => ∃ y, e = .returned (.tuple #[y, .int .i64 0]) ∧ RD X w' y (d.tick.set 0 ((d.get 0).act 2 m)) ∧ Below w.heap.size w w' := by
  have HX := hide hX
  clear hX
  have h6 : d.stop ≤ 9223372036854775807 := hd.2.2.2.2.2
  obtain ⟨pa, ca, pb, cb, rfl, g1, g2, g3, g4⟩ := h
  have HD : Hid (∀ W, Below w.heap.size w W → RD X W (.agg #[.slice pa d.a.l.length ca, .int .i64 d.a.s, .slice pb d.b.l.length cb, .int .i64 d.b.s, .int .i64 d.room, .int .i64 (d.stop), .bool false]) d.tick) := by
    intro W hW
    rw [Dk.tick_neg hs2]
    exact ⟨pa, ca, pb, cb, by rw [← h1], g1.below hW, g2, g3.below hW, g4⟩
  have HT := hide (Dk.tick_get d 0)
  generalize hget : d.get 0 = s at *
  clear hget
  have HA : Hid (s.act 2 m = ⟨s.l, s.l.length⟩) := by unfold Hid Sl.act; rw [if_neg (by decide), if_neg (by decide), if_pos rfl]
  generalize hset : s.act 2 m = s' at *
  clear hset
  generalize d.tick = t at *
  obtain ⟨ds, HDS⟩ : ∃ ds, Hid (t.set 0 s' = ds) := ⟨_, rfl⟩
  rw [HDS.out]
  have HB := hide hB
  clear g1 g3 hB hd
  go_enter Try.func15, Try.ntmps15
  go_wp2_with fail
  have b1 := BX.alloc (BX.new w w.heap.size rfl #[.slice pa d.a.l.length ca, .int .i64 d.a.s, .slice pb d.b.l.length cb, .int .i64 d.b.s, .int .i64 d.room, .int .i64 (d.stop), .bool false] 33) (.cells #[.slice none 0 0, .int .i64 0, .slice none 0 0, .int .i64 0, .int .i64 0, .int .i64 0, .bool false] 33)
  have b2 := BX.new (w.alloc (.cells #[.slice pa d.a.l.length ca, .int .i64 d.a.s, .slice pb d.b.l.length cb, .int .i64 d.b.s, .int .i64 d.room, .int .i64 (d.stop), .bool false] 33)) (w.heap.size + 1) (by simp) #[.slice none 0 0, .int .i64 0, .slice none 0 0, .int .i64 0, .int .i64 0, .int .i64 0, .bool false] 33
  have B0 := hide (bel2 w (.cells #[.slice pa d.a.l.length ca, .int .i64 d.a.s, .slice pb d.b.l.length cb, .int .i64 d.b.s, .int .i64 d.room, .int .i64 (d.stop), .bool false] 33) (.cells #[.slice none 0 0, .int .i64 0, .slice none 0 0, .int .i64 0, .int .i64 0, .int .i64 0, .bool false] 33))
  refine (getR_any _ t _ _ (HD.out _ B0.out)).mono ?_
  rintro e w1 ⟨x, rfl, hx, hb⟩
  rw [HT.out] at hx
  replace b1 := b1.below hb
  replace b2 := b2.below hb
  replace B0 := hide (bel_next B0.out hb)
  obtain ⟨q, cq, rfl, hq, hcq⟩ := hx
  clear hb
  have hz := b2.size
  have B1 := hide b1
  have B2 := hide b2
  have Q := hide hq
  have ba := b1.alloc (.cells #[.slice q s.l.length cq, .int .i64 (s.l.length : Int)] 31)
  have c0 := ba.cell 0 _ rfl
  have c1 := ba.cell 1 _ rfl
  have c2 := ba.cell 2 _ rfl
  have c3 := ba.cell 3 _ rfl
  have c4 := ba.cell 4 _ rfl
  have c5 := ba.cell 5 _ rfl
  have c6 := ba.cell 6 _ rfl
  clear b1 b2 hq ba
  go_wp2_with fail
  have B3 := hide (bel1 w1 (.cells #[.slice q s.l.length cq, .int .i64 (s.l.length : Int)] 31))
  replace B2 := hide (B2.out.below B3.out)
  replace B0 := hide (bel_next B0.out B3.out)
  refine (setR_any _ t _ _ s' _ (HD.out _ B0.out) (by rw [HA.out]; exact ⟨q, cq, rfl, Q.out.below B3.out, hcq⟩)).mono ?_
  rintro e w5 ⟨y, rfl, hy, hb⟩
  rw [HDS.out] at hy
  replace B2 := hide (B2.out.below hb)
  replace B0 := hide (bel_next B0.out hb)
  have HY := hide hy
  obtain ⟨pa', ca', pb', cb', rfl, k1, k2, k3, k4⟩ := hy
  have d0 := B2.out.cell 0 _ rfl
  have d1 := B2.out.cell 1 _ rfl
  have d2 := B2.out.cell 2 _ rfl
  have d3 := B2.out.cell 3 _ rfl
  have d4 := B2.out.cell 4 _ rfl
  have d5 := B2.out.cell 5 _ rfl
  have d6 := B2.out.cell 6 _ rfl
  have hf := fun j => B2.out.free j
  have hz2 := B2.out.size
  clear c0 c1 c2 c3 c4 c5 c6 hb k1 k2 k3 k4 hz
  go_wp2
  obtain ⟨r1, r2, r3, _⟩ := B2.out.put7 (.slice pa' ds.a.l.length ca') (.int .i64 ds.a.s) (.slice pb' ds.b.l.length cb') (.int .i64 ds.b.s) (.int .i64 ds.room) (.int .i64 ds.stop) (.bool ds.dead)
  exact bodyPost_ret (results_cell_tmp rfl _ _ _ _ _ _ _ _ rfl rfl r1 Try.underlying33 rfl Try.infoRD) rfl ⟨_, rfl, HY.out.kp r2 B2.out (NoB.disk _ _ _ _ _ _ _ _ _ _ _), r3 _ _ B0.out (by omega)⟩
set_option maxHeartbeats 1000000 in
theorem actR_21p (v : Value) (d : Dk) (p : Option Addr) (n c : Nat) (m : List Int) (w : World) (h : RD X w v d) (hd : d.ok) (hB : BS w p n m) (hC : CP p n c) (hX : ∀ b, X b → b < w.heap.size) (h1 : d.dead = false) (hs : ¬ d.stop = 0) (hs2 : d.stop > 0) :
    Calls Try.prog 15 #[v, .int .i64 2, .int .i64 1, .slice p n c] w fun e w' => ∃ y, e = .returned (.tuple #[y, .int .i64 0]) ∧ RD X w' y (d.tick.set 1 ((d.get 1).act 2 m)) ∧ Below w.heap.size w w' := by
  have HX := hide hX
  clear hX
  have h6 : d.stop ≤ 9223372036854775807 := hd.2.2.2.2.2
  obtain ⟨pa, ca, pb, cb, rfl, g1, g2, g3, g4⟩ := h
  have HD : Hid (∀ W, Below w.heap.size w W → RD X W (.agg #[.slice pa d.a.l.length ca, .int .i64 d.a.s, .slice pb d.b.l.length cb, .int .i64 d.b.s, .int .i64 d.room, .int .i64 (d.stop - 1), .bool false]) d.tick) := by
    intro W hW
    rw [Dk.tick_pos hs2]
    exact ⟨pa, ca, pb, cb, by rw [← h1], g1.below hW, g2, g3.below hW, g4⟩
  have HT := hide (Dk.tick_get d 1)
  generalize hget : d.get 1 = s at *
  clear hget
  have HA : Hid (s.act 2 m = ⟨s.l, s.l.length⟩) := by unfold Hid Sl.act; rw [if_neg (by decide), if_neg (by decide), if_pos rfl]
  generalize hset : s.act 2 m = s' at *
  clear hset
  generalize d.tick = t at *
  obtain ⟨ds, HDS⟩ : ∃ ds, Hid (t.set 1 s' = ds) := ⟨_, rfl⟩
  rw [HDS.out]
  have HB := hide hB
  clear g1 g3 hB hd
  go_enter Try.func15, Try.ntmps15
  go_wp2_with fail
  have b1 := BX.alloc (BX.new w w.heap.size rfl #[.slice pa d.a.l.length ca, .int .i64 d.a.s, .slice pb d.b.l.length cb, .int .i64 d.b.s, .int .i64 d.room, .int .i64 (d.stop - 1), .bool false] 33) (.cells #[.slice none 0 0, .int .i64 0, .slice none 0 0, .int .i64 0, .int .i64 0, .int .i64 0, .bool false] 33)
  have b2 := BX.new (w.alloc (.cells #[.slice pa d.a.l.length ca, .int .i64 d.a.s, .slice pb d.b.l.length cb, .int .i64 d.b.s, .int .i64 d.room, .int .i64 (d.stop - 1), .bool false] 33)) (w.heap.size + 1) (by simp) #[.slice none 0 0, .int .i64 0, .slice none 0 0, .int .i64 0, .int .i64 0, .int .i64 0, .bool false] 33
  have B0 := hide (bel2 w (.cells #[.slice pa d.a.l.length ca, .int .i64 d.a.s, .slice pb d.b.l.length cb, .int .i64 d.b.s, .int .i64 d.room, .int .i64 (d.stop - 1), .bool false] 33) (.cells #[.slice none 0 0, .int .i64 0, .slice none 0 0, .int .i64 0, .int .i64 0, .int .i64 0, .bool false] 33))
  refine (getR_any _ t _ _ (HD.out _ B0.out)).mono ?_
  rintro e w1 ⟨x, rfl, hx, hb⟩
  rw [HT.out] at hx
  replace b1 := b1.below hb
  replace b2 := b2.below hb
  replace B0 := hide (bel_next B0.out hb)
  obtain ⟨q, cq, rfl, hq, hcq⟩ := hx
  clear hb
  have hz := b2.size
  have B1 := hide b1
  have B2 := hide b2
  have Q := hide hq
  have ba := b1.alloc (.cells #[.slice q s.l.length cq, .int .i64 (s.l.length : Int)] 31)
  have c0 := ba.cell 0 _ rfl
  have c1 := ba.cell 1 _ rfl
  have c2 := ba.cell 2 _ rfl
  have c3 := ba.cell 3 _ rfl
  have c4 := ba.cell 4 _ rfl
  have c5 := ba.cell 5 _ rfl
  have c6 := ba.cell 6 _ rfl
  clear b1 b2 hq ba
  go_wp2_with fail
  have B3 := hide (bel1 w1 (.cells #[.slice q s.l.length cq, .int .i64 (s.l.length : Int)] 31))
  replace B2 := hide (B2.out.below B3.out)
  replace B0 := hide (bel_next B0.out B3.out)
  refine (setR_any _ t _ _ s' _ (HD.out _ B0.out) (by rw [HA.out]; exact ⟨q, cq, rfl, Q.out.below B3.out, hcq⟩)).mono ?_
  rintro e w5 ⟨y, rfl, hy, hb⟩
  rw [HDS.out] at hy
  replace B2 := hide (B2.out.below hb)
  replace B0 := hide (bel_next B0.out hb)
  have HY := hide hy
  obtain ⟨pa', ca', pb', cb', rfl, k1, k2, k3, k4⟩ := hy
  have d0 := B2.out.cell 0 _ rfl
  have d1 := B2.out.cell 1 _ rfl
  have d2 := B2.out.cell 2 _ rfl
  have d3 := B2.out.cell 3 _ rfl
  have d4 := B2.out.cell 4 _ rfl
  have d5 := B2.out.cell 5 _ rfl
  have d6 := B2.out.cell 6 _ rfl
  have hf := fun j => B2.out.free j
  have hz2 := B2.out.size
  clear c0 c1 c2 c3 c4 c5 c6 hb k1 k2 k3 k4 hz
  go_wp2
  obtain ⟨r1, r2, r3, _⟩ := B2.out.put7 (.slice pa' ds.a.l.length ca') (.int .i64 ds.a.s) (.slice pb' ds.b.l.length cb') (.int .i64 ds.b.s) (.int .i64 ds.room) (.int .i64 ds.stop) (.bool ds.dead)
  exact bodyPost_ret (results_cell_tmp rfl _ _ _ _ _ _ _ _ rfl rfl r1 Try.underlying33 rfl Try.infoRD) rfl ⟨_, rfl, HY.out.kp r2 B2.out (NoB.disk _ _ _ _ _ _ _ _ _ _ _), r3 _ _ B0.out (by omega)⟩
set_option maxHeartbeats 1000000 in
theorem actR_21m (v : Value) (d : Dk) (p : Option Addr) (n c : Nat) (m : List Int) (w : World) (h : RD X w v d) (hd : d.ok) (hB : BS w p n m) (hC : CP p n c) (hX : ∀ b, X b → b < w.heap.size) (h1 : d.dead = false) (hs : ¬ d.stop = 0) (hs2 : ¬ d.stop > 0) :
    Calls Try.prog 15 #[v, .int .i64 2, .int .i64 1, .slice p n c] w fun e w' => ∃ y, e = .returned (.tuple #[y, .int .i64 0]) ∧ RD X w' y (d.tick.set 1 ((d.get 1).act 2 m)) ∧ Below w.heap.size w w' := by
  have HX := hide hX
  clear hX
  have h6 : d.stop ≤ 9223372036854775807 := hd.2.2.2.2.2
  obtain ⟨pa, ca, pb, cb, rfl, g1, g2, g3, g4⟩ := h
  have HD : Hid (∀ W, Below w.heap.size w W → RD X W (.agg #[.slice pa d.a.l.length ca, .int .i64 d.a.s, .slice pb d.b.l.length cb, .int .i64 d.b.s, .int .i64 d.room, .int .i64 (d.stop), .bool false]) d.tick) := by
    intro W hW
    rw [Dk.tick_neg hs2]
    exact ⟨pa, ca, pb, cb, by rw [← h1], g1.below hW, g2, g3.below hW, g4⟩
  have HT := hide (Dk.tick_get d 1)
  generalize hget : d.get 1 = s at *
  clear hget
  have HA : Hid (s.act 2 m = ⟨s.l, s.l.length⟩) := by unfold Hid Sl.act; rw [if_neg (by decide), if_neg (by decide), if_pos rfl]
  generalize hset : s.act 2 m = s' at *
  clear hset
  generalize d.tick = t at *
  obtain ⟨ds, HDS⟩ : ∃ ds, Hid (t.set 1 s' = ds) := ⟨_, rfl⟩
  rw [HDS.out]
  have HB := hide hB
  clear g1 g3 hB hd
  go_enter Try.func15, Try.ntmps15
  go_wp2_with fail
  have b1 := BX.alloc (BX.new w w.heap.size rfl #[.slice pa d.a.l.length ca, .int .i64 d.a.s, .slice pb d.b.l.length cb, .int .i64 d.b.s, .int .i64 d.room, .int .i64 (d.stop), .bool false] 33) (.cells #[.slice none 0 0, .int .i64 0, .slice none 0 0, .int .i64 0, .int .i64 0, .int .i64 0, .bool false] 33)
  have b2 := BX.new (w.alloc (.cells #[.slice pa d.a.l.length ca, .int .i64 d.a.s, .slice pb d.b.l.length cb, .int .i64 d.b.s, .int .i64 d.room, .int .i64 (d.stop), .bool false] 33)) (w.heap.size + 1) (by simp) #[.slice none 0 0, .int .i64 0, .slice none 0 0, .int .i64 0, .int .i64 0, .int .i64 0, .bool false] 33
  have B0 := hide (bel2 w (.cells #[.slice pa d.a.l.length ca, .int .i64 d.a.s, .slice pb d.b.l.length cb, .int .i64 d.b.s, .int .i64 d.room, .int .i64 (d.stop), .bool false] 33) (.cells #[.slice none 0 0, .int .i64 0, .slice none 0 0, .int .i64 0, .int .i64 0, .int .i64 0, .bool false] 33))
  refine (getR_any _ t _ _ (HD.out _ B0.out)).mono ?_
  rintro e w1 ⟨x, rfl, hx, hb⟩
  rw [HT.out] at hx
  replace b1 := b1.below hb
  replace b2 := b2.below hb
  replace B0 := hide (bel_next B0.out hb)
  obtain ⟨q, cq, rfl, hq, hcq⟩ := hx
  clear hb
  have hz := b2.size
  have B1 := hide b1
  have B2 := hide b2
  have Q := hide hq
  have ba := b1.alloc (.cells #[.slice q s.l.length cq, .int .i64 (s.l.length : Int)] 31)
  have c0 := ba.cell 0 _ rfl
  have c1 := ba.cell 1 _ rfl
  have c2 := ba.cell 2 _ rfl
  have c3 := ba.cell 3 _ rfl
  have c4 := ba.cell 4 _ rfl
  have c5 := ba.cell 5 _ rfl
  have c6 := ba.cell 6 _ rfl
  clear b1 b2 hq ba
  go_wp2_with fail
  have B3 := hide (bel1 w1 (.cells #[.slice q s.l.length cq, .int .i64 (s.l.length : Int)] 31))
  replace B2 := hide (B2.out.below B3.out)
  replace B0 := hide (bel_next B0.out B3.out)
  refine (setR_any _ t _ _ s' _ (HD.out _ B0.out) (by rw [HA.out]; exact ⟨q, cq, rfl, Q.out.below B3.out, hcq⟩)).mono ?_
  rintro e w5 ⟨y, rfl, hy, hb⟩
  rw [HDS.out] at hy
  replace B2 := hide (B2.out.below hb)
  replace B0 := hide (bel_next B0.out hb)
  have HY := hide hy
  obtain ⟨pa', ca', pb', cb', rfl, k1, k2, k3, k4⟩ := hy
  have d0 := B2.out.cell 0 _ rfl
  have d1 := B2.out.cell 1 _ rfl
  have d2 := B2.out.cell 2 _ rfl
  have d3 := B2.out.cell 3 _ rfl
  have d4 := B2.out.cell 4 _ rfl
  have d5 := B2.out.cell 5 _ rfl
  have d6 := B2.out.cell 6 _ rfl
  have hf := fun j => B2.out.free j
  have hz2 := B2.out.size
  clear c0 c1 c2 c3 c4 c5 c6 hb k1 k2 k3 k4 hz
  go_wp2
  obtain ⟨r1, r2, r3, _⟩ := B2.out.put7 (.slice pa' ds.a.l.length ca') (.int .i64 ds.a.s) (.slice pb' ds.b.l.length cb') (.int .i64 ds.b.s) (.int .i64 ds.room) (.int .i64 ds.stop) (.bool ds.dead)
  exact bodyPost_ret (results_cell_tmp rfl _ _ _ _ _ _ _ _ rfl rfl r1 Try.underlying33 rfl Try.infoRD) rfl ⟨_, rfl, HY.out.kp r2 B2.out (NoB.disk _ _ _ _ _ _ _ _ _ _ _), r3 _ _ B0.out (by omega)⟩
set_option maxHeartbeats 1000000 in
theorem actR_n0p (v : Value) (d : Dk) (o : Int) (n0 : ¬ o = 0) (n1 : ¬ o = 1) (n2 : ¬ o = 2) (p : Option Addr) (n c : Nat) (m : List Int) (w : World) (h : RD X w v d) (hd : d.ok) (hB : BS w p n m) (hC : CP p n c) (hX : ∀ b, X b → b < w.heap.size) (h1 : d.dead = false) (hs : ¬ d.stop = 0) (hs2 : d.stop > 0) :
    Calls Try.prog 15 #[v, .int .i64 o, .int .i64 0, .slice p n c] w fun e w' => ∃ y, e = .returned (.tuple #[y, .int .i64 0]) ∧ RD X w' y (d.tick.set 0 ((d.get 0).act o m)) ∧ Below w.heap.size w w' := by
  have HX := hide hX
  clear hX
  have h6 : d.stop ≤ 9223372036854775807 := hd.2.2.2.2.2
  obtain ⟨pa, ca, pb, cb, rfl, g1, g2, g3, g4⟩ := h
  have HD : Hid (∀ W, Below w.heap.size w W → RD X W (.agg #[.slice pa d.a.l.length ca, .int .i64 d.a.s, .slice pb d.b.l.length cb, .int .i64 d.b.s, .int .i64 d.room, .int .i64 (d.stop - 1), .bool false]) d.tick) := by
    intro W hW
    rw [Dk.tick_pos hs2]
    exact ⟨pa, ca, pb, cb, by rw [← h1], g1.below hW, g2, g3.below hW, g4⟩
  have HT := hide (Dk.tick_get d 0)
  generalize hget : d.get 0 = s at *
  clear hget
  have HA : Hid (s.act o m = s) := by unfold Hid Sl.act; rw [if_neg n0, if_neg n1, if_neg n2]
  generalize hset : s.act o m = s' at *
  clear hset
  generalize d.tick = t at *
  obtain ⟨ds, HDS⟩ : ∃ ds, Hid (t.set 0 s' = ds) := ⟨_, rfl⟩
  rw [HDS.out]
  have HB := hide hB
  clear g1 g3 hB hd
  go_enter Try.func15, Try.ntmps15
  go_wp2_with fail
  have b1 := BX.alloc (BX.new w w.heap.size rfl #[.slice pa d.a.l.length ca, .int .i64 d.a.s, .slice pb d.b.l.length cb, .int .i64 d.b.s, .int .i64 d.room, .int .i64 (d.stop - 1), .bool false] 33) (.cells #[.slice none 0 0, .int .i64 0, .slice none 0 0, .int .i64 0, .int .i64 0, .int .i64 0, .bool false] 33)
  have b2 := BX.new (w.alloc (.cells #[.slice pa d.a.l.length ca, .int .i64 d.a.s, .slice pb d.b.l.length cb, .int .i64 d.b.s, .int .i64 d.room, .int .i64 (d.stop - 1), .bool false] 33)) (w.heap.size + 1) (by simp) #[.slice none 0 0, .int .i64 0, .slice none 0 0, .int .i64 0, .int .i64 0, .int .i64 0, .bool false] 33
  have B0 := hide (bel2 w (.cells #[.slice pa d.a.l.length ca, .int .i64 d.a.s, .slice pb d.b.l.length cb, .int .i64 d.b.s, .int .i64 d.room, .int .i64 (d.stop - 1), .bool false] 33) (.cells #[.slice none 0 0, .int .i64 0, .slice none 0 0, .int .i64 0, .int .i64 0, .int .i64 0, .bool false] 33))
  refine (getR_any _ t _ _ (HD.out _ B0.out)).mono ?_
  rintro e w1 ⟨x, rfl, hx, hb⟩
  rw [HT.out] at hx
  replace b1 := b1.below hb
  replace b2 := b2.below hb
  replace B0 := hide (bel_next B0.out hb)
  obtain ⟨q, cq, rfl, hq, hcq⟩ := hx
  clear hb
  have hz := b2.size
  have B1 := hide b1
  have B2 := hide b2
  have Q := hide hq
  have ba := b1.alloc (.cells #[.slice q s.l.length cq, .int .i64 s.s] 31)
  have c0 := ba.cell 0 _ rfl
  have c1 := ba.cell 1 _ rfl
  have c2 := ba.cell 2 _ rfl
  have c3 := ba.cell 3 _ rfl
  have c4 := ba.cell 4 _ rfl
  have c5 := ba.cell 5 _ rfl
  have c6 := ba.cell 6 _ rfl
  clear b1 b2 hq ba
  go_wp2_with fail
  have B3 := hide (bel1 w1 (.cells #[.slice q s.l.length cq, .int .i64 s.s] 31))
  replace B2 := hide (B2.out.below B3.out)
  replace B0 := hide (bel_next B0.out B3.out)
  refine (setR_any _ t _ _ s' _ (HD.out _ B0.out) (by rw [HA.out]; exact ⟨q, cq, rfl, Q.out.below B3.out, hcq⟩)).mono ?_
  rintro e w5 ⟨y, rfl, hy, hb⟩
  rw [HDS.out] at hy
  replace B2 := hide (B2.out.below hb)
  replace B0 := hide (bel_next B0.out hb)
  have HY := hide hy
  obtain ⟨pa', ca', pb', cb', rfl, k1, k2, k3, k4⟩ := hy
  have d0 := B2.out.cell 0 _ rfl
  have d1 := B2.out.cell 1 _ rfl
  have d2 := B2.out.cell 2 _ rfl
  have d3 := B2.out.cell 3 _ rfl
  have d4 := B2.out.cell 4 _ rfl
  have d5 := B2.out.cell 5 _ rfl
  have d6 := B2.out.cell 6 _ rfl
  have hf := fun j => B2.out.free j
  have hz2 := B2.out.size
  clear c0 c1 c2 c3 c4 c5 c6 hb k1 k2 k3 k4 hz
  go_wp2
  obtain ⟨r1, r2, r3, _⟩ := B2.out.put7 (.slice pa' ds.a.l.length ca') (.int .i64 ds.a.s) (.slice pb' ds.b.l.length cb') (.int .i64 ds.b.s) (.int .i64 ds.room) (.int .i64 ds.stop) (.bool ds.dead)
  exact bodyPost_ret (results_cell_tmp rfl _ _ _ _ _ _ _ _ rfl rfl r1 Try.underlying33 rfl Try.infoRD) rfl ⟨_, rfl, HY.out.kp r2 B2.out (NoB.disk _ _ _ _ _ _ _ _ _ _ _), r3 _ _ B0.out (by omega)⟩
set_option maxHeartbeats 1000000 in
theorem actR_n0m (v : Value) (d : Dk) (o : Int) (n0 : ¬ o = 0) (n1 : ¬ o = 1) (n2 : ¬ o = 2) (p : Option Addr) (n c : Nat) (m : List Int) (w : World) (h : RD X w v d) (hd : d.ok) (hB : BS w p n m) (hC : CP p n c) (hX : ∀ b, X b → b < w.heap.size) (h1 : d.dead = false) (hs : ¬ d.stop = 0) (hs2 : ¬ d.stop > 0) :
    Calls Try.prog 15 #[v, .int .i64 o, .int .i64 0, .slice p n c] w fun e w' => ∃ y, e = .returned (.tuple #[y, .int .i64 0]) ∧ RD X w' y (d.tick.set 0 ((d.get 0).act o m)) ∧ Below w.heap.size w w' := by
  have HX := hide hX
  clear hX
  have h6 : d.stop ≤ 9223372036854775807 := hd.2.2.2.2.2
  obtain ⟨pa, ca, pb, cb, rfl, g1, g2, g3, g4⟩ := h
  have HD : Hid (∀ W, Below w.heap.size w W → RD X W (.agg #[.slice pa d.a.l.length ca, .int .i64 d.a.s, .slice pb d.b.l.length cb, .int .i64 d.b.s, .int .i64 d.room, .int .i64 (d.stop), .bool false]) d.tick) := by
    intro W hW
    rw [Dk.tick_neg hs2]
    exact ⟨pa, ca, pb, cb, by rw [← h1], g1.below hW, g2, g3.below hW, g4⟩
  have HT := hide (Dk.tick_get d 0)
  generalize hget : d.get 0 = s at *
  clear hget
  have HA : Hid (s.act o m = s) := by unfold Hid Sl.act; rw [if_neg n0, if_neg n1, if_neg n2]
  generalize hset : s.act o m = s' at *
  clear hset
  generalize d.tick = t at *
  obtain ⟨ds, HDS⟩ : ∃ ds, Hid (t.set 0 s' = ds) := ⟨_, rfl⟩
  rw [HDS.out]
  have HB := hide hB
  clear g1 g3 hB hd
  go_enter Try.func15, Try.ntmps15
  go_wp2_with fail
  have b1 := BX.alloc (BX.new w w.heap.size rfl #[.slice pa d.a.l.length ca, .int .i64 d.a.s, .slice pb d.b.l.length cb, .int .i64 d.b.s, .int .i64 d.room, .int .i64 (d.stop), .bool false] 33) (.cells #[.slice none 0 0, .int .i64 0, .slice none 0 0, .int .i64 0, .int .i64 0, .int .i64 0, .bool false] 33)
  have b2 := BX.new (w.alloc (.cells #[.slice pa d.a.l.length ca, .int .i64 d.a.s, .slice pb d.b.l.length cb, .int .i64 d.b.s, .int .i64 d.room, .int .i64 (d.stop), .bool false] 33)) (w.heap.size + 1) (by simp) #[.slice none 0 0, .int .i64 0, .slice none 0 0, .int .i64 0, .int .i64 0, .int .i64 0, .bool false] 33
  have B0 := hide (bel2 w (.cells #[.slice pa d.a.l.length ca, .int .i64 d.a.s, .slice pb d.b.l.length cb, .int .i64 d.b.s, .int .i64 d.room, .int .i64 (d.stop), .bool false] 33) (.cells #[.slice none 0 0, .int .i64 0, .slice none 0 0, .int .i64 0, .int .i64 0, .int .i64 0, .bool false] 33))
  refine (getR_any _ t _ _ (HD.out _ B0.out)).mono ?_
  rintro e w1 ⟨x, rfl, hx, hb⟩
  rw [HT.out] at hx
  replace b1 := b1.below hb
  replace b2 := b2.below hb
  replace B0 := hide (bel_next B0.out hb)
  obtain ⟨q, cq, rfl, hq, hcq⟩ := hx
  clear hb
  have hz := b2.size
  have B1 := hide b1
  have B2 := hide b2
  have Q := hide hq
  have ba := b1.alloc (.cells #[.slice q s.l.length cq, .int .i64 s.s] 31)
  have c0 := ba.cell 0 _ rfl
  have c1 := ba.cell 1 _ rfl
  have c2 := ba.cell 2 _ rfl
  have c3 := ba.cell 3 _ rfl
  have c4 := ba.cell 4 _ rfl
  have c5 := ba.cell 5 _ rfl
  have c6 := ba.cell 6 _ rfl
  clear b1 b2 hq ba
  go_wp2_with fail
  have B3 := hide (bel1 w1 (.cells #[.slice q s.l.length cq, .int .i64 s.s] 31))
  replace B2 := hide (B2.out.below B3.out)
  replace B0 := hide (bel_next B0.out B3.out)
  refine (setR_any _ t _ _ s' _ (HD.out _ B0.out) (by rw [HA.out]; exact ⟨q, cq, rfl, Q.out.below B3.out, hcq⟩)).mono ?_
  rintro e w5 ⟨y, rfl, hy, hb⟩
  rw [HDS.out] at hy
  replace B2 := hide (B2.out.below hb)
  replace B0 := hide (bel_next B0.out hb)
  have HY := hide hy
  obtain ⟨pa', ca', pb', cb', rfl, k1, k2, k3, k4⟩ := hy
  have d0 := B2.out.cell 0 _ rfl
  have d1 := B2.out.cell 1 _ rfl
  have d2 := B2.out.cell 2 _ rfl
  have d3 := B2.out.cell 3 _ rfl
  have d4 := B2.out.cell 4 _ rfl
  have d5 := B2.out.cell 5 _ rfl
  have d6 := B2.out.cell 6 _ rfl
  have hf := fun j => B2.out.free j
  have hz2 := B2.out.size
  clear c0 c1 c2 c3 c4 c5 c6 hb k1 k2 k3 k4 hz
  go_wp2
  obtain ⟨r1, r2, r3, _⟩ := B2.out.put7 (.slice pa' ds.a.l.length ca') (.int .i64 ds.a.s) (.slice pb' ds.b.l.length cb') (.int .i64 ds.b.s) (.int .i64 ds.room) (.int .i64 ds.stop) (.bool ds.dead)
  exact bodyPost_ret (results_cell_tmp rfl _ _ _ _ _ _ _ _ rfl rfl r1 Try.underlying33 rfl Try.infoRD) rfl ⟨_, rfl, HY.out.kp r2 B2.out (NoB.disk _ _ _ _ _ _ _ _ _ _ _), r3 _ _ B0.out (by omega)⟩
set_option maxHeartbeats 1000000 in
theorem actR_n1p (v : Value) (d : Dk) (o : Int) (n0 : ¬ o = 0) (n1 : ¬ o = 1) (n2 : ¬ o = 2) (p : Option Addr) (n c : Nat) (m : List Int) (w : World) (h : RD X w v d) (hd : d.ok) (hB : BS w p n m) (hC : CP p n c) (hX : ∀ b, X b → b < w.heap.size) (h1 : d.dead = false) (hs : ¬ d.stop = 0) (hs2 : d.stop > 0) :
    Calls Try.prog 15 #[v, .int .i64 o, .int .i64 1, .slice p n c] w fun e w' => ∃ y, e = .returned (.tuple #[y, .int .i64 0]) ∧ RD X w' y (d.tick.set 1 ((d.get 1).act o m)) ∧ Below w.heap.size w w' := by
  have HX := hide hX
  clear hX
  have h6 : d.stop ≤ 9223372036854775807 := hd.2.2.2.2.2
  obtain ⟨pa, ca, pb, cb, rfl, g1, g2, g3, g4⟩ := h
  have HD : Hid (∀ W, Below w.heap.size w W → RD X W (.agg #[.slice pa d.a.l.length ca, .int .i64 d.a.s, .slice pb d.b.l.length cb, .int .i64 d.b.s, .int .i64 d.room, .int .i64 (d.stop - 1), .bool false]) d.tick) := by
    intro W hW
    rw [Dk.tick_pos hs2]
    exact ⟨pa, ca, pb, cb, by rw [← h1], g1.below hW, g2, g3.below hW, g4⟩
  have HT := hide (Dk.tick_get d 1)
  generalize hget : d.get 1 = s at *
  clear hget
  have HA : Hid (s.act o m = s) := by unfold Hid Sl.act; rw [if_neg n0, if_neg n1, if_neg n2]
  generalize hset : s.act o m = s' at *
  clear hset
  generalize d.tick = t at *
  obtain ⟨ds, HDS⟩ : ∃ ds, Hid (t.set 1 s' = ds) := ⟨_, rfl⟩
  rw [HDS.out]
  have HB := hide hB
  clear g1 g3 hB hd
  go_enter Try.func15, Try.ntmps15
  go_wp2_with fail
  have b1 := BX.alloc (BX.new w w.heap.size rfl #[.slice pa d.a.l.length ca, .int .i64 d.a.s, .slice pb d.b.l.length cb, .int .i64 d.b.s, .int .i64 d.room, .int .i64 (d.stop - 1), .bool false] 33) (.cells #[.slice none 0 0, .int .i64 0, .slice none 0 0, .int .i64 0, .int .i64 0, .int .i64 0, .bool false] 33)
  have b2 := BX.new (w.alloc (.cells #[.slice pa d.a.l.length ca, .int .i64 d.a.s, .slice pb d.b.l.length cb, .int .i64 d.b.s, .int .i64 d.room, .int .i64 (d.stop - 1), .bool false] 33)) (w.heap.size + 1) (by simp) #[.slice none 0 0, .int .i64 0, .slice none 0 0, .int .i64 0, .int .i64 0, .int .i64 0, .bool false] 33
  have B0 := hide (bel2 w (.cells #[.slice pa d.a.l.length ca, .int .i64 d.a.s, .slice pb d.b.l.length cb, .int .i64 d.b.s, .int .i64 d.room, .int .i64 (d.stop - 1), .bool false] 33) (.cells #[.slice none 0 0, .int .i64 0, .slice none 0 0, .int .i64 0, .int .i64 0, .int .i64 0, .bool false] 33))
  refine (getR_any _ t _ _ (HD.out _ B0.out)).mono ?_
  rintro e w1 ⟨x, rfl, hx, hb⟩
  rw [HT.out] at hx
  replace b1 := b1.below hb
  replace b2 := b2.below hb
  replace B0 := hide (bel_next B0.out hb)
  obtain ⟨q, cq, rfl, hq, hcq⟩ := hx
  clear hb
  have hz := b2.size
  have B1 := hide b1
  have B2 := hide b2
  have Q := hide hq
  have ba := b1.alloc (.cells #[.slice q s.l.length cq, .int .i64 s.s] 31)
  have c0 := ba.cell 0 _ rfl
  have c1 := ba.cell 1 _ rfl
  have c2 := ba.cell 2 _ rfl
  have c3 := ba.cell 3 _ rfl
  have c4 := ba.cell 4 _ rfl
  have c5 := ba.cell 5 _ rfl
  have c6 := ba.cell 6 _ rfl
  clear b1 b2 hq ba
  go_wp2_with fail
  have B3 := hide (bel1 w1 (.cells #[.slice q s.l.length cq, .int .i64 s.s] 31))
  replace B2 := hide (B2.out.below B3.out)
  replace B0 := hide (bel_next B0.out B3.out)
  refine (setR_any _ t _ _ s' _ (HD.out _ B0.out) (by rw [HA.out]; exact ⟨q, cq, rfl, Q.out.below B3.out, hcq⟩)).mono ?_
  rintro e w5 ⟨y, rfl, hy, hb⟩
  rw [HDS.out] at hy
  replace B2 := hide (B2.out.below hb)
  replace B0 := hide (bel_next B0.out hb)
  have HY := hide hy
  obtain ⟨pa', ca', pb', cb', rfl, k1, k2, k3, k4⟩ := hy
  have d0 := B2.out.cell 0 _ rfl
  have d1 := B2.out.cell 1 _ rfl
  have d2 := B2.out.cell 2 _ rfl
  have d3 := B2.out.cell 3 _ rfl
  have d4 := B2.out.cell 4 _ rfl
  have d5 := B2.out.cell 5 _ rfl
  have d6 := B2.out.cell 6 _ rfl
  have hf := fun j => B2.out.free j
  have hz2 := B2.out.size
  clear c0 c1 c2 c3 c4 c5 c6 hb k1 k2 k3 k4 hz
  go_wp2
  obtain ⟨r1, r2, r3, _⟩ := B2.out.put7 (.slice pa' ds.a.l.length ca') (.int .i64 ds.a.s) (.slice pb' ds.b.l.length cb') (.int .i64 ds.b.s) (.int .i64 ds.room) (.int .i64 ds.stop) (.bool ds.dead)
  exact bodyPost_ret (results_cell_tmp rfl _ _ _ _ _ _ _ _ rfl rfl r1 Try.underlying33 rfl Try.infoRD) rfl ⟨_, rfl, HY.out.kp r2 B2.out (NoB.disk _ _ _ _ _ _ _ _ _ _ _), r3 _ _ B0.out (by omega)⟩
set_option maxHeartbeats 1000000 in
theorem actR_n1m (v : Value) (d : Dk) (o : Int) (n0 : ¬ o = 0) (n1 : ¬ o = 1) (n2 : ¬ o = 2) (p : Option Addr) (n c : Nat) (m : List Int) (w : World) (h : RD X w v d) (hd : d.ok) (hB : BS w p n m) (hC : CP p n c) (hX : ∀ b, X b → b < w.heap.size) (h1 : d.dead = false) (hs : ¬ d.stop = 0) (hs2 : ¬ d.stop > 0) :
    Calls Try.prog 15 #[v, .int .i64 o, .int .i64 1, .slice p n c] w fun e w' => ∃ y, e = .returned (.tuple #[y, .int .i64 0]) ∧ RD X w' y (d.tick.set 1 ((d.get 1).act o m)) ∧ Below w.heap.size w w' := by
  have HX := hide hX
  clear hX
  have h6 : d.stop ≤ 9223372036854775807 := hd.2.2.2.2.2
  obtain ⟨pa, ca, pb, cb, rfl, g1, g2, g3, g4⟩ := h
  have HD : Hid (∀ W, Below w.heap.size w W → RD X W (.agg #[.slice pa d.a.l.length ca, .int .i64 d.a.s, .slice pb d.b.l.length cb, .int .i64 d.b.s, .int .i64 d.room, .int .i64 (d.stop), .bool false]) d.tick) := by
    intro W hW
    rw [Dk.tick_neg hs2]
    exact ⟨pa, ca, pb, cb, by rw [← h1], g1.below hW, g2, g3.below hW, g4⟩
  have HT := hide (Dk.tick_get d 1)
  generalize hget : d.get 1 = s at *
  clear hget
  have HA : Hid (s.act o m = s) := by unfold Hid Sl.act; rw [if_neg n0, if_neg n1, if_neg n2]
  generalize hset : s.act o m = s' at *
  clear hset
  generalize d.tick = t at *
  obtain ⟨ds, HDS⟩ : ∃ ds, Hid (t.set 1 s' = ds) := ⟨_, rfl⟩
  rw [HDS.out]
  have HB := hide hB
  clear g1 g3 hB hd
  go_enter Try.func15, Try.ntmps15
  go_wp2_with fail
  have b1 := BX.alloc (BX.new w w.heap.size rfl #[.slice pa d.a.l.length ca, .int .i64 d.a.s, .slice pb d.b.l.length cb, .int .i64 d.b.s, .int .i64 d.room, .int .i64 (d.stop), .bool false] 33) (.cells #[.slice none 0 0, .int .i64 0, .slice none 0 0, .int .i64 0, .int .i64 0, .int .i64 0, .bool false] 33)
  have b2 := BX.new (w.alloc (.cells #[.slice pa d.a.l.length ca, .int .i64 d.a.s, .slice pb d.b.l.length cb, .int .i64 d.b.s, .int .i64 d.room, .int .i64 (d.stop), .bool false] 33)) (w.heap.size + 1) (by simp) #[.slice none 0 0, .int .i64 0, .slice none 0 0, .int .i64 0, .int .i64 0, .int .i64 0, .bool false] 33
  have B0 := hide (bel2 w (.cells #[.slice pa d.a.l.length ca, .int .i64 d.a.s, .slice pb d.b.l.length cb, .int .i64 d.b.s, .int .i64 d.room, .int .i64 (d.stop), .bool false] 33) (.cells #[.slice none 0 0, .int .i64 0, .slice none 0 0, .int .i64 0, .int .i64 0, .int .i64 0, .bool false] 33))
  refine (getR_any _ t _ _ (HD.out _ B0.out)).mono ?_
  rintro e w1 ⟨x, rfl, hx, hb⟩
  rw [HT.out] at hx
  replace b1 := b1.below hb
  replace b2 := b2.below hb
  replace B0 := hide (bel_next B0.out hb)
  obtain ⟨q, cq, rfl, hq, hcq⟩ := hx
  clear hb
  have hz := b2.size
  have B1 := hide b1
  have B2 := hide b2
  have Q := hide hq
  have ba := b1.alloc (.cells #[.slice q s.l.length cq, .int .i64 s.s] 31)
  have c0 := ba.cell 0 _ rfl
  have c1 := ba.cell 1 _ rfl
  have c2 := ba.cell 2 _ rfl
  have c3 := ba.cell 3 _ rfl
  have c4 := ba.cell 4 _ rfl
  have c5 := ba.cell 5 _ rfl
  have c6 := ba.cell 6 _ rfl
  clear b1 b2 hq ba
  go_wp2_with fail
  have B3 := hide (bel1 w1 (.cells #[.slice q s.l.length cq, .int .i64 s.s] 31))
  replace B2 := hide (B2.out.below B3.out)
  replace B0 := hide (bel_next B0.out B3.out)
  refine (setR_any _ t _ _ s' _ (HD.out _ B0.out) (by rw [HA.out]; exact ⟨q, cq, rfl, Q.out.below B3.out, hcq⟩)).mono ?_
  rintro e w5 ⟨y, rfl, hy, hb⟩
  rw [HDS.out] at hy
  replace B2 := hide (B2.out.below hb)
  replace B0 := hide (bel_next B0.out hb)
  have HY := hide hy
  obtain ⟨pa', ca', pb', cb', rfl, k1, k2, k3, k4⟩ := hy
  have d0 := B2.out.cell 0 _ rfl
  have d1 := B2.out.cell 1 _ rfl
  have d2 := B2.out.cell 2 _ rfl
  have d3 := B2.out.cell 3 _ rfl
  have d4 := B2.out.cell 4 _ rfl
  have d5 := B2.out.cell 5 _ rfl
  have d6 := B2.out.cell 6 _ rfl
  have hf := fun j => B2.out.free j
  have hz2 := B2.out.size
  clear c0 c1 c2 c3 c4 c5 c6 hb k1 k2 k3 k4 hz
  go_wp2
  obtain ⟨r1, r2, r3, _⟩ := B2.out.put7 (.slice pa' ds.a.l.length ca') (.int .i64 ds.a.s) (.slice pb' ds.b.l.length cb') (.int .i64 ds.b.s) (.int .i64 ds.room) (.int .i64 ds.stop) (.bool ds.dead)
  exact bodyPost_ret (results_cell_tmp rfl _ _ _ _ _ _ _ _ rfl rfl r1 Try.underlying33 rfl Try.infoRD) rfl ⟨_, rfl, HY.out.kp r2 B2.out (NoB.disk _ _ _ _ _ _ _ _ _ _ _), r3 _ _ B0.out (by omega)⟩
set_option maxHeartbeats 1000000 in
theorem actR_dead (v : Value) (d : Dk) (o i : Int) (p : Option Addr) (n c : Nat) (m : List Int) (w : World) (h : RD X w v d) (hd : d.ok) (hB : BS w p n m) (hC : CP p n c) (hX : ∀ b, X b → b < w.heap.size) (h1 : d.dead = true) :
    Calls Try.prog 15 #[v, .int .i64 o, .int .i64 i, .slice p n c] w fun e w' => ∃ y, e = .returned (.tuple #[y, .int .i64 9]) ∧ RD X w' y d ∧ Below w.heap.size w w' := by
  clear hX
  obtain ⟨pa, ca, pb, cb, rfl, g1, g2, g3, g4⟩ := h
  have G1 := hide g1
  have G3 := hide g3
  have HB := hide hB
  have HV : Hid (.agg #[.slice pa d.a.l.length ca, .int .i64 d.a.s, .slice pb d.b.l.length cb, .int .i64 d.b.s, .int .i64 d.room, .int .i64 d.stop, .bool true] = (.agg #[.slice pa d.a.l.length ca, .int .i64 d.a.s, .slice pb d.b.l.length cb, .int .i64 d.b.s, .int .i64 d.room, .int .i64 d.stop, .bool true] : Value)) := by unfold Hid; simp [*]
  clear g1 g3 hB hd
  go_enter Try.func15, Try.ntmps15
  go_wp2
  refine bodyPost_ret (v := .tuple #[.agg #[.slice pa d.a.l.length ca, .int .i64 d.a.s, .slice pb d.b.l.length cb, .int .i64 d.b.s, .int .i64 d.room, .int .i64 d.stop, .bool true], .int .i64 9]) (by simp [results, Try.results15, go_sem]) rfl ⟨_, rfl, ?_, (Below.refl _ _).alloc (Nat.le_refl _) _ |>.alloc (by simp) _⟩
  exact ⟨pa, ca, pb, cb, by simp [*], (G1.out.alloc _).alloc _, g2, (G3.out.alloc _).alloc _, g4⟩
set_option maxHeartbeats 1000000 in
theorem actR_slot (v : Value) (d : Dk) (o i : Int) (p : Option Addr) (n c : Nat) (m : List Int) (w : World) (h : RD X w v d) (hd : d.ok) (hB : BS w p n m) (hC : CP p n c) (hX : ∀ b, X b → b < w.heap.size) (h1 : d.dead = false) (i0 : ¬ i = 0) (i1 : ¬ i = 1) :
    Calls Try.prog 15 #[v, .int .i64 o, .int .i64 i, .slice p n c] w fun e w' => ∃ y, e = .returned (.tuple #[y, .int .i64 1]) ∧ RD X w' y d ∧ Below w.heap.size w w' := by
  clear hX
  obtain ⟨pa, ca, pb, cb, rfl, g1, g2, g3, g4⟩ := h
  have G1 := hide g1
  have G3 := hide g3
  have HB := hide hB
  have HV : Hid (.agg #[.slice pa d.a.l.length ca, .int .i64 d.a.s, .slice pb d.b.l.length cb, .int .i64 d.b.s, .int .i64 d.room, .int .i64 d.stop, .bool false] = (.agg #[.slice pa d.a.l.length ca, .int .i64 d.a.s, .slice pb d.b.l.length cb, .int .i64 d.b.s, .int .i64 d.room, .int .i64 d.stop, .bool false] : Value)) := by unfold Hid; simp [*]
  clear g1 g3 hB hd
  have b0 : (i != 0) = true := by simpa using i0
  have b1 : (i != 1) = true := by simpa using i1
  go_enter Try.func15, Try.ntmps15
  go_wp2
  refine bodyPost_ret (v := .tuple #[.agg #[.slice pa d.a.l.length ca, .int .i64 d.a.s, .slice pb d.b.l.length cb, .int .i64 d.b.s, .int .i64 d.room, .int .i64 d.stop, .bool false], .int .i64 1]) (by simp [results, Try.results15, go_sem]) rfl ⟨_, rfl, ?_, (Below.refl _ _).alloc (Nat.le_refl _) _ |>.alloc (by simp) _⟩
  exact ⟨pa, ca, pb, cb, by simp [*], (G1.out.alloc _).alloc _, g2, (G3.out.alloc _).alloc _, g4⟩
set_option maxHeartbeats 1000000 in
theorem actR_full0 (v : Value) (d : Dk) (p : Option Addr) (n c : Nat) (m : List Int) (w : World) (h : RD X w v d) (hd : d.ok) (hB : BS w p n m) (hC : CP p n c) (hX : ∀ b, X b → b < w.heap.size) (h1 : d.dead = false) (hlf : (n : Int) > d.left) :
    Calls Try.prog 15 #[v, .int .i64 0, .int .i64 0, .slice p n c] w fun e w' => ∃ y, e = .returned (.tuple #[y, .int .i64 6]) ∧ RD X w' y d ∧ Below w.heap.size w w' := by
  have HL := hide (leftR_any (X := X) v d)
  have HR := hide h
  have HO := hide hd
  have hnm := hide hB.1
  clear hX
  obtain ⟨pa, ca, pb, cb, rfl, g1, g2, g3, g4⟩ := h
  have HD : Hid (∀ W, Below w.heap.size w W → RD X W (.agg #[.slice pa d.a.l.length ca, .int .i64 d.a.s, .slice pb d.b.l.length cb, .int .i64 d.b.s, .int .i64 d.room, .int .i64 d.stop, .bool false]) d) := by
    intro W hW
    exact ⟨pa, ca, pb, cb, by simp [*], g1.below hW, g2, g3.below hW, g4⟩
  rw [h1] at HL HR
  have HB := hide hB
  clear g1 g3 hB hd
  go_enter Try.func15, Try.ntmps15
  go_wp2_with fail
  refine (HL.out _ (HR.out.below (bel2 w (.cells #[.slice pa d.a.l.length ca, .int .i64 d.a.s, .slice pb d.b.l.length cb, .int .i64 d.b.s, .int .i64 d.room, .int .i64 d.stop, .bool false] 33) (.cells #[.slice none 0 0, .int .i64 0, .slice none 0 0, .int .i64 0, .int .i64 0, .int .i64 0, .bool false] 33))) HO.out).mono ?_
  rintro e w0 ⟨rfl, hb⟩
  have b1 := (BX.alloc (BX.new w w.heap.size rfl _ _) (.cells #[.slice none 0 0, .int .i64 0, .slice none 0 0, .int .i64 0, .int .i64 0, .int .i64 0, .bool false] 33) : BX ((w.alloc (.cells #[.slice pa d.a.l.length ca, .int .i64 d.a.s, .slice pb d.b.l.length cb, .int .i64 d.b.s, .int .i64 d.room, .int .i64 d.stop, .bool false] 33)).alloc (.cells #[.slice none 0 0, .int .i64 0, .slice none 0 0, .int .i64 0, .int .i64 0, .int .i64 0, .bool false] 33)) w.heap.size _ _).below hb
  have b2 := (BX.new (w.alloc (.cells #[.slice pa d.a.l.length ca, .int .i64 d.a.s, .slice pb d.b.l.length cb, .int .i64 d.b.s, .int .i64 d.room, .int .i64 d.stop, .bool false] 33)) (w.heap.size + 1) (by simp) #[.slice none 0 0, .int .i64 0, .slice none 0 0, .int .i64 0, .int .i64 0, .int .i64 0, .bool false] 33).below hb
  have B0 := hide (bel_next (bel2 w (.cells #[.slice pa d.a.l.length ca, .int .i64 d.a.s, .slice pb d.b.l.length cb, .int .i64 d.b.s, .int .i64 d.room, .int .i64 d.stop, .bool false] 33) (.cells #[.slice none 0 0, .int .i64 0, .slice none 0 0, .int .i64 0, .int .i64 0, .int .i64 0, .bool false] 33)) hb)
  clear hb
  have hz := b2.size
  have a1 := b1
  have a2 := b2
  have c0 := a1.cell 0 _ rfl
  have c1 := a1.cell 1 _ rfl
  have c2 := a1.cell 2 _ rfl
  have c3 := a1.cell 3 _ rfl
  have c4 := a1.cell 4 _ rfl
  have c5 := a1.cell 5 _ rfl
  have c6 := a1.cell 6 _ rfl
  have d0 := a2.cell 0 _ rfl
  have d1 := a2.cell 1 _ rfl
  have d2 := a2.cell 2 _ rfl
  have d3 := a2.cell 3 _ rfl
  have d4 := a2.cell 4 _ rfl
  have d5 := a2.cell 5 _ rfl
  have d6 := a2.cell 6 _ rfl
  have hf := fun j => a2.free j
  have B2 := hide a2
  clear b1 b2 a1 a2
  go_wp2
  obtain ⟨r1, r2, r3, _⟩ := B2.out.put7 (.slice pa d.a.l.length ca) (.int .i64 d.a.s) (.slice pb d.b.l.length cb) (.int .i64 d.b.s) (.int .i64 d.room) (.int .i64 d.stop) (.bool false)
  exact bodyPost_ret (results_cell_tmp rfl _ _ _ _ _ _ _ _ rfl rfl r1 Try.underlying33 rfl Try.infoRD) rfl ⟨_, rfl, (HD.out _ B0.out).kp r2 B2.out (NoB.disk _ _ _ _ _ _ _ _ _ _ _), r3 _ _ B0.out (by omega)⟩
set_option maxHeartbeats 1000000 in
theorem actR_stop0 (v : Value) (d : Dk) (p : Option Addr) (n c : Nat) (m : List Int) (w : World) (h : RD X w v d) (hd : d.ok) (hB : BS w p n m) (hC : CP p n c) (hX : ∀ b, X b → b < w.heap.size) (h1 : d.dead = false) (hlf : ¬ (n : Int) > d.left) (hst : d.stop = 0) :
    Calls Try.prog 15 #[v, .int .i64 0, .int .i64 0, .slice p n c] w fun e w' => ∃ y, e = .returned (.tuple #[y, .int .i64 9]) ∧ RD X w' y { d with dead := true } ∧ Below w.heap.size w w' := by
  have HL := hide (leftR_any (X := X) v d)
  have HR := hide h
  have HO := hide hd
  have hnm := hide hB.1
  clear hX
  obtain ⟨pa, ca, pb, cb, rfl, g1, g2, g3, g4⟩ := h
  have HD : Hid (∀ W, Below w.heap.size w W → RD X W (.agg #[.slice pa d.a.l.length ca, .int .i64 d.a.s, .slice pb d.b.l.length cb, .int .i64 d.b.s, .int .i64 d.room, .int .i64 0, .bool true]) { d with dead := true }) := by
    intro W hW
    exact ⟨pa, ca, pb, cb, by simp [*], g1.below hW, g2, g3.below hW, g4⟩
  rw [h1, hst] at HL HR
  have HB := hide hB
  clear g1 g3 hB hd
  go_enter Try.func15, Try.ntmps15
  go_wp2_with fail
  refine (HL.out _ (HR.out.below (bel2 w (.cells #[.slice pa d.a.l.length ca, .int .i64 d.a.s, .slice pb d.b.l.length cb, .int .i64 d.b.s, .int .i64 d.room, .int .i64 0, .bool false] 33) (.cells #[.slice none 0 0, .int .i64 0, .slice none 0 0, .int .i64 0, .int .i64 0, .int .i64 0, .bool false] 33))) HO.out).mono ?_
  rintro e w0 ⟨rfl, hb⟩
  have b1 := (BX.alloc (BX.new w w.heap.size rfl _ _) (.cells #[.slice none 0 0, .int .i64 0, .slice none 0 0, .int .i64 0, .int .i64 0, .int .i64 0, .bool false] 33) : BX ((w.alloc (.cells #[.slice pa d.a.l.length ca, .int .i64 d.a.s, .slice pb d.b.l.length cb, .int .i64 d.b.s, .int .i64 d.room, .int .i64 0, .bool false] 33)).alloc (.cells #[.slice none 0 0, .int .i64 0, .slice none 0 0, .int .i64 0, .int .i64 0, .int .i64 0, .bool false] 33)) w.heap.size _ _).below hb
  have b2 := (BX.new (w.alloc (.cells #[.slice pa d.a.l.length ca, .int .i64 d.a.s, .slice pb d.b.l.length cb, .int .i64 d.b.s, .int .i64 d.room, .int .i64 0, .bool false] 33)) (w.heap.size + 1) (by simp) #[.slice none 0 0, .int .i64 0, .slice none 0 0, .int .i64 0, .int .i64 0, .int .i64 0, .bool false] 33).below hb
  have B0 := hide (bel_next (bel2 w (.cells #[.slice pa d.a.l.length ca, .int .i64 d.a.s, .slice pb d.b.l.length cb, .int .i64 d.b.s, .int .i64 d.room, .int .i64 0, .bool false] 33) (.cells #[.slice none 0 0, .int .i64 0, .slice none 0 0, .int .i64 0, .int .i64 0, .int .i64 0, .bool false] 33)) hb)
  clear hb
  have hz := b2.size
  have a1 := b1.set 6 (.bool true)
  have a2 := b2.other (k := w.heap.size) (by omega) 6 (.bool true)
  have f1 := b1.free 6
  have u6 := b1.cell 6 _ rfl
  have u5 := b1.cell 5 _ rfl
  replace B0 := hide (B0.out.setCell (p := ⟨w.heap.size, 6, none⟩) (Nat.le_refl _) (.bool true))
  have c0 := a1.cell 0 _ rfl
  have c1 := a1.cell 1 _ rfl
  have c2 := a1.cell 2 _ rfl
  have c3 := a1.cell 3 _ rfl
  have c4 := a1.cell 4 _ rfl
  have c5 := a1.cell 5 _ rfl
  have c6 := a1.cell 6 _ rfl
  have d0 := a2.cell 0 _ rfl
  have d1 := a2.cell 1 _ rfl
  have d2 := a2.cell 2 _ rfl
  have d3 := a2.cell 3 _ rfl
  have d4 := a2.cell 4 _ rfl
  have d5 := a2.cell 5 _ rfl
  have d6 := a2.cell 6 _ rfl
  have hf := fun j => a2.free j
  have B2 := hide a2
  clear b1 b2 a1 a2
  go_wp2
  obtain ⟨r1, r2, r3, _⟩ := B2.out.put7 (.slice pa d.a.l.length ca) (.int .i64 d.a.s) (.slice pb d.b.l.length cb) (.int .i64 d.b.s) (.int .i64 d.room) (.int .i64 0) (.bool true)
  exact bodyPost_ret (results_cell_tmp rfl _ _ _ _ _ _ _ _ rfl rfl r1 Try.underlying33 rfl Try.infoRD) rfl ⟨_, rfl, (HD.out _ B0.out).kp r2 B2.out (NoB.disk _ _ _ _ _ _ _ _ _ _ _), r3 _ _ B0.out (by omega)⟩
set_option maxHeartbeats 1000000 in
theorem actR_stopo0 (v : Value) (d : Dk) (o i : Int) (p : Option Addr) (n c : Nat) (m : List Int) (w : World) (h : RD X w v d) (hd : d.ok) (hB : BS w p n m) (hC : CP p n c) (hX : ∀ b, X b → b < w.heap.size) (h1 : d.dead = false) (o0 : ¬ o = 0) (hst : d.stop = 0) :
    Calls Try.prog 15 #[v, .int .i64 o, .int .i64 0, .slice p n c] w fun e w' => ∃ y, e = .returned (.tuple #[y, .int .i64 9]) ∧ RD X w' y { d with dead := true } ∧ Below w.heap.size w w' := by
  clear hX
  obtain ⟨pa, ca, pb, cb, rfl, g1, g2, g3, g4⟩ := h
  have G1 := hide g1
  have G3 := hide g3
  have HB := hide hB
  have HV : Hid (.agg #[.slice pa d.a.l.length ca, .int .i64 d.a.s, .slice pb d.b.l.length cb, .int .i64 d.b.s, .int .i64 d.room, .int .i64 0, .bool true] = (.agg #[.slice pa d.a.l.length ca, .int .i64 d.a.s, .slice pb d.b.l.length cb, .int .i64 d.b.s, .int .i64 d.room, .int .i64 d.stop, .bool true] : Value)) := by unfold Hid; simp [*]
  clear g1 g3 hB hd
  have b0 : (o == 0) = false := by simpa using o0
  go_enter Try.func15, Try.ntmps15
  go_wp2
  refine bodyPost_ret (v := .tuple #[.agg #[.slice pa d.a.l.length ca, .int .i64 d.a.s, .slice pb d.b.l.length cb, .int .i64 d.b.s, .int .i64 d.room, .int .i64 0, .bool true], .int .i64 9]) (by simp [results, Try.results15, go_sem]) rfl ⟨_, rfl, ?_, (Below.refl _ _).alloc (Nat.le_refl _) _ |>.alloc (by simp) _⟩
  exact ⟨pa, ca, pb, cb, by simp [*], (G1.out.alloc _).alloc _, g2, (G3.out.alloc _).alloc _, g4⟩
set_option maxHeartbeats 1000000 in
theorem actR_full1 (v : Value) (d : Dk) (p : Option Addr) (n c : Nat) (m : List Int) (w : World) (h : RD X w v d) (hd : d.ok) (hB : BS w p n m) (hC : CP p n c) (hX : ∀ b, X b → b < w.heap.size) (h1 : d.dead = false) (hlf : (n : Int) > d.left) :
    Calls Try.prog 15 #[v, .int .i64 0, .int .i64 1, .slice p n c] w fun e w' => ∃ y, e = .returned (.tuple #[y, .int .i64 6]) ∧ RD X w' y d ∧ Below w.heap.size w w' := by
  have HL := hide (leftR_any (X := X) v d)
  have HR := hide h
  have HO := hide hd
  have hnm := hide hB.1
  clear hX
  obtain ⟨pa, ca, pb, cb, rfl, g1, g2, g3, g4⟩ := h
  have HD : Hid (∀ W, Below w.heap.size w W → RD X W (.agg #[.slice pa d.a.l.length ca, .int .i64 d.a.s, .slice pb d.b.l.length cb, .int .i64 d.b.s, .int .i64 d.room, .int .i64 d.stop, .bool false]) d) := by
    intro W hW
    exact ⟨pa, ca, pb, cb, by simp [*], g1.below hW, g2, g3.below hW, g4⟩
  rw [h1] at HL HR
  have HB := hide hB
  clear g1 g3 hB hd
  go_enter Try.func15, Try.ntmps15
  go_wp2_with fail
  refine (HL.out _ (HR.out.below (bel2 w (.cells #[.slice pa d.a.l.length ca, .int .i64 d.a.s, .slice pb d.b.l.length cb, .int .i64 d.b.s, .int .i64 d.room, .int .i64 d.stop, .bool false] 33) (.cells #[.slice none 0 0, .int .i64 0, .slice none 0 0, .int .i64 0, .int .i64 0, .int .i64 0, .bool false] 33))) HO.out).mono ?_
  rintro e w0 ⟨rfl, hb⟩
  have b1 := (BX.alloc (BX.new w w.heap.size rfl _ _) (.cells #[.slice none 0 0, .int .i64 0, .slice none 0 0, .int .i64 0, .int .i64 0, .int .i64 0, .bool false] 33) : BX ((w.alloc (.cells #[.slice pa d.a.l.length ca, .int .i64 d.a.s, .slice pb d.b.l.length cb, .int .i64 d.b.s, .int .i64 d.room, .int .i64 d.stop, .bool false] 33)).alloc (.cells #[.slice none 0 0, .int .i64 0, .slice none 0 0, .int .i64 0, .int .i64 0, .int .i64 0, .bool false] 33)) w.heap.size _ _).below hb
  have b2 := (BX.new (w.alloc (.cells #[.slice pa d.a.l.length ca, .int .i64 d.a.s, .slice pb d.b.l.length cb, .int .i64 d.b.s, .int .i64 d.room, .int .i64 d.stop, .bool false] 33)) (w.heap.size + 1) (by simp) #[.slice none 0 0, .int .i64 0, .slice none 0 0, .int .i64 0, .int .i64 0, .int .i64 0, .bool false] 33).below hb
  have B0 := hide (bel_next (bel2 w (.cells #[.slice pa d.a.l.length ca, .int .i64 d.a.s, .slice pb d.b.l.length cb, .int .i64 d.b.s, .int .i64 d.room, .int .i64 d.stop, .bool false] 33) (.cells #[.slice none 0 0, .int .i64 0, .slice none 0 0, .int .i64 0, .int .i64 0, .int .i64 0, .bool false] 33)) hb)
  clear hb
  have hz := b2.size
  have a1 := b1
  have a2 := b2
  have c0 := a1.cell 0 _ rfl
  have c1 := a1.cell 1 _ rfl
  have c2 := a1.cell 2 _ rfl
  have c3 := a1.cell 3 _ rfl
  have c4 := a1.cell 4 _ rfl
  have c5 := a1.cell 5 _ rfl
  have c6 := a1.cell 6 _ rfl
  have d0 := a2.cell 0 _ rfl
  have d1 := a2.cell 1 _ rfl
  have d2 := a2.cell 2 _ rfl
  have d3 := a2.cell 3 _ rfl
  have d4 := a2.cell 4 _ rfl
  have d5 := a2.cell 5 _ rfl
  have d6 := a2.cell 6 _ rfl
  have hf := fun j => a2.free j
  have B2 := hide a2
  clear b1 b2 a1 a2
  go_wp2
  obtain ⟨r1, r2, r3, _⟩ := B2.out.put7 (.slice pa d.a.l.length ca) (.int .i64 d.a.s) (.slice pb d.b.l.length cb) (.int .i64 d.b.s) (.int .i64 d.room) (.int .i64 d.stop) (.bool false)
  exact bodyPost_ret (results_cell_tmp rfl _ _ _ _ _ _ _ _ rfl rfl r1 Try.underlying33 rfl Try.infoRD) rfl ⟨_, rfl, (HD.out _ B0.out).kp r2 B2.out (NoB.disk _ _ _ _ _ _ _ _ _ _ _), r3 _ _ B0.out (by omega)⟩
set_option maxHeartbeats 1000000 in
theorem actR_stop1 (v : Value) (d : Dk) (p : Option Addr) (n c : Nat) (m : List Int) (w : World) (h : RD X w v d) (hd : d.ok) (hB : BS w p n m) (hC : CP p n c) (hX : ∀ b, X b → b < w.heap.size) (h1 : d.dead = false) (hlf : ¬ (n : Int) > d.left) (hst : d.stop = 0) :
    Calls Try.prog 15 #[v, .int .i64 0, .int .i64 1, .slice p n c] w fun e w' => ∃ y, e = .returned (.tuple #[y, .int .i64 9]) ∧ RD X w' y { d with dead := true } ∧ Below w.heap.size w w' := by
  have HL := hide (leftR_any (X := X) v d)
  have HR := hide h
  have HO := hide hd
  have hnm := hide hB.1
  clear hX
  obtain ⟨pa, ca, pb, cb, rfl, g1, g2, g3, g4⟩ := h
  have HD : Hid (∀ W, Below w.heap.size w W → RD X W (.agg #[.slice pa d.a.l.length ca, .int .i64 d.a.s, .slice pb d.b.l.length cb, .int .i64 d.b.s, .int .i64 d.room, .int .i64 0, .bool true]) { d with dead := true }) := by
    intro W hW
    exact ⟨pa, ca, pb, cb, by simp [*], g1.below hW, g2, g3.below hW, g4⟩
  rw [h1, hst] at HL HR
  have HB := hide hB
  clear g1 g3 hB hd
  go_enter Try.func15, Try.ntmps15
  go_wp2_with fail
  refine (HL.out _ (HR.out.below (bel2 w (.cells #[.slice pa d.a.l.length ca, .int .i64 d.a.s, .slice pb d.b.l.length cb, .int .i64 d.b.s, .int .i64 d.room, .int .i64 0, .bool false] 33) (.cells #[.slice none 0 0, .int .i64 0, .slice none 0 0, .int .i64 0, .int .i64 0, .int .i64 0, .bool false] 33))) HO.out).mono ?_
  rintro e w0 ⟨rfl, hb⟩
  have b1 := (BX.alloc (BX.new w w.heap.size rfl _ _) (.cells #[.slice none 0 0, .int .i64 0, .slice none 0 0, .int .i64 0, .int .i64 0, .int .i64 0, .bool false] 33) : BX ((w.alloc (.cells #[.slice pa d.a.l.length ca, .int .i64 d.a.s, .slice pb d.b.l.length cb, .int .i64 d.b.s, .int .i64 d.room, .int .i64 0, .bool false] 33)).alloc (.cells #[.slice none 0 0, .int .i64 0, .slice none 0 0, .int .i64 0, .int .i64 0, .int .i64 0, .bool false] 33)) w.heap.size _ _).below hb
  have b2 := (BX.new (w.alloc (.cells #[.slice pa d.a.l.length ca, .int .i64 d.a.s, .slice pb d.b.l.length cb, .int .i64 d.b.s, .int .i64 d.room, .int .i64 0, .bool false] 33)) (w.heap.size + 1) (by simp) #[.slice none 0 0, .int .i64 0, .slice none 0 0, .int .i64 0, .int .i64 0, .int .i64 0, .bool false] 33).below hb
  have B0 := hide (bel_next (bel2 w (.cells #[.slice pa d.a.l.length ca, .int .i64 d.a.s, .slice pb d.b.l.length cb, .int .i64 d.b.s, .int .i64 d.room, .int .i64 0, .bool false] 33) (.cells #[.slice none 0 0, .int .i64 0, .slice none 0 0, .int .i64 0, .int .i64 0, .int .i64 0, .bool false] 33)) hb)
  clear hb
  have hz := b2.size
  have a1 := b1.set 6 (.bool true)
  have a2 := b2.other (k := w.heap.size) (by omega) 6 (.bool true)
  have f1 := b1.free 6
  have u6 := b1.cell 6 _ rfl
  have u5 := b1.cell 5 _ rfl
  replace B0 := hide (B0.out.setCell (p := ⟨w.heap.size, 6, none⟩) (Nat.le_refl _) (.bool true))
  have c0 := a1.cell 0 _ rfl
  have c1 := a1.cell 1 _ rfl
  have c2 := a1.cell 2 _ rfl
  have c3 := a1.cell 3 _ rfl
  have c4 := a1.cell 4 _ rfl
  have c5 := a1.cell 5 _ rfl
  have c6 := a1.cell 6 _ rfl
  have d0 := a2.cell 0 _ rfl
  have d1 := a2.cell 1 _ rfl
  have d2 := a2.cell 2 _ rfl
  have d3 := a2.cell 3 _ rfl
  have d4 := a2.cell 4 _ rfl
  have d5 := a2.cell 5 _ rfl
  have d6 := a2.cell 6 _ rfl
  have hf := fun j => a2.free j
  have B2 := hide a2
  clear b1 b2 a1 a2
  go_wp2
  obtain ⟨r1, r2, r3, _⟩ := B2.out.put7 (.slice pa d.a.l.length ca) (.int .i64 d.a.s) (.slice pb d.b.l.length cb) (.int .i64 d.b.s) (.int .i64 d.room) (.int .i64 0) (.bool true)
  exact bodyPost_ret (results_cell_tmp rfl _ _ _ _ _ _ _ _ rfl rfl r1 Try.underlying33 rfl Try.infoRD) rfl ⟨_, rfl, (HD.out _ B0.out).kp r2 B2.out (NoB.disk _ _ _ _ _ _ _ _ _ _ _), r3 _ _ B0.out (by omega)⟩
set_option maxHeartbeats 1000000 in
theorem actR_stopo1 (v : Value) (d : Dk) (o i : Int) (p : Option Addr) (n c : Nat) (m : List Int) (w : World) (h : RD X w v d) (hd : d.ok) (hB : BS w p n m) (hC : CP p n c) (hX : ∀ b, X b → b < w.heap.size) (h1 : d.dead = false) (o0 : ¬ o = 0) (hst : d.stop = 0) :
    Calls Try.prog 15 #[v, .int .i64 o, .int .i64 1, .slice p n c] w fun e w' => ∃ y, e = .returned (.tuple #[y, .int .i64 9]) ∧ RD X w' y { d with dead := true } ∧ Below w.heap.size w w' := by
  clear hX
  obtain ⟨pa, ca, pb, cb, rfl, g1, g2, g3, g4⟩ := h
  have G1 := hide g1
  have G3 := hide g3
  have HB := hide hB
  have HV : Hid (.agg #[.slice pa d.a.l.length ca, .int .i64 d.a.s, .slice pb d.b.l.length cb, .int .i64 d.b.s, .int .i64 d.room, .int .i64 0, .bool true] = (.agg #[.slice pa d.a.l.length ca, .int .i64 d.a.s, .slice pb d.b.l.length cb, .int .i64 d.b.s, .int .i64 d.room, .int .i64 d.stop, .bool true] : Value)) := by unfold Hid; simp [*]
  clear g1 g3 hB hd
  have b0 : (o == 0) = false := by simpa using o0
  go_enter Try.func15, Try.ntmps15
  go_wp2
  refine bodyPost_ret (v := .tuple #[.agg #[.slice pa d.a.l.length ca, .int .i64 d.a.s, .slice pb d.b.l.length cb, .int .i64 d.b.s, .int .i64 d.room, .int .i64 0, .bool true], .int .i64 9]) (by simp [results, Try.results15, go_sem]) rfl ⟨_, rfl, ?_, (Below.refl _ _).alloc (Nat.le_refl _) _ |>.alloc (by simp) _⟩
  exact ⟨pa, ca, pb, cb, by simp [*], (G1.out.alloc _).alloc _, g2, (G3.out.alloc _).alloc _, g4⟩
/-- What the document's disk answers to an act. -/
theorem actR_any (v : Value) (d : Dk) (o i : Int) (p : Option Addr) (n c : Nat) (m : List Int) (w : World) (h : RD X w v d) (hd : d.ok) (hB : BS w p n m) (hC : CP p n c) (hX : ∀ b, X b → b < w.heap.size) :
    Calls Try.prog 15 #[v, .int .i64 o, .int .i64 i, .slice p n c] w fun e w' => ∃ y, e = .returned (.tuple #[y, .int .i64 (d.act o i m).2]) ∧ RD X w' y (d.act o i m).1 ∧ Below w.heap.size w w' := by
  have hm := hB.1
  unfold Dk.act
  by_cases h1 : d.dead = true
  · rw [if_pos h1]; exact actR_dead v d o i p n c m w h hd hB hC hX h1
  · rw [if_neg h1]
    have h1' : d.dead = false := by simpa using h1
    by_cases hi : i ≠ 0 ∧ i ≠ 1
    · rw [if_pos hi]; exact actR_slot v d o i p n c m w h hd hB hC hX h1' hi.1 hi.2
    · rw [if_neg hi]
      have hi' : i = 0 ∨ i = 1 := by omega
      by_cases hl : o = 0 ∧ (m.length : Int) > d.left
      · rw [if_pos hl]
        obtain ⟨rfl, hl⟩ := hl
        rw [hm] at hl
        rcases hi' with rfl | rfl
        · exact actR_full0 v d p n c m w h hd hB hC hX h1' hl
        · exact actR_full1 v d p n c m w h hd hB hC hX h1' hl
      · rw [if_neg hl]
        by_cases hs : d.stop = 0
        · rw [if_pos hs]
          by_cases ho : o = 0
          · subst ho
            have hl' : ¬ (n : Int) > d.left := fun q => hl ⟨rfl, by rw [hm]; exact q⟩
            rcases hi' with rfl | rfl
            · exact actR_stop0 v d p n c m w h hd hB hC hX h1' hl' hs
            · exact actR_stop1 v d p n c m w h hd hB hC hX h1' hl' hs
          · rcases hi' with rfl | rfl
            · exact actR_stopo0 v d o 0 p n c m w h hd hB hC hX h1' ho hs
            · exact actR_stopo1 v d o 0 p n c m w h hd hB hC hX h1' ho hs
        · rw [if_neg hs]
          by_cases ho : o = 0
          · subst ho
            have hl' : ¬ (n : Int) > d.left := fun q => hl ⟨rfl, by rw [hm]; exact q⟩
            rcases hi' with rfl | rfl <;> by_cases hp : d.stop > 0
            · exact actR_00p v d p n c m w h hd hB hC hX h1' hs hp hl'
            · exact actR_00m v d p n c m w h hd hB hC hX h1' hs hp hl'
            · exact actR_01p v d p n c m w h hd hB hC hX h1' hs hp hl'
            · exact actR_01m v d p n c m w h hd hB hC hX h1' hs hp hl'
          · by_cases ho1 : o = 1
            · subst ho1
              rcases hi' with rfl | rfl <;> by_cases hp : d.stop > 0
              · exact actR_10p v d p n c m w h hd hB hC hX h1' hs hp
              · exact actR_10m v d p n c m w h hd hB hC hX h1' hs hp
              · exact actR_11p v d p n c m w h hd hB hC hX h1' hs hp
              · exact actR_11m v d p n c m w h hd hB hC hX h1' hs hp
            · by_cases ho2 : o = 2
              · subst ho2
                rcases hi' with rfl | rfl <;> by_cases hp : d.stop > 0
                · exact actR_20p v d p n c m w h hd hB hC hX h1' hs hp
                · exact actR_20m v d p n c m w h hd hB hC hX h1' hs hp
                · exact actR_21p v d p n c m w h hd hB hC hX h1' hs hp
                · exact actR_21m v d p n c m w h hd hB hC hX h1' hs hp
              · rcases hi' with rfl | rfl <;> by_cases hp : d.stop > 0
                · exact actR_n0p v d o ho ho1 ho2 p n c m w h hd hB hC hX h1' hs hp
                · exact actR_n0m v d o ho ho1 ho2 p n c m w h hd hB hC hX h1' hs hp
                · exact actR_n1p v d o ho ho1 ho2 p n c m w h hd hB hC hX h1' hs hp
                · exact actR_n1m v d o ho ho1 ho2 p n c m w h hd hB hC hX h1' hs hp
end
end Go.Proofs.Yteamedilcpfkgaa
