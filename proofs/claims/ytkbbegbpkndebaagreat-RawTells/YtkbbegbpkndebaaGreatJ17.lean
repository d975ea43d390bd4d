/- Texts of this claim, joined: H12, A8. -/
import Derived.Test.YtkbbegbpkndebaaGreatJ16
import Derived.Test.YtkbbegbpkndebaaGreatJ9
/- Raw of the call's own (layer 13), an element at a time. -/
namespace Go.Proofs.YtkbbegbpkndebaaGreat
open Go.RowKit Go.Lib
set_option linter.unusedVariables false
def OO (N : Nat) (w : World) (p1 : Option Addr) (n1 c1 : Nat) (p2 : Option Addr) (n2 c2 : Nat) (p3 : Option Addr) (n3 c3 : Nat) (p4 : Option Addr) (n4 c4 : Nat) (r : Rw) : Prop := ∃ hs1 hs2 hs3 hs4, OW N w p1 n1 c1 p2 n2 c2 p3 n3 c3 p4 n4 c4 hs1 hs2 hs3 hs4 ∧ RH w hs1 hs2 hs3 hs4 r
theorem OO.rm {N : Nat} {w : World} {p1 : Option Addr} {n1 c1 : Nat} {p2 : Option Addr} {n2 c2 : Nat} {p3 : Option Addr} {n3 c3 : Nat} {p4 : Option Addr} {n4 c4 : Nat} {r : Rw} (h : OO N w p1 n1 c1 p2 n2 c2 p3 n3 c3 p4 n4 c4 r) : RM w p1 n1 c1 p2 n2 c2 p3 n3 c3 p4 n4 c4 r := by
 obtain ⟨hs1, hs2, hs3, hs4, h1, h2⟩ := h
 exact h1.rm h2
theorem OO.below {N : Nat} {w w' : World} {p1 : Option Addr} {n1 c1 : Nat} {p2 : Option Addr} {n2 c2 : Nat} {p3 : Option Addr} {n3 c3 : Nat} {p4 : Option Addr} {n4 c4 : Nat} {r : Rw} (h : OO N w p1 n1 c1 p2 n2 c2 p3 n3 c3 p4 n4 c4 r) (hb : Below w.heap.size w w') : OO N w' p1 n1 c1 p2 n2 c2 p3 n3 c3 p4 n4 c4 r := by
 obtain ⟨hs1, hs2, hs3, hs4, h1, h2⟩ := h
 exact ⟨hs1, hs2, hs3, hs4, ⟨h1.o1.below hb, h1.o2.below hb, h1.o3.below hb, h1.o4.below hb⟩, h2.below hb⟩
theorem OH.mono {T : TypeId} {N N' : Nat} {w : World} {v : Value} {hs : List Hd} (h : OH T N w v hs) (hN : N' ≤ N) : OH T N' w v hs := ⟨h.1.mono hN, h.2⟩
theorem OO.mono {N N' : Nat} {w : World} {p1 : Option Addr} {n1 c1 : Nat} {p2 : Option Addr} {n2 c2 : Nat} {p3 : Option Addr} {n3 c3 : Nat} {p4 : Option Addr} {n4 c4 : Nat} {r : Rw} (h : OO N w p1 n1 c1 p2 n2 c2 p3 n3 c3 p4 n4 c4 r) (hN : N' ≤ N) : OO N' w p1 n1 c1 p2 n2 c2 p3 n3 c3 p4 n4 c4 r := by
 obtain ⟨hs1, hs2, hs3, hs4, h1, h2⟩ := h
 exact ⟨hs1, hs2, hs3, hs4, ⟨h1.o1.mono hN, h1.o2.mono hN, h1.o3.mono hN, h1.o4.mono hN⟩, h2⟩
theorem OO.put {N : Nat} {w : World} {p1 : Option Addr} {n1 c1 : Nat} {p2 : Option Addr} {n2 c2 : Nat} {p3 : Option Addr} {n3 c3 : Nat} {p4 : Option Addr} {n4 c4 : Nat} {r : Rw} (h : OO N w p1 n1 c1 p2 n2 c2 p3 n3 c3 p4 n4 c4 r) {g : Nat} {C : Array Value} {t : TypeId} (hx : BX w g C t) (h1 : 74 ≠ t) (h2 : 76 ≠ t) (h3 : 78 ≠ t) (h4 : 80 ≠ t) (hS : SlB g w) (i : Nat) (a : Value) : OO N (w.setCell ⟨g, i, none⟩ a) p1 n1 c1 p2 n2 c2 p3 n3 c3 p4 n4 c4 r := by
 obtain ⟨hs1, hs2, hs3, hs4, k1, k2⟩ := h
 have kp := (KP.refl g w).set i a
 exact ⟨hs1, hs2, hs3, hs4, ⟨k1.o1.put hx h1 i a, k1.o2.put hx h2 i a, k1.o3.put hx h3 i a, k1.o4.put hx h4 i a⟩, ⟨k2.s.kp kept_ent kp hS, k2.t.kp kept_cel kp hS, k2.a.kp kept_acc kp hS, k2.g.kp kept_not kp hS⟩⟩
theorem OO.at1 {N : Nat} {w : World} {p1 : Option Addr} {n1 c1 : Nat} {p2 : Option Addr} {n2 c2 : Nat} {p3 : Option Addr} {n3 c3 : Nat} {p4 : Option Addr} {n4 c4 : Nat} {r : Rw} (h : OO N w p1 n1 c1 p2 n2 c2 p3 n3 c3 p4 n4 c4 r) (i : Nat) (hi : i < n1) : ∃ g px nx cx l, p1 = some ⟨g, 0, none⟩ ∧ N ≤ g ∧ r.1[i]? = some l ∧ w.cell? ⟨g, i, none⟩ = some (.slice px nx cx) ∧ w.frozen? ⟨g, i, none⟩ = false ∧ NSS w px nx l ∧ CP px nx cx := by
 obtain ⟨hs1, hs2, hs3, hs4, k1, k2⟩ := h
 have hl := (k1.o1.1.rs encH_len).1.1
 rcases k1.o1.1.2 with ⟨h0, h1⟩ | ⟨g, cap, cur, h0, h1, hg, _⟩
 ·omega
 ·simp only [Value.slice.injEq] at h0
  obtain ⟨rfl, _, rfl⟩ := h0
  obtain ⟨px, nx, cx, l, q1, q2, q3, q4⟩ := LS.at (h := (⟨hs1, (k1.o1.1.rs encH_len).1, k2.s⟩ : LS NSS w (some ⟨g, 0, none⟩) n1 r.1)) i hi
  rw [Nat.zero_add] at q2
  exact ⟨g, px, nx, cx, l, rfl, h1, q1, q2, BX.free (u := w) (g := g) (C := cur) (t := 74) hg i, q3, q4⟩
theorem OO.set1 {N : Nat} {w : World} {g : Nat} {n1 c1 : Nat} {p2 : Option Addr} {n2 c2 : Nat} {p3 : Option Addr} {n3 c3 : Nat} {p4 : Option Addr} {n4 c4 : Nat} {r : Rw} (h : OO N w (some ⟨g, 0, none⟩) n1 c1 p2 n2 c2 p3 n3 c3 p4 n4 c4 r) (i : Nat) {px : Option Addr} {nx cx : Nat} {l : List En} (hx : NSS w px nx l) (hc : CP px nx cx) : OO N (w.setCell ⟨g, i, none⟩ (.slice px nx cx)) (some ⟨g, 0, none⟩) n1 c1 p2 n2 c2 p3 n3 c3 p4 n4 c4 (r.1.set i l, r.2.1, r.2.2.1, r.2.2.2) := by
 obtain ⟨hs1, hs2, hs3, hs4, k1, k2⟩ := h
 have hl := (k1.o1.1.rs encH_len).1.1
 have kp := (KP.refl g w).set i (.slice px nx cx)
 have sl : SlB g w := k1.o1.slb (by simp [Value.ownBlock])
 refine ⟨hs1.set i (px, nx, cx), hs2, hs3, hs4, ⟨k1.o1.set hl i (px, nx, cx), k1.o2.other k1.o1 (by decide) i _, k1.o3.other k1.o1 (by decide) i _, k1.o4.other k1.o1 (by decide) i _⟩, ⟨(k2.s.kp kept_ent kp sl).set kept_ent i (x := (px, nx, cx)) (kept_ent.kp hx kp sl) hc, k2.t.kp kept_cel kp sl, k2.a.kp kept_acc kp sl, k2.g.kp kept_not kp sl⟩⟩
end Go.Proofs.YtkbbegbpkndebaaGreat

/- The program's Keys and Same (layer 8). -/
namespace Go.Proofs.YtkbbegbpkndebaaGreat
open Go.RowKit Go.Lib
set_option linter.unusedVariables false
theorem en_dec (k k' : ByteArray) (l l' m m' : List Dot) : decide (((k, l, m) : En) = (k', l', m')) = (decide (k = k') && decide (l = l') && decide (m = m')) := by
 rw [Bool.eq_iff_iff]; simp [and_assoc]
set_option maxHeartbeats 1000000 in
theorem same1_any (k : ByteArray) (pl : Option Addr) (nl cl : Nat) (pd : Option Addr) (nd cd : Nat) (l m : List Dot) (k' : ByteArray) (pl' : Option Addr) (nl' cl' : Nat) (pd' : Option Addr) (nd' cd' : Nat) (l' m' : List Dot) (w : World) (hl : DS w pl nl l) (hm : DS w pd nd m) (hl' : DS w pl' nl' l') (hm' : DS w pd' nd' m') :
  Calls Tryz.prog 148 #[.agg #[.string k, .slice pl nl cl, .slice pd nd cd], .agg #[.string k', .slice pl' nl' cl', .slice pd' nd' cd']] w fun e w' => e = .returned (.bool (decide (((k, l, m) : En) = (k', l', m')))) ∧ Below w.heap.size w w' := by
 have HR := hide (en_dec k k' l l' m m')
 have BB := hide (bel2 w (.cells #[.string k, .slice pl nl cl, .slice pd nd cd] 125) (.cells #[.string k', .slice pl' nl' cl', .slice pd' nd' cd'] 125))
 have HL := hide hl
 have HM := hide hm
 have HL' := hide hl'
 have HM' := hide hm'
 have hk := eqK k k'
 have c2 := cell_old (.cells #[.string k', .slice pl' nl' cl', .slice pd' nd' cd'] 125) (cell_new w #[.string k, .slice pl nl cl, .slice pd nd cd] 125 _ rfl 2 _ rfl)
 have d2 := cell_new (w.alloc (.cells #[.string k, .slice pl nl cl, .slice pd nd cd] 125)) #[.string k', .slice pl' nl' cl', .slice pd' nd' cd'] 125 (w.heap.size + 1) (by simp) 2 _ rfl
 clear hl hm hl' hm'
 rcases h1 : decide (k = k') with _ | _
 ·rw [h1] at hk HR
  clear h1 c2 d2
  go_enter Tryz.func148, Tryz.ntmps148
  go_wp2
  go_ret
  exact ⟨by rw [HR.out]; rfl, BB.out⟩
 ·rw [h1] at hk HR
  clear h1
  rcases h2 : decide (l = l') with _ | _
  ·rw [h2] at HR
   have H2 := hide h2
   clear h2 c2 d2
   go_enter Tryz.func148, Tryz.ntmps148
   go_wp2_with (go_at_call 149; refine (equalD_any pl pl' nl cl nl' cl' l l' _ (HL.out.below BB.out) (HL'.out.below BB.out)).mono ?_; rintro e w1 ⟨rfl, hb⟩; rw [H2.out])
   go_ret
   exact ⟨by rw [HR.out]; rfl, bel_next BB.out hb⟩
  ·rw [h2] at HR
   have H2 := hide h2
   clear h2
   have HEQ : Hid (∀ W, DS W pd nd m → DS W pd' nd' m' → Calls Tryz.prog 149 #[.slice pd nd cd, .slice pd' nd' cd'] W fun e w' => e = .returned (.bool (decide (m = m'))) ∧ Below W.heap.size W w') := fun W h h' => equalD_any pd pd' nd cd nd' cd' m m' W h h'
   generalize decide (m = m') = b at HR HEQ
   go_enter Tryz.func148, Tryz.ntmps148
   go_wp2_with (go_at_call 149; refine (equalD_any pl pl' nl cl nl' cl' l l' _ (HL.out.below BB.out) (HL'.out.below BB.out)).mono ?_; rintro e w1 ⟨rfl, hb⟩; rw [H2.out]; replace c2 := bcell hb c2; replace d2 := bcell hb d2; replace BB := hide (bel_next BB.out hb); clear hb; refine Stop.at ?_)
   unfold Stop
   go_wp2_with (go_at_call 149; refine (HEQ.out _ (HM.out.below BB.out) (HM'.out.below BB.out)).mono ?_; rintro e w2 ⟨rfl, hb⟩)
   go_ret
   exact ⟨by rw [HR.out]; simp, bel_next BB.out hb⟩
end Go.Proofs.YtkbbegbpkndebaaGreat

