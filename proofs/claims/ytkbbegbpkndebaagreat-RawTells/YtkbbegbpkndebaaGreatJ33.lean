/- Texts of this claim, joined: HP3. -/
import Derived.Test.YtkbbegbpkndebaaGreatJ32
/- copySets and copyRaw of layer 13 (the program). -/
namespace Go.Proofs.YtkbbegbpkndebaaGreat
open Go.RowKit Go.Lib
set_option linter.unusedVariables false
theorem cell_oth {w : World} {q x : Addr} {v : Value} (h : q ≠ x) : (w.setCell q v).cell? x = w.cell? x := World.cell?_setCell_other w q x v h
theorem cell_at {w : World} {q : Addr} {u v : Value} (h : w.cell? q = some u) : (w.setCell q v).cell? q = some v := World.cell?_setCell_same w q v h
theorem DS.fun {w : World} {p : Option Addr} {n : Nat} {l m : List Dot} (h : DS w p n l) (k : DS w p n m) : l = m := by
 rcases Nat.eq_zero_or_pos n with h0 | h0
 ·have a := h.1
  have b := k.1
  rw [List.eq_nil_of_length_eq_zero (by omega : l.length = 0), List.eq_nil_of_length_eq_zero (by omega : m.length = 0)]
 ·obtain ⟨b, off, rfl⟩ := h.addr h0
  apply List.ext_getElem?
  intro i
  by_cases hi : i < n
  ·obtain ⟨r, s, h1, h2, h3⟩ := h.one i hi
   obtain ⟨r', s', k1, k2, k3⟩ := k.one i hi
   rw [h2] at k2
   rw [h3] at k3
   cases k2
   cases k3
   rw [h1, k1]
  ·rw [List.getElem?_eq_none (by have := h.1; omega), List.getElem?_eq_none (by have := k.1; omega)]
theorem DS.over {w : World} {p : Option Addr} {n : Nat} {l : List Dot} (h : DS w p n l) {q : Addr} {a : Option Addr} {b c : Nat} (hq : w.cell? q = some (.slice a b c)) (v : Value) : DS (w.setCell q v) p n l := by
 have fr : ∀ (x : Addr) (z : Int), w.cell? x = some (.int .i64 z) → (w.setCell q v).cell? x = some (.int .i64 z) := fun x z hx => by
  rw [cell_oth (fun e => by rw [e, hx] at hq; cases hq)]
  exact hx
 refine ⟨h.1, h.2.1, ?_⟩
 rcases h.2.2 with h0 | ⟨b, off, ha, hc⟩
 ·exact .inl h0
 ·exact .inr ⟨b, off, ha, fun i hi => ⟨fr _ _ (hc i hi).1, fr _ _ (hc i hi).2⟩⟩
theorem NSS.relive {w : World} {a : Option Addr} {m : Nat} {s : List En} (h : NSS w a m s) {g o : Nat} {k : ByteArray} {x y : Hd} {l : List Dot} (hk : w.cell? ⟨g, o, none⟩ = some (.string k)) (hx : w.cell? ⟨g, o + 1, none⟩ = some (.slice x.1 x.2.1 x.2.2)) (hl : DS w x.1 x.2.1 l) (hy : DC w y l) : NSS (w.setCell ⟨g, o + 1, none⟩ (.slice y.1 y.2.1 y.2.2)) a m s := by
 obtain ⟨xs, h1, h2⟩ := h
 rcases h1.2.2 with hz | ⟨b, off, ha, hc⟩
 ·refine ⟨xs, ⟨h1.1, h1.2.1, .inl hz⟩, h2.1, fun i z e hz' he => ?_⟩
  obtain ⟨q1, q2, q3⟩ := h2.2 i z e hz' he
  exact ⟨q1, ⟨q2.1.over hx _, q2.2⟩, ⟨q3.1.over hx _, q3.2⟩⟩
 ·refine ⟨xs.mapIdx (fun i z => if b = g ∧ off + i * 3 = o then (z.1, y, z.2.2) else z), ⟨by rw [List.length_mapIdx]; exact h1.1, h1.2.1, .inr ⟨b, off, ha, fun i z hz j v hj => ?_⟩⟩, by rw [List.length_mapIdx]; exact h2.1, fun i z e hz he => ?_⟩
  ·rw [List.getElem?_mapIdx] at hz
   obtain ⟨z0, h0, rfl⟩ := Option.map_eq_some_iff.1 hz
   have c0 := hc i z0 h0 0 _ rfl
   have c1 := hc i z0 h0 1 _ rfl
   have c2 := hc i z0 h0 2 _ rfl
   by_cases e : b = g ∧ off + i * 3 = o
   ·obtain ⟨rfl, rfl⟩ := e
    rw [if_pos ⟨rfl, rfl⟩] at hj
    rcases j with _ | _ | _ | j
    ·simp only [encN, List.getElem?_cons_zero, Option.some.injEq] at hj
     subst hj
     rw [cell_oth (by intro q; simp at q)]
     exact c0
    ·simp only [encN, Nat.zero_add, List.getElem?_cons_succ, List.getElem?_cons_zero, Option.some.injEq] at hj
     subst hj
     exact cell_at hx
    ·simp only [encN, Nat.zero_add, List.getElem?_cons_succ, List.getElem?_cons_zero, Option.some.injEq] at hj
     subst hj
     rw [cell_oth (by intro q; simp at q)]; exact c2
    ·simp [encN] at hj
   ·rw [if_neg e] at hj
    have cj := hc i z0 h0 j v hj
    rw [cell_oth]
    ·exact cj
    ·intro q
     simp only [Addr.mk.injEq, and_true] at q
     obtain ⟨rfl, q⟩ := q
     have hj3 : j < 3 := by have := (List.getElem?_eq_some_iff.1 hj).1; rwa [encN_len] at this
     rcases (by omega : j = 0 ∨ j = 1 ∨ j = 2) with rfl | rfl | rfl
     ·rw [show off + i * 3 + 0 = o + 1 by omega, hx] at c0
      cases c0
     ·exact e ⟨rfl, by omega⟩
     ·rw [show off + i * 3 + 1 = o by omega, hk] at c1; cases c1
  ·rw [List.getElem?_mapIdx] at hz
   obtain ⟨z0, h0, rfl⟩ := Option.map_eq_some_iff.1 hz
   obtain ⟨q1, q2, q3⟩ := h2.2 i z0 e h0 he
   by_cases e' : b = g ∧ off + i * 3 = o
   ·obtain ⟨rfl, rfl⟩ := e'
    rw [if_pos ⟨rfl, rfl⟩]
    have cd := hc i z0 h0 1 _ rfl
    rw [hx] at cd
    simp only [Option.some.injEq, Value.slice.injEq] at cd
    obtain ⟨d1, d2, d3⟩ := cd
    have ee : e.2.1 = l := DS.fun q2.1 (by rw [← d1, ← d2]; exact hl)
    exact ⟨q1, ⟨by rw [ee]; exact hy.1.over hx _, hy.2⟩, ⟨q3.1.over hx _, q3.2⟩⟩
   ·rw [if_neg e']
    exact ⟨q1, ⟨q2.1.over hx _, q2.2⟩, ⟨q3.1.over hx _, q3.2⟩⟩
theorem NSS.redead {w : World} {a : Option Addr} {m : Nat} {s : List En} (h : NSS w a m s) {g o : Nat} {k : ByteArray} {x y : Hd} {l : List Dot} (hk : w.cell? ⟨g, o, none⟩ = some (.string k)) {a1 : Option Addr} {b1 d1 : Nat} (hx1 : w.cell? ⟨g, o + 1, none⟩ = some (.slice a1 b1 d1)) (hx : w.cell? ⟨g, o + 2, none⟩ = some (.slice x.1 x.2.1 x.2.2)) (hl : DS w x.1 x.2.1 l) (hy : DC w y l) : NSS (w.setCell ⟨g, o + 2, none⟩ (.slice y.1 y.2.1 y.2.2)) a m s := by
 obtain ⟨xs, h1, h2⟩ := h
 rcases h1.2.2 with hz | ⟨b, off, ha, hc⟩
 ·refine ⟨xs, ⟨h1.1, h1.2.1, .inl hz⟩, h2.1, fun i z e hz' he => ?_⟩
  obtain ⟨q1, q2, q3⟩ := h2.2 i z e hz' he
  exact ⟨q1, ⟨q2.1.over hx _, q2.2⟩, ⟨q3.1.over hx _, q3.2⟩⟩
 ·refine ⟨xs.mapIdx (fun i z => if b = g ∧ off + i * 3 = o then (z.1, z.2.1, y) else z), ⟨by rw [List.length_mapIdx]; exact h1.1, h1.2.1, .inr ⟨b, off, ha, fun i z hz j v hj => ?_⟩⟩, by rw [List.length_mapIdx]; exact h2.1, fun i z e hz he => ?_⟩
  ·rw [List.getElem?_mapIdx] at hz
   obtain ⟨z0, h0, rfl⟩ := Option.map_eq_some_iff.1 hz
   have c0 := hc i z0 h0 0 _ rfl
   have c1 := hc i z0 h0 1 _ rfl
   have c2 := hc i z0 h0 2 _ rfl
   by_cases e : b = g ∧ off + i * 3 = o
   ·obtain ⟨rfl, rfl⟩ := e
    rw [if_pos ⟨rfl, rfl⟩] at hj
    rcases j with _ | _ | _ | j
    ·simp only [encN, List.getElem?_cons_zero, Option.some.injEq] at hj
     subst hj
     rw [cell_oth (by intro q; simp at q)]
     exact c0
    ·simp only [encN, Nat.zero_add, List.getElem?_cons_succ, List.getElem?_cons_zero, Option.some.injEq] at hj
     subst hj
     rw [cell_oth (by intro q; simp at q)]; exact c1
    ·simp only [encN, Nat.zero_add, List.getElem?_cons_succ, List.getElem?_cons_zero, Option.some.injEq] at hj
     subst hj
     exact cell_at hx
    ·simp [encN] at hj
   ·rw [if_neg e] at hj
    have cj := hc i z0 h0 j v hj
    rw [cell_oth]
    ·exact cj
    ·intro q
     simp only [Addr.mk.injEq, and_true] at q
     obtain ⟨rfl, q⟩ := q
     have hj3 : j < 3 := by have := (List.getElem?_eq_some_iff.1 hj).1; rwa [encN_len] at this
     rcases (by omega : j = 0 ∨ j = 1 ∨ j = 2) with rfl | rfl | rfl
     ·rw [show off + i * 3 + 0 = o + 2 by omega, hx] at c0
      cases c0
     ·rw [show off + i * 3 + 0 = o + 1 by omega, hx1] at c0; cases c0
     ·exact e ⟨rfl, by omega⟩
  ·rw [List.getElem?_mapIdx] at hz
   obtain ⟨z0, h0, rfl⟩ := Option.map_eq_some_iff.1 hz
   obtain ⟨q1, q2, q3⟩ := h2.2 i z0 e h0 he
   by_cases e' : b = g ∧ off + i * 3 = o
   ·obtain ⟨rfl, rfl⟩ := e'
    rw [if_pos ⟨rfl, rfl⟩]
    have cd := hc i z0 h0 2 _ rfl
    rw [hx] at cd
    simp only [Option.some.injEq, Value.slice.injEq] at cd
    obtain ⟨d1, d2, d3⟩ := cd
    have ee : e.2.2 = l := DS.fun q3.1 (by rw [← d1, ← d2]; exact hl)
    exact ⟨q1, ⟨q2.1.over hx _, q2.2⟩, ⟨by rw [ee]; exact hy.1.over hx _, hy.2⟩⟩
   ·rw [if_neg e']
    exact ⟨q1, ⟨q2.1.over hx _, q2.2⟩, ⟨q3.1.over hx _, q3.2⟩⟩
theorem RelH.each {α : Type} {I : LI α} {w w' : World} {hs : List Hd} {ls : List (List α)} (h : RelH I w hs ls) (f : ∀ {p m l}, I w p m l → I w' p m l) : RelH I w' hs ls := ⟨h.1, fun i x l hx hl => ⟨f (h.2 i x l hx hl).1, (h.2 i x l hx hl).2⟩⟩
theorem ownD_in {N : Nat} {w : World} {v : Value} {n : Nat} {l : List Dot} (h : OwnD N w v l) (hl : l.length = n) : ∃ p c, v = .slice p n c ∧ DS w p n l ∧ CP p n c := by
 obtain ⟨p, c, rfl, h1, h2⟩ := h.open
 rw [hl] at h1 h2 ⊢
 exact ⟨p, c, rfl, h1, h2⟩
structure CZ (w : World) (go n c : Nat) (hs : List Hd) (ls : List (List En)) (W : World) : Prop where
 o : OH 74 w.heap.size W (.slice (some ⟨go, 0, none⟩) n c) hs
 r : RelH NSS W hs ls
 nb : NBs 125 w.heap.size W hs
 b : Below w.heap.size w W
theorem CZ.below {w : World} {go n c : Nat} {hs : List Hd} {ls : List (List En)} {W W' : World} (h : CZ w go n c hs ls W) (hb : Below W.heap.size W W') : CZ w go n c hs ls W' := ⟨h.o.below hb, h.r.below kept_ent hb, h.nb.below hb, bel_next h.b hb⟩
theorem CZ.turn {w : World} {go n c : Nat} {hs : List Hd} {ls : List (List En)} {W : World} (h : CZ w go n c hs ls W) {g o : Nat} {C : Array Value} (hbg : BX W g C 125) (hgN : w.heap.size ≤ g) {k : ByteArray} {p1 : Option Addr} {m1 c1 : Nat} {p2 : Option Addr} {m2 c2 : Nat} {l1 l2 : List Dot} (k0 : W.cell? ⟨g, o, none⟩ = some (.string k)) (k1 : W.cell? ⟨g, o + 1, none⟩ = some (.slice p1 m1 c1)) (k2 : W.cell? ⟨g, o + 2, none⟩ = some (.slice p2 m2 c2)) (d1 : DS W p1 m1 l1) (d2 : DS W p2 m2 l2) {y1 y2 : Hd} (e1 : DC W y1 l1) (e2 : DC W y2 l2) : CZ w go n c hs ls ((W.setCell ⟨g, o + 1, none⟩ (.slice y1.1 y1.2.1 y1.2.2)).setCell ⟨g, o + 2, none⟩ (.slice y2.1 y2.2.1 y2.2.2)) := by
 have k0' : (W.setCell ⟨g, o + 1, none⟩ (.slice y1.1 y1.2.1 y1.2.2)).cell? ⟨g, o, none⟩ = some (.string k) := by rw [cell_oth (by intro q; simp at q)]; exact k0
 have k2' : (W.setCell ⟨g, o + 1, none⟩ (.slice y1.1 y1.2.1 y1.2.2)).cell? ⟨g, o + 2, none⟩ = some (.slice p2 m2 c2) := by rw [cell_oth (by intro q; simp at q)]; exact k2
 have k1' : (W.setCell ⟨g, o + 1, none⟩ (.slice y1.1 y1.2.1 y1.2.2)).cell? ⟨g, o + 1, none⟩ = some (.slice y1.1 y1.2.1 y1.2.2) := cell_at k1
 have hb2 := hbg.set (o + 1) (.slice y1.1 y1.2.1 y1.2.2)
 refine ⟨(h.o.put hbg (by decide) _ _).put hb2 (by decide) _ _, RelH.each (RelH.each h.r (fun q => NSS.relive (x := (p1, m1, c1)) q k0 k1 d1 e1)) (fun q => NSS.redead (x := (p2, m2, c2)) q k0' k1' k2' (d2.over k1 _) ⟨e2.1.over k1 _, e2.2⟩), (h.nb.set _ _ _).set _ _ _, (h.b.setCell (p := ⟨g, o + 1, none⟩) hgN _).setCell (p := ⟨g, o + 2, none⟩) hgN _⟩
set_option maxRecDepth 2000 in
set_option maxHeartbeats 8000000 in
theorem copySets13 (a : Option Addr) (n cap : Nat) (ls : List (List En)) (w : World) (hD : LS NSS w a n ls) (hn : n ≤ 1000) (hbd : ∀ l ∈ ls, l.length ≤ 100000 ∧ ∀ x ∈ l, x.2.1.length ≤ 1000000 ∧ x.2.2.length ≤ 1000000) : Calls Tryz.prog 117 #[.slice a n cap] w fun e w' => ∃ p c hs, e = .returned (.slice p n c) ∧ OH 74 w.heap.size w' (.slice p n c) hs ∧ RelH NSS w' hs ls ∧ Below w.heap.size w w' := by
 have HC := hide (copyLE a n cap ls w hD hn (fun l hl => (hbd l hl).1))
 have HBD := hide hbd
 have HLEN := hide hD.len
 clear hD hbd
 go_enter Tryz.func117, Tryz.ntmps117
 go_upto_region 2 with (go_at_call 164; refine HC.out.mono ?_; rintro e w1 ⟨p, c, hs, rfl, ho, hr, hnb, hb⟩; have HO := hide ho; have HR := hide hr; have HNB := hide hnb; have HB := hide hb; clear ho hr hnb hb)
 rcases Nat.eq_zero_or_pos n with h0 | h0
 ·subst h0
  go_wp2
  refine wp_loop_rounds 1 ?_
  rw [rounds_succ]
  go_wp2
  go_ret
  exact ⟨_, _, _, rfl, HO.out, HR.out, HB.out⟩
 ·obtain ⟨go, hgo⟩ : ∃ go, p = some ⟨go, 0, none⟩ := by
   rcases HO.out.1.2 with ⟨q0, q1⟩ | ⟨g, cap, cur, q0, q1, hg, _⟩
   ·have := (HO.out.1.rs encH_len).1.1
    rw [this] at q1
    omega
   ·simp only [Value.slice.injEq] at q0
    exact ⟨g, q0.1⟩
  subst hgo
  have HZ : Hid (CZ w go n c hs ls w1) := ⟨HO.out, HR.out, HNB.out, HB.out⟩
  clear HO HR HNB HB HC
  go_wp2
  go_loopw [12] (fun v wr => ∃ i : Nat, i ≤ n ∧ v = .int .i64 i ∧ Hid (CZ w go n c hs ls wr)) (fun v _ => n - (intOf v).toNat)
  case atStart => exact ⟨0, by omega, rfl, HZ⟩
  case round =>
   clear HZ
   obtain ⟨i, hi, rfl, HZ⟩ := hrel
   by_cases hlt : i < n
   ·obtain ⟨⟨p9, m, c9⟩, hx⟩ : ∃ x, hs[i]? = some x := ⟨_, List.getElem?_eq_getElem (by rw [(HZ.out.o.1.rs encH_len).1.1]; exact hlt)⟩
    obtain ⟨lx0, hlx⟩ : ∃ x, ls[i]? = some x := ⟨_, List.getElem?_eq_getElem (by rw [← HZ.out.r.1, (HZ.out.o.1.rs encH_len).1.1]; exact hlt)⟩
    obtain ⟨b9, o9, hq9, hcc⟩ := (HZ.out.o.1.rs encH_len).1.2.2.resolve_left (by omega)
    cases hq9
    have y1 := hcc i _ hx 0 _ rfl
    rw [Nat.mul_one, Nat.add_zero, Nat.zero_add] at y1
    simp only at y1
    have HX := hide hx
    have HLX := hide hlx
    have hi0 : (0 : Int) ≤ (i : Int) := by omega
    have hi1 : (i : Int) < (n : Int) := by omega
    clear hx hlx hcc
    go_wp2
    clear y1
    generalize hww : wr = wo at *
    clear hww
    go_loopw [18] (fun v wr => ∃ j : Nat, j ≤ m ∧ v = .int .i64 j ∧ Hid (CZ w go n c hs ls wr)) (fun v _ => m - (intOf v).toNat)
    case atStart => exact ⟨0, by omega, rfl, HZ⟩
    case round =>
     clear HZ
     obtain ⟨j, hj, rfl, HZ⟩ := hrel
     by_cases hjm : j < m
     ·have NB1 := hide (HZ.out.nb _ (List.mem_of_getElem? HX.out) (show 0 < m by omega))
      obtain ⟨g, Cg, hge, hgN, hbg⟩ := NB1.out
      simp only at hge
      subst hge
      obtain ⟨hrel1, _⟩ := HZ.out.r.2 i _ _ HX.out HLX.out
      obtain ⟨ky, pl, nl, cl, pd, nd, cd, lx, mx, he, k0, k1, k2, hl, hcl, hm, hcm⟩ := NSS.at hrel1 j hjm
      rw [Nat.zero_add] at k0 k1 k2
      have hnl : nl ≤ 1000000 := by have q := (HBD.out _ (List.mem_of_getElem? HLX.out)).2 _ (List.mem_of_getElem? he); have := hl.1; simp only at q; omega
      have hnd : nd ≤ 1000000 := by have q := (HBD.out _ (List.mem_of_getElem? HLX.out)).2 _ (List.mem_of_getElem? he); have := hm.1; simp only at q; omega
      have HNL := hide hl.1
      have HND := hide hm.1
      have BQ := hide (bel1 wr (.cells #[.string ky, .slice pl nl cl, .slice pd nd cd] 125))
      have HL := hide (hl.below BQ.out)
      have HM := hide (hm.below BQ.out)
      have W1 := hide (cell_new wr #[.string ky, .slice pl nl cl, .slice pd nd cd] 125 _ rfl 1 _ rfl)
      have W2 := hide (cell_new wr #[.string ky, .slice pl nl cl, .slice pd nd cd] 125 _ rfl 2 _ rfl)
      have K0 := hide (bcell BQ.out k0)
      have K1 := hide (bcell BQ.out k1)
      have K2 := hide (bcell BQ.out k2)
      have HBG := hide (hbg.below BQ.out)
      replace HZ := hide (HZ.out.below BQ.out)
      have hj0 : (0 : Int) ≤ (j : Int) := by omega
      have hj1 : (j : Int) < (m : Int) := by omega
      have hmm : m ≤ 9223372036854775807 := by have h := hrel1.max; unfold maxLen at h; omega
      have hgx : ¬ g = wr.heap.size := by have := hbg.size; omega
      clear hl hm hcl hcm he hrel1 hbg NB1
      go_upto_region 8 with fail
      clear k0 k1 k2 BQ
      generalize wr.heap.size = gX at *
      generalize wr.alloc (.cells #[.string ky, .slice pl nl cl, .slice pd nd cd] 125) = wx at *
      replace HZ := hide (HZ.out.below (Below.refl _ wx).drew)
      replace HL := hide (HL.out.below (Below.refl _ wx).drew)
      replace HM := hide (HM.out.below (Below.refl _ wx).drew)
      replace K0 := hide (bcell (Below.refl _ wx).drew K0.out)
      replace K1 := hide (bcell (Below.refl _ wx).drew K1.out)
      replace K2 := hide (bcell (Below.refl _ wx).drew K2.out)
      replace HBG := hide (HBG.out.below (Below.refl _ wx).drew)
      refine wp_region_held_drew (S := fun W => Below w.heap.size w W ∧ W.cell? ⟨gX, 1, none⟩ = some (.slice pl nl cl) ∧ W.cell? ⟨gX, 2, none⟩ = some (.slice pd nd cd)) (by kernel_rfl) (⟨HZ.out.b, W1.out, W2.out⟩) (fun hS0 => ?_)
      generalize wx.drew = x1 at *
      refine tkJ 0 23 hS0 ?_; simp only [ly]
      refine tkJ 1 24 hS0 ?_; simp only [ly]
      refine tkJ 2 25 hS0 ?_; simp only [ly]
      refine tkJ 3 26 hS0 ?_; simp only [ly]
      refine tkJ 4 27 hS0 ?_; simp only [ly]
      refine tkL 5 28 hS0 ?h ?_; case h => (intro W hW; have e0 := hW.2.1; have e1 := hW.2.2; clear hW; go_simp; try rfl); simp only [ly]
      refine tkJ 7 30 hS0 ?_; simp only [ly]
      refine tkL 8 31 hS0 ?h ?_; case h => (intro W hW; have e0 := hW.2.1; have e1 := hW.2.2; clear hW; go_simp; try rfl); simp only [ly]
      refine wpAnyH_ready (rs := [6]) (by kernel_rfl) (by simp) ?_
      refine AllReadyH.cons rfl (fun K hK => ?_) AllReadyH.nil
      go_simp
      refine (cloneD_any pl nl cl lx _ HL.out hnl).mono ?_
      rintro e wn ⟨v9, rfl, ho9, hb⟩
      obtain ⟨p8, c8, rfl, hd8, hc8⟩ := ownD_in ho9 HNL.out
      have HD8 := hide hd8
      have HC8 := hide hc8
      clear hd8 hc8 ho9
      replace HZ := hide (HZ.out.below hb)
      replace HL := hide (HL.out.below hb)
      replace HM := hide (HM.out.below hb)
      replace K0 := hide (bcell hb K0.out)
      replace K1 := hide (bcell hb K1.out)
      replace K2 := hide (bcell hb K2.out)
      replace HBG := hide (HBG.out.below hb)
      refine hK.out _ _ ?hs9 (fun hS1 => ?_)
      case hs9 => exact ⟨bel_next hS0.1 hb, bcell hb hS0.2.1, bcell hb hS0.2.2⟩
      clear hK K
      try simp only [ly]
      refine wpAnyH_ready (rs := [9]) (by kernel_rfl) (by simp) ?_
      refine AllReadyH.cons rfl (fun K hK => ?_) AllReadyH.nil
      go_simp
      refine (cloneD_any pd nd cd mx _ HM.out hnd).mono ?_
      rintro e wn2 ⟨v9, rfl, ho9, hb⟩
      obtain ⟨p7, c7, rfl, hd7, hc7⟩ := ownD_in ho9 HND.out
      have HD7 := hide hd7
      have HC7 := hide hc7
      replace HD8 := hide (HD8.out.below hb)
      clear hd7 hc7 ho9
      replace HZ := hide (HZ.out.below hb)
      replace HL := hide (HL.out.below hb)
      replace HM := hide (HM.out.below hb)
      replace K0 := hide (bcell hb K0.out)
      replace K1 := hide (bcell hb K1.out)
      replace K2 := hide (bcell hb K2.out)
      replace HBG := hide (HBG.out.below hb)
      refine hK.out _ _ ?hs10 (fun hS2 => ?_)
      case hs10 => exact ⟨bel_next hS1.1 hb, bcell hb hS1.2.1, bcell hb hS1.2.2⟩
      clear hK K
      try simp only [ly]
      refine tkJ 10 33 hS2 ?_; simp only [ly]
      refine tkJ 11 34 hS2 ?_; simp only [ly]
      refine wpAnyH_ready (rs := [12]) (by kernel_rfl) (by simp) ?_
      refine AllReadyH.cons rfl (fun K hK => ?_) AllReadyH.nil
      have k1 := K1.out
      have z1 := HBG.out.free (j * 3 + 1)
      have HZ2 := hide (HZ.out.turn HBG.out hgN K0.out k1 K2.out HL.out HM.out (y1 := (p8, nl, c8)) (y2 := (p7, nd, c7)) ⟨HD8.out, HC8.out⟩ ⟨HD7.out, HC7.out⟩)
      have K22 := hide ((cell_oth (q := ⟨g, j * 3 + 1, none⟩) (x := ⟨g, j * 3 + 2, none⟩) (v := .slice p8 nl c8) (by intro q; simp at q)).trans K2.out)
      have HBG2 := hide (HBG.out.set (j * 3 + 1) (.slice p8 nl c8))
      have BB2 := HZ.out.b.setCell (p := ⟨g, j * 3 + 1, none⟩) hgN (.slice p8 nl c8)
      simp only at HZ2
      go_simp
      refine hK.out _ _ ?hs13 (fun hS3 => ?_)
      case hs13 => exact ⟨BB2, by rw [cell_oth (by intro q; simp at q; try exact hgx q.1)]; exact hS2.2.1, by rw [cell_oth (by intro q; simp at q; try exact hgx q.1)]; exact hS2.2.2⟩
      clear hK K
      try simp only [ly]
      refine tkJ 13 35 hS3 ?_; simp only [ly]
      refine tkJ 14 36 hS3 ?_; simp only [ly]
      refine wpAnyH_ready (rs := [15]) (by kernel_rfl) (by simp) ?_
      refine AllReadyH.cons rfl (fun K hK => ?_) AllReadyH.nil
      have k2 := K22.out
      have z2 := HBG2.out.free (j * 3 + 2)
      have BB3 := HZ2.out.b
      go_simp
      refine hK.out _ _ ?hs16 (fun hS4 => ?_)
      case hs16 => exact ⟨BB3, by rw [cell_oth (by intro q; simp at q; try exact hgx q.1)]; exact hS3.2.1, by rw [cell_oth (by intro q; simp at q; try exact hgx q.1)]; exact hS3.2.2⟩
      clear hK K
      try simp only [ly]
      refine wpAnyH_done (by kernel_rfl) ?_ _
      go_wp2
      go_roundw
      case rel => exact ⟨j + 1, by omega, by go_num, HZ2⟩
      case measure => simp [intOf]; omega
     ·obtain rfl : j = m := by omega
      go_wp2
      go_roundw
      case rel => exact ⟨i + 1, by omega, by go_num, HZ⟩
      case measure => simp [intOf]; omega
   ·obtain rfl : i = n := by omega
    go_wp2
    go_ret
    exact ⟨_, _, _, rfl, HZ.out.o, HZ.out.r, HZ.out.b⟩
end Go.Proofs.YtkbbegbpkndebaaGreat

