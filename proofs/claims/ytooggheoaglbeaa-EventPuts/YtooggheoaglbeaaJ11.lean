/- Texts of this claim, joined: ERef3. -/
import Derived.Test.YtooggheoaglbeaaJ10
/- What the document's 'Get' does. -/
namespace Go.Proofs.Ytooggheoaglbeaa
open Go.RowKit
set_option linter.unusedVariables false

/-- The texts that bytes begin with, or none. -/
def upk (b : List Int) (most : Int) : List (List Int) := match unpack b most with
  | none => []
  | some (ts, _) => ts
theorem upk_by {b : List Int} (hb : By b) (most : Int) : ∀ t ∈ upk b most, By t := by
  unfold upk
  split
  · intro t ht; cases ht
  · rename_i ts m h
    exact fun t ht => ((unpack_some hb h).2.2.2 t ht).2
theorem upk_le {b : List Int} (hb : By b) {most : Int} (h0 : 0 ≤ most) : ((upk b most).length : Int) ≤ most := by
  unfold upk
  split
  · simpa using h0
  · rename_i ts m h
    exact unpack_le hb h
theorem rfD_upk (b : List Int) : rfD b = if (upk b 2).length = 2 then (match rdAll (upk b 2) with | none => none | some l => some (l.getD 0 0, l.getD 1 0)) else none := by
  unfold rfD upk
  rcases unpack b 2 with _ | ⟨ts, m⟩ <;> rfl
theorem rfF_upk (b : List Int) : rfF b = if (upk b 6).length = 6 then (match rdAll ((upk b 6).take 4) with | none => none | some l => some (l.getD 0 0, l.getD 1 0, (upk b 6).getD 4 [], l.getD 2 0, l.getD 3 0, (upk b 6).getD 5 [])) else none := by
  unfold rfF upk
  rcases unpack b 6 with _ | ⟨ts, m⟩ <;> rfl
theorem rfE_short {b : List Int} (h : (upk b 18).length < 3) : rfE b = none := by
  unfold rfE
  unfold upk at h
  rcases hu : unpack b 18 with _ | ⟨ts, m⟩
  · rfl
  · rw [hu] at h
    simp only [] at h ⊢
    rw [if_pos h]
theorem rfE_d {b : List Int} (h : rfD ((upk b 18).getD 0 []) = none) : rfE b = none := by
  unfold rfE
  unfold upk at h
  rcases hu : unpack b 18 with _ | ⟨ts, m⟩
  · rfl
  · rw [hu] at h
    simp only [] at h ⊢
    split
    · rfl
    · rw [h]
theorem rfE_f {b : List Int} (h : rfFs ((upk b 18).drop 2) = none) : rfE b = none := by
  unfold rfE
  unfold upk at h
  rcases hu : unpack b 18 with _ | ⟨ts, m⟩
  · rfl
  · rw [hu] at h
    simp only [] at h ⊢
    split
    · rfl
    · split
      · rfl
      · rw [h]
theorem rfE_all {b : List Int} {d : Dot} {c : List Int} {l : List Eff} (h3 : ¬ (upk b 18).length < 3) (hd : rfD ((upk b 18).getD 0 []) = some d) (hc : rfP ((upk b 18).getD 1 []) = c) (hf : rfFs ((upk b 18).drop 2) = some l) :
    rfE b = if mayE (d, c, l) = true ∧ putE (d, c, l) = b then some (d, c, l) else none := by
  unfold rfE
  unfold upk at h3 hd hc hf
  rcases hu : unpack b 18 with _ | ⟨ts, m⟩
  · rw [hu] at h3; simp at h3
  · rw [hu] at h3 hd hc hf
    simp only [] at h3 hd hc hf ⊢
    rw [if_neg h3, hd]
    simp only []
    rw [hf]
    simp only []
    rw [hc]
theorem rfD_yes {b : List Int} {x y : Int} (hl : (upk b 2).length = 2) (h0 : rdNum ((upk b 2).getD 0 []) = some x) (h1 : rdNum ((upk b 2).getD 1 []) = some y) : rfD b = some (x, y) := by
  obtain ⟨t0, t1, ht⟩ := len2 _ hl
  rw [rfD_upk, ht]
  rw [ht] at h0 h1
  simp only [List.getD_cons_zero, List.getD_cons_succ] at h0 h1
  simp [rdAll, h0, h1]
theorem rfD_no0 {b : List Int} (hl : (upk b 2).length = 2) (h0 : rdNum ((upk b 2).getD 0 []) = none) : rfD b = none := by
  obtain ⟨t0, t1, ht⟩ := len2 _ hl
  rw [rfD_upk, ht]
  rw [ht] at h0
  simp only [List.getD_cons_zero] at h0
  simp [rdAll, h0]
theorem rfD_no1 {b : List Int} (hl : (upk b 2).length = 2) (h1 : rdNum ((upk b 2).getD 1 []) = none) : rfD b = none := by
  obtain ⟨t0, t1, ht⟩ := len2 _ hl
  rw [rfD_upk, ht]
  rw [ht] at h1
  simp only [List.getD_cons_zero, List.getD_cons_succ] at h1
  rcases h0 : rdNum t0 with _ | x <;> simp [rdAll, h0, h1]
theorem rfD_len {b : List Int} (hl : ¬ (upk b 2).length = 2) : rfD b = none := by rw [rfD_upk, if_neg hl]
theorem rfF_len {b : List Int} (hl : ¬ (upk b 6).length = 6) : rfF b = none := by rw [rfF_upk, if_neg hl]
theorem rfF_no {b : List Int} (h : rdAll ((upk b 6).take 4) = none) : rfF b = none := by rw [rfF_upk, h]; split <;> rfl
theorem rfF_yes {b : List Int} {x y z v : Int} {t4 t5 : List Int} (hl : (upk b 6).length = 6) (h : rdAll ((upk b 6).take 4) = some [x, y, z, v]) (h4 : (upk b 6).getD 4 [] = t4) (h5 : (upk b 6).getD 5 [] = t5) : rfF b = some (x, y, t4, z, v, t5) := by rw [rfF_upk, if_pos hl, h, h4, h5]; rfl
theorem rfFs_step {ts : List (List Int)} {k : Nat} {x : Eff} {acc : List Eff} (hk : k < ts.length) (h : rfFs ts = (rfFs (ts.drop k)).map (acc ++ ·)) (hx : rfF (ts.getD k []) = some x) : rfFs ts = (rfFs (ts.drop (k + 1))).map ((acc ++ [x]) ++ ·) := by
  have e : ts.getD k [] = ts[k] := by simp [List.getD_eq_getElem?_getD, hk]
  rw [e] at hx
  rw [h, List.drop_eq_getElem_cons hk]
  simp only [rfFs, hx, Option.map_map]
  congr 1
  funext y
  simp
theorem rfFs_bad {ts : List (List Int)} {k : Nat} {acc : List Eff} (hk : k < ts.length) (h : rfFs ts = (rfFs (ts.drop k)).map (acc ++ ·)) (hx : rfF (ts.getD k []) = none) : rfFs ts = none := by
  have e : ts.getD k [] = ts[k] := by simp [List.getD_eq_getElem?_getD, hk]
  rw [e] at hx
  rw [h, List.drop_eq_getElem_cons hk]
  simp only [rfFs, hx, Option.map_none]

theorem unpR_any (a : Option Addr) (n c : Nat) (l : List Int) (most : Int) (w : World) (hA : BS w a n l) (hC : CP a n c) (hm0 : 0 ≤ most) (hm1 : most ≤ 1000) :
    Calls Try.prog 50 #[.slice a n c, .int .i64 most] w fun e w' => ∃ p cp m, e = .returned (.tuple #[.slice p (upk l most).length cp, .int .i64 m]) ∧ PC w' p (upk l most).length (upk l most) ∧ CP p (upk l most).length cp ∧ Below w.heap.size w w' := by
  refine (refUnpack_any a n c l most w hA hC hm0 hm1).mono ?_
  rintro e w1 ⟨(⟨h, rfl⟩ | ⟨qs, k, v, h, rfl, hO⟩), hb⟩
  · have e0 : upk l most = [] := by unfold upk; rw [h]
    rw [e0]
    exact ⟨none, 0, 0, rfl, ⟨rfl, by decide, .inl rfl⟩, ⟨Nat.le_refl _, by decide, fun _ => rfl⟩, hb⟩
  · have e0 : upk l most = qs.map (·.2) := by unfold upk; rw [h]
    obtain ⟨p, cp, rfl, hpc, hcp⟩ := hO.open
    rw [e0, List.length_map]
    exact ⟨p, cp, _, rfl, hpc, hcp, hb⟩
theorem unpT_any (a : Option Addr) (n c : Nat) (l : List Int) (most : Int) (w : World) (hA : BS w a n l) (hC : CP a n c) (hm0 : 0 ≤ most) (hm1 : most ≤ 1000) :
    Calls Try.prog 50 #[.slice a n c, .int .i64 most] w fun e w' => ∃ p cp m, e = .returned (.tuple #[.slice p (upk l most).length cp, .int .i64 m]) ∧ OwnT w.heap.size w' (.slice p (upk l most).length cp) (upk l most) ∧ Below w.heap.size w w' := by
  refine (refUnpack_any a n c l most w hA hC hm0 hm1).mono ?_
  rintro e w1 ⟨(⟨h, rfl⟩ | ⟨qs, k, v, h, rfl, hO⟩), hb⟩
  · have e0 : upk l most = [] := by unfold upk; rw [h]
    rw [e0]
    exact ⟨none, 0, 0, rfl, ⟨[], OwnP.nil _ _, rfl⟩, hb⟩
  · have e0 : upk l most = qs.map (·.2) := by unfold upk; rw [h]
    have hO2 := hO
    obtain ⟨p, cp, rfl, hpc, hcp⟩ := hO.open
    rw [e0, List.length_map]
    exact ⟨p, cp, _, rfl, ⟨qs, hO2, rfl⟩, hb⟩
theorem OwnT.at {N : Nat} {w : World} {p : Option Addr} {n c : Nat} {ts : List (List Int)} (h : OwnT N w (.slice p n c) ts) (i : Nat) (hi : i < n) :
    ∃ g, p = some ⟨g, 0, none⟩ ∧ N ≤ g ∧ ∃ x len cap, w.cell? ⟨g, i, none⟩ = some (.slice x len cap) ∧ BS w x len (ts.getD i []) ∧ CP x len cap ∧ ∀ a, x = some a → N ≤ a.block := by
  obtain ⟨qs, ⟨h1, h2⟩, rfl⟩ := h
  rcases h1.2 with ⟨hh, hz⟩ | ⟨g, cap, cur, hh, hb, hg, hc1, hc2, hs, ht⟩
  · cases hh; omega
  · cases hh
    have hq : qs[i]? = some qs[i] := List.getElem?_eq_getElem hi
    obtain ⟨k1, k2⟩ := h2 qs[i] (List.getElem_mem hi)
    obtain ⟨x, cap', hv, hbs, hcp⟩ := k1.open k2
    refine ⟨g, rfl, hb, x, _, cap', ?_, ?_, hcp, ?_⟩
    · rw [World.ownsRow.cellAt h1 i (by omega)]
      simp [hq, hv]
    · have e : (qs.map (·.2)).getD i [] = qs[i].2 := by simp [List.getD_eq_getElem?_getD, hq]
      rw [e]
      exact hbs
    · rw [hv] at k1
      exact own_lo k1
/-- 'append(v, x...)' of structs, at an operation. -/
theorem append_rowsO {α : Type} {enc : α → List Value} {k : Nat} {T : TypeId} {w : World} {o : Oper} {a : Act} {K : Act → World → Prop} {Q : Exit → Act → World → Prop} (s x : Operand) (t : TypeId)
    (ho : o.op = .call { callee := .builtin .append, args := #[s, x], argTypes := #[t, t] })
    (ht : Try.prog.underlying t = some (.slice T)) {z : Value} {by_ : Nat} (hi : (Try.prog.info? T).map (fun i => (i.zero, i.size, i.bytes)) = some (some z, k, by_)) (hz : z.cells.size = k) (hk0 : 0 < k) (hby : by_ ≤ 1000)
    (hk : ∀ x, (enc x).length = k) (h1 : ∀ x, ∀ v ∈ enc x, v.oneCell' = true)
    (N : Nat) (v : Value) (l m : List α) (hs : a.eval s = v) (hown : OwnR enc k T N w v l) (g len cap : Nat) (hx : a.eval x = .slice (some ⟨g, 0, none⟩) len cap) (hB : RS enc k w (some ⟨g, 0, none⟩) len m)
    (hbig : l.length + m.length ≤ 1000000) (hN : N ≤ w.heap.size)
    (h : ∀ v' w', OwnR enc k T N w' v' (l ++ m) → w.grownBy w' v.ownBlock → (∀ w0, Below N w0 w → Below N w0 w') → K (a.put o.dst v') w') : o.wp Try.prog a w K Q := by
  obtain ⟨i0, hi, hz0, hz1, hz2⟩ := info_parts hi
  have g1 := hB.1
  have hmul : (l.length + len) * by_ ≤ 1000000 * 1000 := Nat.mul_le_mul (by omega) hby
  refine wp_append_own w s x t ho N T i0 z k by_ ht hi hz0 hz1 hz2 hz hk0 v _ _ hs hown ⟨g, 0, none⟩ len cap (m.flatMap enc) hx (by rw [flatR_len enc k hk, g1]) ?_ (flatR_one enc h1 m) (by rw [← g1]; unfold maxLen; omega) (by omega) hN ?_
  · intro j u hj
    have h3 : (⟨g, 0, none⟩ : Addr).add j = ⟨g, 0 + j, none⟩ := by
      by_cases hj0 : j = 0
      · subst hj0; simp [Addr.add]
      · simp [Addr.add, hj0]
    rw [h3]
    exact hB.cells j u hj hk hk0
  · intro v' w' h1 h2 _
    refine h v' w' ?_ h2 (fun w0 hb => hb.grown h2 hN (fun j hj => (World.ownsRow.lt hown j hj).1))
    have e : l.length + len = (l ++ m).length := by rw [List.length_append, g1]
    rw [e, ← List.flatMap_append] at h1
    exact h1
theorem numR_any (a : Option Addr) (n c : Nat) (l : List Int) (w : World) (hA : BS w a n l) (hC : CP a n c) :
    Calls Try.prog 51 #[.slice a n c] w fun e w' => ∃ (x : Int) (b : Bool), e = .returned (.tuple #[.int .i64 x, .bool b]) ∧ rdNum l = (if b = true then some x else none) ∧ Below w.heap.size w w' := by
  rcases hr : rdNum l with _ | x
  · refine (numR_bad a n c l w hr hA hC).mono ?_
    rintro e w1 ⟨rfl, hb⟩
    exact ⟨0, false, rfl, rfl, hb⟩
  · refine (numR_ok a n c l w x hr hA hC).mono ?_
    rintro e w1 ⟨rfl, hb⟩
    exact ⟨x, true, rfl, rfl, hb⟩
theorem readR_any (a : Option Addr) (n c : Nat) (l : List Int) (w : World) (hA : BS w a n l) (hC : CP a n c) :
    Calls Try.prog 52 #[.slice a n c] w fun e w' => ∃ p k q m, e = .returned (.tuple #[.slice p k q, .int .i64 m]) ∧ NS w' p k (rfP l) ∧ CP p k q ∧ (∀ a, p = some a → w.heap.size ≤ a.block) ∧ Below w.heap.size w w' := by
  refine (read_ref a n c l w hA hC).mono ?_
  rintro e w1 ⟨(⟨h, rfl⟩ | ⟨cc, m, v, h, rfl, hO⟩), hb⟩
  · have e0 : rfP l = [] := by unfold rfP; rw [h]
    rw [e0]
    exact ⟨none, 0, 0, 0, rfl, NS.nil _ _, ⟨Nat.le_refl _, by decide, fun _ => rfl⟩, (fun a ha => by cases ha), hb⟩
  · have e0 : rfP l = cc := by unfold rfP; rw [h]
    obtain ⟨p, cp, rfl, hns, hcp⟩ := hO.open
    rw [e0]
    exact ⟨p, _, cp, _, rfl, hns, hcp, fun a ha => own_lo hO a ha, hb⟩
/-- The document's answer of bytes. -/
def OutD (w : World) (b : List Int) (e : Ending) (w' : World) : Prop :=
  ((rfE b = none ∧ e = .returned (.tuple #[.agg #[.int .i64 0, .int .i64 0, .slice none 0 0, .slice none 0 0], .bool false])) ∨
    ∃ (x y : Int) (pa : Option Addr) (na ca : Nat) (pe : Option Addr) (ne ce : Nat) (c : List Int) (l : List Eff), rfE b = some ((x, y), c, l) ∧ e = .returned (.tuple #[.agg #[.int .i64 x, .int .i64 y, .slice pa na ca, .slice pe ne ce], .bool true]) ∧ NS w' pa na c ∧ CP pa na ca ∧ ES w' pe ne l ∧ CP pe ne ce) ∧ Below w.heap.size w w'
/-- All but two blocks are as they were. -/
def KR (g : Nat) (r : Option Nat) (u W : World) : Prop := ∀ p v, u.cell? p = some v → p.block ≠ g → some p.block ≠ r → W.cell? p = some v
theorem KR.drew0 (g : Nat) (r : Option Nat) (u : World) : KR g r u u.drew := fun _ _ h _ _ => h
theorem KR.alloc {g : Nat} {r : Option Nat} {u W : World} (h : KR g r u W) (o : Obj) : KR g r u (W.alloc o) := fun p v hp h1 h2 => cell_old o (h p v hp h1 h2)
theorem KR.grown {g : Nat} {r : Option Nat} {u W W' : World} (h : KR g r u W) (k : W.grownBy W' r) : KR g r u W' := fun p v hp h1 h2 => gcell k (h p v hp h1 h2) h2
theorem KR.set {g : Nat} {r : Option Nat} {u W : World} (h : KR g r u W) (i : Nat) (x : Value) : KR g r u (W.setCell ⟨g, i, none⟩ x) := by
  intro p v hp h1 h2
  rw [World.cell?_setCell_far W ⟨g, i, none⟩ p x (fun e => h1 e.symm)]
  exact h p v hp h1 h2
theorem rcell {g : Nat} {r : Option Nat} {u W : World} (h : KR g r u W) {p : Addr} {v : Value} (hp : u.cell? p = some v) (h1 : p.block ≠ g) (h2 : some p.block ≠ r) : W.cell? p = some v := h p v hp h1 h2
theorem BS.kr {g : Nat} {r : Option Nat} {u W : World} {p : Option Addr} {n : Nat} {l : List Int} (h : BS u p n l) (hk : KR g r u W) (hf : ∀ a, p = some a → a.block ≠ g ∧ some a.block ≠ r) : BS W p n l := by
  obtain ⟨h1, h2, h3, h4⟩ := h
  refine ⟨h1, h2, h3, ?_⟩
  rcases h4 with h0 | ⟨b, off, ha, hc⟩
  · exact .inl h0
  · exact .inr ⟨b, off, ha, fun i hi => hk _ _ (hc i hi) (hf _ ha).1 (hf _ ha).2⟩

set_option maxHeartbeats 16000000 in
set_option maxRecDepth 100000 in
theorem GetR_any (a : Option Addr) (n cap : Nat) (b : List Int) (w : World) (hA : BS w a n b) (hC : CP a n cap) :
    Calls Try.prog 20 #[.slice a n cap] w (OutD w b) := by
  have HP := hide (unpR_any a n cap b 18 (w.alloc bxE0) (hA.alloc _) hC (by decide) (by decide))
  have HU := hide (bel1 w bxE0)
  have HX := hide (BX.new w _ rfl #[.int .i64 0, .int .i64 0, .slice none 0 0, .slice none 0 0] 28)
  have hby : Hid (By b) := hA.2.2.1
  have HA := hide hA
  clear hA hC
  obtain ⟨ts, hts⟩ : ∃ ts, upk b 18 = ts := ⟨_, rfl⟩
  have hl18 : ts.length ≤ 18 := by have h := upk_le hby.out (most := 18) (by decide); rw [hts] at h; omega
  have HBY : Hid (∀ t ∈ ts, By t) := by have h := upk_by hby.out 18; rw [hts] at h; exact h
  rw [hts] at HP
  have HTS := hide hts
  clear hts
  obtain ⟨t, ht⟩ : ∃ t, ts.length = t := ⟨_, rfl⟩
  have HT := hide ht
  rw [ht] at HP hl18
  clear ht
  go_enter Try.func20, Try.ntmps20
  go_wp2_with (go_at_call 50; refine Stop.at ?_)
  unfold Stop
  refine HP.out.mono ?_
  rintro e u ⟨p, cp, m0, rfl, hpc, hcp, hb⟩
  replace HX := hide (HX.out.below hb)
  replace HU := hide (bel_next HU.out hb)
  clear hb HP
  by_cases h3 : (t : Int) < 3
  · have HE := hide (rfE_short (b := b) (by rw [HTS.out, HT.out]; omega))
    have e0 := HX.out.cell 0 _ rfl
    have e1 := HX.out.cell 1 _ rfl
    have e2 := HX.out.cell 2 _ rfl
    have e3 := HX.out.cell 3 _ rfl
    have z0 := HX.out.free 0
    have z1 := HX.out.free 1
    have z2 := HX.out.free 2
    have z3 := HX.out.free 3
    go_wp2
    refine bodyPost_ret (results_ct rfl _ _ _ _ _ _ _ _ rfl rfl (HX.out.put4 _ _ _ _) Try.underlying28 rfl Try.sizeEvt) rfl ?_
    exact ⟨.inl ⟨HE.out, rfl⟩, bel_put4 HU.out (Nat.le_refl _) _ _ _ _⟩
  rcases hpc.2.2 with h0 | ⟨bt, ot, rfl, hc⟩
  · omega
  obtain ⟨q0, n0, k0, g0, hb0, hc0⟩ := hc 0 (by omega)
  obtain ⟨q1, n1, k1, g1, hb1, hc1⟩ := hc 1 (by omega)
  rw [Nat.add_zero] at g0
  have HPC := hide hpc
  have HD := hide (unpR_any q0 n0 k0 _ 2 u hb0 hc0 (by decide) (by decide))
  have B1 := hide hb1
  have C1 := hide hc1
  have hby0 : Hid (By (ts.getD 0 [])) := hb0.2.2.1
  have hct : 3 ≤ cp := by have := hcp.1; omega
  have hcm : cp ≤ 9223372036854775807 := hcp.2.1
  clear hpc hcp hc hb0 hb1 hc0 hc1
  obtain ⟨ds, hds⟩ : ∃ ds, upk (ts.getD 0 []) 2 = ds := ⟨_, rfl⟩
  have hl2 : ds.length ≤ 2 := by have h := upk_le hby0.out (most := 2) (by decide); rw [hds] at h; omega
  rw [hds] at HD
  have HDS := hide hds
  clear hds
  obtain ⟨td, htd⟩ : ∃ td, ds.length = td := ⟨_, rfl⟩
  have HTD := hide htd
  rw [htd] at HD hl2
  clear htd
  go_wp2_with (go_at_call 50; refine Stop.at ?_)
  unfold Stop
  refine HD.out.mono ?_
  rintro e u1 ⟨pd, cd, m1, rfl, hpc, hcp, hb⟩
  replace HX := hide (HX.out.below hb)
  replace HU := hide (bel_next HU.out hb)
  replace HPC := hide (HPC.out.below hb)
  replace B1 := hide (B1.out.below hb)
  replace g1 := bcell hb g1
  clear hb HD g0
  by_cases h2 : td = 2
  · subst h2
    rcases hpc.2.2 with h0 | ⟨bd, od, rfl, hc⟩
    · omega
    obtain ⟨x0, l0, k0', f0, hb0, hc0⟩ := hc 0 (by omega)
    obtain ⟨x1, l1, k1', f1, hb1, hc1⟩ := hc 1 (by omega)
    rw [Nat.add_zero] at f0
    have HN0 := hide (numR_any x0 l0 k0' _ u1 hb0 hc0)
    have D1 := hide hb1
    have DC1 := hide hc1
    have hcd : 2 ≤ cd := hcp.1
    have hcdm : cd ≤ 9223372036854775807 := hcp.2.1
    clear hpc hcp hc hb0 hb1 hc0 hc1
    go_wp2_with (go_at_call 51; refine Stop.at ?_)
    unfold Stop
    refine HN0.out.mono ?_
    rintro e u2 ⟨x, b0, rfl, hx, hb⟩
    replace HX := hide (HX.out.below hb)
    replace HU := hide (bel_next HU.out hb)
    replace HPC := hide (HPC.out.below hb)
    replace B1 := hide (B1.out.below hb)
    replace D1 := hide (D1.out.below hb)
    replace g1 := bcell hb g1
    replace f1 := bcell hb f1
    have HX0 := hide hx
    clear hb hx HN0 f0
    have HN1 := hide (numR_any x1 l1 k1' _ u2 D1.out DC1.out)
    go_wp2_with (go_at_call 51; refine Stop.at ?_)
    unfold Stop
    refine HN1.out.mono ?_
    rintro e u3 ⟨y, b1, rfl, hx, hb⟩
    replace HX := hide (HX.out.below hb)
    replace HU := hide (bel_next HU.out hb)
    replace HPC := hide (HPC.out.below hb)
    replace B1 := hide (B1.out.below hb)
    replace g1 := bcell hb g1
    have HX1 := hide hx
    clear hb hx HN1 f1 D1 DC1
    have HR := hide (readR_any q1 n1 k1 _ u3 B1.out C1.out)
    have hgu := hide HX.out.size
    go_wp2_with (go_at_call 52; refine Stop.at ?_)
    unfold Stop
    refine HR.out.mono ?_
    rintro e u4 ⟨pa, na, ca, m4, rfl, hns, hca, hla, hb⟩
    replace HX := hide (HX.out.below hb)
    replace HU := hide (bel_next HU.out hb)
    replace HPC := hide (HPC.out.below hb)
    have HNS := hide hns
    have HCA := hide hca
    have hfa : Hid (∀ a, pa = some a → a.block ≠ w.heap.size) := fun a ha => by have h1 := hla a ha; have h2 := hgu.out; omega
    clear hb hns hca hla HR g1 B1 C1
    have hupl : Hid ((upk (ts.getD 0 []) 2).length = 2) := by unfold Hid; rw [HDS.out, HTD.out]
    rw [← HDS.out] at HX0 HX1
    rw [← HTS.out] at HX0 HX1 hupl HDS
    cases b0
    · have HE := hide (rfE_d (rfD_no0 hupl.out HX0.out))
      have e0 := HX.out.cell 0 _ rfl
      have e1 := HX.out.cell 1 _ rfl
      have e2 := HX.out.cell 2 _ rfl
      have e3 := HX.out.cell 3 _ rfl
      have z0 := HX.out.free 0
      have z1 := HX.out.free 1
      have z2 := HX.out.free 2
      have z3 := HX.out.free 3
      go_wp2
      refine bodyPost_ret (results_ct rfl _ _ _ _ _ _ _ _ rfl rfl (HX.out.put4 _ _ _ _) Try.underlying28 rfl Try.sizeEvt) rfl ?_
      exact ⟨.inl ⟨HE.out, rfl⟩, bel_put4 HU.out (Nat.le_refl _) _ _ _ _⟩
    cases b1
    · have HE := hide (rfE_d (rfD_no1 hupl.out HX1.out))
      have e0 := HX.out.cell 0 _ rfl
      have e1 := HX.out.cell 1 _ rfl
      have e2 := HX.out.cell 2 _ rfl
      have e3 := HX.out.cell 3 _ rfl
      have z0 := HX.out.free 0
      have z1 := HX.out.free 1
      have z2 := HX.out.free 2
      have z3 := HX.out.free 3
      go_wp2
      refine bodyPost_ret (results_ct rfl _ _ _ _ _ _ _ _ rfl rfl (HX.out.put4 _ _ _ _) Try.underlying28 rfl Try.sizeEvt) rfl ?_
      exact ⟨.inl ⟨HE.out, rfl⟩, bel_put4 HU.out (Nat.le_refl _) _ _ _ _⟩
    have HDD := hide (rfD_yes hupl.out HX0.out HX1.out)
    clear HX0 HX1 hupl HDS HTD
    obtain ⟨c, hcc⟩ : ∃ c, rfP (ts.getD 1 []) = c := ⟨_, rfl⟩
    rw [hcc] at HNS
    have HCC : Hid (rfP ((upk b 18).getD 1 []) = c) := by unfold Hid; rw [HTS.out]; exact hcc
    clear hcc
    have HX9 := hide (BX.new u4 _ rfl #[.int .i64 x, .int .i64 y, .slice pa na ca, .slice none 0 0] 28)
    have HB9 := hide (bel1 u4 (bxE x y pa na ca none 0 0))
    obtain ⟨m2, hm2⟩ : ∃ m2, t = m2 + 2 := ⟨t - 2, by omega⟩
    subst hm2
    go_wp2
    go_loopw [15] (fun i wr => ∃ (k : Nat) (acc : List Eff) (vE : Value), k ≤ m2 ∧ i = .int .i64 ((k + 2 : Nat) : Int) ∧ Hid (acc.length = k) ∧ Hid (BX wr u4.heap.size #[.int .i64 x, .int .i64 y, .slice pa na ca, vE] 28) ∧ Hid (OwnR encF 6 35 u4.heap.size wr vE acc) ∧ Hid (∀ x ∈ acc, ByF x) ∧ Hid (rfFs (ts.drop 2) = (rfFs ((ts.drop 2).drop k)).map (acc ++ ·)) ∧ Hid (Below u4.heap.size u4 wr)) (fun i _ => m2 + 2 - (intOf i).toNat)
    case atStart => exact ⟨0, [], _, by omega, rfl, rfl, HX9, OwnR.nil _ _, (fun x hx => by cases hx), by unfold Hid; simp, HB9⟩
    case round =>
      obtain ⟨k, acc, vE, hk, rfl, hal, hX, hO, hBF, hR, hB⟩ := hrel
      obtain ⟨pe, ce, hv, hes, hcpe⟩ := hO.out.open encF_len
      subst hv
      by_cases hlt : k < m2
      · obtain ⟨wo, hwo⟩ : ∃ x, x = wr := ⟨wr, rfl⟩
        subst hwo
        rcases HPC.out.2.2 with h0 | ⟨bt', ot', hh, hc⟩
        · omega
        cases hh
        obtain ⟨q, len, cpx, hcell, hbs, hcp⟩ := hc (k + 2) (by omega)
        have hck := bcell hB.out hcell
        have HBS := hide (hbs.below hB.out)
        have hgd : (ts.drop 2).getD k [] = ts.getD (k + 2) [] := by simp [List.getD_eq_getElem?_getD, Nat.add_comm]
        rw [← hgd] at HBS
        have hkl : k < (ts.drop 2).length := by rw [List.length_drop]; have := HT.out; omega
        have hkl2 := hide hkl
        have hbt : By ((ts.drop 2).getD k []) := HBS.out.2.2.1
        obtain ⟨ps, hps⟩ : ∃ ps, upk ((ts.drop 2).getD k []) 6 = ps := ⟨_, rfl⟩
        have HPB : Hid (∀ t ∈ ps, By t) := by have h := upk_by hbt 6; rw [hps] at h; exact h
        have hl6 : ps.length ≤ 6 := by have h := upk_le hbt (most := 6) (by decide); rw [hps] at h; omega
        have HUP := hide (unpT_any q len cpx _ 6 wo HBS.out hcp (by decide) (by decide))
        rw [hps] at HUP
        have HPS := hide hps
        obtain ⟨tp, htp⟩ : ∃ tp, ps.length = tp := ⟨_, rfl⟩
        have HTP := hide htp
        rw [htp] at HUP hl6
        have hlt3 := hide (fun j hj => (World.ownsRow.lt hO.out j hj).2)
        clear hc hcell hbs hcp HBS hgd hkl hbt hps htp
        go_wp2_with (go_at_call 50; refine Stop.at ?_)
        unfold Stop
        refine HUP.out.mono ?_
        rintro e w3 ⟨pp, cpp, mp, rfl, hOT, hb⟩
        have HX3 := hide ((HX.out.below hB.out).below hb)
        have HU3 := hide (bel_next (bel_next HU.out hB.out) hb)
        have hXg := hide hX.out.size
        have hX3 := hide (hX.out.below hb)
        have hO3 := hide (hO.out.below hb)
        have hB3 := hide (bel_next hB.out hb)
        have hszb := hide hb.size
        clear hb HUP hX hO hes hB
        by_cases h6 : tp = 6
        · subst h6
          have HO6 := hide hOT
          obtain ⟨gp, hgp, hNp, _⟩ := hOT.at 0 (by decide)
          subst hgp
          have hcpm : 6 ≤ cpp := by
            obtain ⟨pq, cq, hq1, hq2, hq3⟩ := hOT.open
            have hh := (Value.slice.inj hq1).2.2
            have := hq3.1
            rw [HTP.out] at this
            omega
          have hcpx : cpp ≤ 9223372036854775807 := by
            obtain ⟨pq, cq, hq1, hq2, hq3⟩ := hOT.open
            have hh := (Value.slice.inj hq1).2.2
            have := hq3.2.1
            unfold maxLen at this
            omega
          clear hOT
          have NI := hide (OwnN.made w3 w3.heap.size _ rfl (Nat.le_refl _))
          have HBI := hide (bel1 w3 (.cells #[] 3))
          go_wp2
          go_loopw [18, 19] (fun v i wr2 => ∃ (j : Nat) (an : List Int), j ≤ 4 ∧ i = .int .i64 j ∧ Hid (an.length = j) ∧ Hid (OwnN w3.heap.size wr2 v an) ∧ Hid (rdAll (ps.take 4) = (rdAll ((ps.take 4).drop j)).map (an ++ ·)) ∧ Hid (Below w3.heap.size w3 wr2)) (fun _ i _ => 4 - (intOf i).toNat)
          case atStart => exact ⟨0, [], by omega, rfl, rfl, NI, by unfold Hid; simp, HBI⟩
          case round =>
            obtain ⟨j, an, hj, rfl, hja, hOn, hRn, hBn⟩ := hrel
            obtain ⟨pv, cv, hv, hnn, _⟩ := hOn.out.open
            subst hv
            by_cases hj4 : j < 4
            · obtain ⟨gp', hgp', _, xt, lt, ct, hct2, hbt2, hcpt, _⟩ := HO6.out.at j (by omega)
              cases hgp'
              replace hct2 := bcell hBn.out hct2
              have hgj : (ps.take 4).getD j [] = ps.getD j [] := by simp [List.getD_eq_getElem?_getD, hj4]
              have HBT := hide (hbt2.below hBn.out)
              rw [← hgj] at HBT
              have HNR := hide (numR_any xt lt ct _ wr HBT.out hcpt)
              have hjl : j < (ps.take 4).length := by rw [List.length_take, HTP.out]; omega
              have hjl2 := hide hjl
              have hsz2 := hBn.out.size
              clear hgj HBT hbt2 hcpt hjl hnn
              go_wp2_with (go_at_call 51; refine Stop.at ?_)
              unfold Stop
              refine HNR.out.mono ?_
              rintro e w4 ⟨xv, bv, rfl, hrd, hb⟩
              cases bv
              · have HE : Hid (rfE b = none) := rfE_f (by rw [HTS.out]; exact rfFs_bad hkl2.out hR.out (rfF_no (by rw [HPS.out]; exact rdAll_bad hjl2.out hRn.out hrd)))
                have HX4 := hide ((HX3.out.below hBn.out).below hb)
                have HU4 := hide (bel_next (bel_next HU3.out hBn.out) hb)
                have e0 := HX4.out.cell 0 _ rfl
                have e1 := HX4.out.cell 1 _ rfl
                have e2 := HX4.out.cell 2 _ rfl
                have e3 := HX4.out.cell 3 _ rfl
                have z0 := HX4.out.free 0
                have z1 := HX4.out.free 1
                have z2 := HX4.out.free 2
                have z3 := HX4.out.free 3
                go_wp2
                refine bodyPost_ret (results_ct rfl _ _ _ _ _ _ _ _ rfl rfl (HX4.out.put4 _ _ _ _) Try.underlying28 rfl Try.sizeEvt) rfl ?_
                exact ⟨.inl ⟨HE.out, rfl⟩, bel_put4 HU4.out (Nat.le_refl _) _ _ _ _⟩
              · have HR2 := hide (rdAll_step hjl2.out hRn.out hrd)
                have hsz4 := Nat.le_trans hsz2 hb.size
                have hO4 := hide (hOn.out.below hb)
                have hB4 := hide (bel_next hBn.out hb)
                clear hb hrd HNR hRn hOn hBn
                go_wp2_with (at_builtin; refine Stop.at ?_)
                unfold Stop
                refine append_int rfl _ _ rfl w3.heap.size (.slice pv an.length cv) an xv _ rfl rfl hO4.out rfl (by have := hja.out; omega) hsz4 ?_
                intro v' w5 y1 y2
                have G1 := hide y1
                have G2 := hide (y2 _ hB4.out)
                clear y1 y2 hO4 hB4
                go_wp2
                go_roundw
                case rel => exact ⟨j + 1, an ++ [xv], by omega, by go_num, by unfold Hid; simp [hja.out], G1, HR2, G2⟩
                case measure => simp [intOf]; omega
            · have hj5 : j = 4 := by omega
              subst hj5
              have hall : rdAll (ps.take 4) = some an := by
                have h := hRn.out
                rw [show (ps.take 4).drop 4 = [] from List.drop_of_length_le (by rw [List.length_take]; omega)] at h
                simpa [rdAll] using h
              obtain ⟨y0, y1, y2, y3, rfl⟩ := len4 an hja.out
              obtain ⟨gp', hgp', _, x4, n4, k4, g4, hb4, hc4, hf4⟩ := HO6.out.at 4 (by decide)
              cases hgp'
              obtain ⟨gp', hgp', _, x5, n5, k5, g5, hb5, hc5, hf5⟩ := HO6.out.at 5 (by decide)
              cases hgp'
              obtain ⟨t4, ht4⟩ : ∃ t, ps.getD 4 [] = t := ⟨_, rfl⟩
              obtain ⟨t5, ht5⟩ : ∃ t, ps.getD 5 [] = t := ⟨_, rfl⟩
              have hrf := rfF_yes (b := (ts.drop 2).getD k []) (t4 := t4) (t5 := t5) (by rw [HPS.out]; exact HTP.out) (by rw [HPS.out]; exact hall) (by rw [HPS.out]; exact ht4) (by rw [HPS.out]; exact ht5)
              have HR2 := hide (rfFs_step hkl2.out hR.out hrf)
              rw [ht4] at hb4
              rw [ht5] at hb5
              have hbF : Hid (ByF (y0, y1, t4, y2, y3, t5)) := ⟨hb4.2.2.1, hb5.2.2.1⟩
              have HB4 := hide (hb4.below hBn.out)
              have HB5 := hide (hb5.below hBn.out)
              replace g4 := bcell hBn.out g4
              replace g5 := bcell hBn.out g5
              have hX9 := hide (hX3.out.below hBn.out)
              have hO9 := hide (hO3.out.below hBn.out)
              have hB9 := hide (bel_next hB3.out hBn.out)
              rcases hnn.2.2 with h0 | ⟨bn, on, rfl, hcl⟩
              · simp at h0
              have f0 := hcl 0 (by simp)
              have f1 := hcl 1 (by simp)
              have f2 := hcl 2 (by simp)
              have f3 := hcl 3 (by simp)
              simp only [Nat.add_zero, List.getD_cons_zero, List.getD_cons_succ] at f0 f1 f2 f3
              have hbn := own_far hOn.out
              have hrl : ∀ q, w3.heap.size ≤ q ∨ wo.heap.size ≤ q → q ≠ u4.heap.size ∧ some q ≠ Value.ownBlock (.slice pe acc.length ce) := by
                intro q hq
                have h1 := hXg.out
                have h2 := hszb.out
                refine ⟨by omega, fun e => ?_⟩
                have := hlt3.out q e.symm
                omega
              have hn1 := hrl bn (.inl hbn)
              have hn2 := hrl gp (.inr hNp)
              have hk4 : Hid (∀ a, x4 = some a → a.block ≠ u4.heap.size ∧ some a.block ≠ Value.ownBlock (.slice pe acc.length ce)) := fun a ha => hrl _ (.inr (hf4 a ha))
              have hk5 : Hid (∀ a, x5 = some a → a.block ≠ u4.heap.size ∧ some a.block ≠ Value.ownBlock (.slice pe acc.length ce)) := fun a ha => hrl _ (.inr (hf5 a ha))
              have hsz9 := hB9.out.size
              have hoff := hO9.out.off hX9.out (by decide)
              have e3 := hX9.out.cell 3 _ rfl
              clear hnn hcl hRn hall hrf hb4 hb5 hc4 hc5 hf4 hf5 hrl hR hOn
              generalize hww : wr = u9 at *
              clear hww
              have hlen4 : ([y0, y1, y2, y3] : List Int).length = 4 := rfl
              simp only [hlen4]
              go_wp2_with fail
              refine wp_region_held_drew (S := fun W => KR u4.heap.size (Value.ownBlock (.slice pe acc.length ce)) u9 W) (by kernel_rfl) (KR.drew0 _ _ _) (fun hS0 => ?_)
              refine takeInH 0 113 ?v1 rfl rfl (by kernel_rfl) (by kernel_rfl) (by kernel_rfl) (fun _ _ _ h => h) (by kernel_rfl) hS0 ?hy1 ?_
              case hy1 => (intro W hW; clear hW; go_simp; try rfl)
              simp only [Act.put, List.setIfInBounds_toArray, List.set_cons_zero, List.set_cons_succ]
              refine takeInH 2 115 ?v2 rfl rfl (by kernel_rfl) (by kernel_rfl) (by kernel_rfl) (fun _ _ _ h => h) (by kernel_rfl) hS0 ?hy2 ?_
              case hy2 => (intro W hW; clear hW; go_simp; try rfl)
              simp only [Act.put, List.setIfInBounds_toArray, List.set_cons_zero, List.set_cons_succ]
              refine takeInH 3 116 ?v3 rfl rfl (by kernel_rfl) (by kernel_rfl) (by kernel_rfl) (fun _ _ _ h => h) (by kernel_rfl) hS0 ?hy3 ?_
              case hy3 => (intro W hW; clear hW; go_simp; try rfl)
              simp only [Act.put, List.setIfInBounds_toArray, List.set_cons_zero, List.set_cons_succ]
              refine takeInH 4 117 ?v4 rfl rfl (by kernel_rfl) (by kernel_rfl) (by kernel_rfl) (fun _ _ _ h => h) (by kernel_rfl) hS0 ?hy4 ?_
              case hy4 => (intro W hW; have e0 := (rcell hW f0 hn1.1 hn1.2); have e1 := (rcell hW f1 hn1.1 hn1.2); have e2 := (rcell hW f2 hn1.1 hn1.2); have e3 := (rcell hW f3 hn1.1 hn1.2); have e4 := (rcell hW g4 hn2.1 hn2.2); have e5 := (rcell hW g5 hn2.1 hn2.2); clear hW; go_simp; try rfl)
              simp only [Act.put, List.setIfInBounds_toArray, List.set_cons_zero, List.set_cons_succ]
              refine takeInH 5 118 ?v5 rfl rfl (by kernel_rfl) (by kernel_rfl) (by kernel_rfl) (fun _ _ _ h => h) (by kernel_rfl) hS0 ?hy5 ?_
              case hy5 => (intro W hW; clear hW; go_simp; try rfl)
              simp only [Act.put, List.setIfInBounds_toArray, List.set_cons_zero, List.set_cons_succ]
              refine takeInH 6 119 ?v6 rfl rfl (by kernel_rfl) (by kernel_rfl) (by kernel_rfl) (fun _ _ _ h => h) (by kernel_rfl) hS0 ?hy6 ?_
              case hy6 => (intro W hW; clear hW; go_simp; try rfl)
              simp only [Act.put, List.setIfInBounds_toArray, List.set_cons_zero, List.set_cons_succ]
              refine takeInH 7 120 ?v7 rfl rfl (by kernel_rfl) (by kernel_rfl) (by kernel_rfl) (fun _ _ _ h => h) (by kernel_rfl) hS0 ?hy7 ?_
              case hy7 => (intro W hW; have e0 := (rcell hW f0 hn1.1 hn1.2); have e1 := (rcell hW f1 hn1.1 hn1.2); have e2 := (rcell hW f2 hn1.1 hn1.2); have e3 := (rcell hW f3 hn1.1 hn1.2); have e4 := (rcell hW g4 hn2.1 hn2.2); have e5 := (rcell hW g5 hn2.1 hn2.2); clear hW; go_simp; try rfl)
              simp only [Act.put, List.setIfInBounds_toArray, List.set_cons_zero, List.set_cons_succ]
              refine takeInH 8 121 ?v8 rfl rfl (by kernel_rfl) (by kernel_rfl) (by kernel_rfl) (fun _ _ _ h => h) (by kernel_rfl) hS0 ?hy8 ?_
              case hy8 => (intro W hW; clear hW; go_simp; try rfl)
              simp only [Act.put, List.setIfInBounds_toArray, List.set_cons_zero, List.set_cons_succ]
              refine takeInH 9 122 ?v9 rfl rfl (by kernel_rfl) (by kernel_rfl) (by kernel_rfl) (fun _ _ _ h => h) (by kernel_rfl) hS0 ?hy9 ?_
              case hy9 => (intro W hW; clear hW; go_simp; try rfl)
              simp only [Act.put, List.setIfInBounds_toArray, List.set_cons_zero, List.set_cons_succ]
              refine takeInH 10 123 ?v10 rfl rfl (by kernel_rfl) (by kernel_rfl) (by kernel_rfl) (fun _ _ _ h => h) (by kernel_rfl) hS0 ?hy10 ?_
              case hy10 => (intro W hW; have e0 := (rcell hW f0 hn1.1 hn1.2); have e1 := (rcell hW f1 hn1.1 hn1.2); have e2 := (rcell hW f2 hn1.1 hn1.2); have e3 := (rcell hW f3 hn1.1 hn1.2); have e4 := (rcell hW g4 hn2.1 hn2.2); have e5 := (rcell hW g5 hn2.1 hn2.2); clear hW; go_simp; try rfl)
              simp only [Act.put, List.setIfInBounds_toArray, List.set_cons_zero, List.set_cons_succ]
              refine takeInH 11 124 ?v11 rfl rfl (by kernel_rfl) (by kernel_rfl) (by kernel_rfl) (fun _ _ _ h => h) (by kernel_rfl) hS0 ?hy11 ?_
              case hy11 => (intro W hW; clear hW; go_simp; try rfl)
              simp only [Act.put, List.setIfInBounds_toArray, List.set_cons_zero, List.set_cons_succ]
              refine takeInH 12 125 ?v12 rfl rfl (by kernel_rfl) (by kernel_rfl) (by kernel_rfl) (fun _ _ _ h => h) (by kernel_rfl) hS0 ?hy12 ?_
              case hy12 => (intro W hW; clear hW; go_simp; try rfl)
              simp only [Act.put, List.setIfInBounds_toArray, List.set_cons_zero, List.set_cons_succ]
              refine takeInH 13 126 ?v13 rfl rfl (by kernel_rfl) (by kernel_rfl) (by kernel_rfl) (fun _ _ _ h => h) (by kernel_rfl) hS0 ?hy13 ?_
              case hy13 => (intro W hW; have e0 := (rcell hW f0 hn1.1 hn1.2); have e1 := (rcell hW f1 hn1.1 hn1.2); have e2 := (rcell hW f2 hn1.1 hn1.2); have e3 := (rcell hW f3 hn1.1 hn1.2); have e4 := (rcell hW g4 hn2.1 hn2.2); have e5 := (rcell hW g5 hn2.1 hn2.2); clear hW; go_simp; try rfl)
              simp only [Act.put, List.setIfInBounds_toArray, List.set_cons_zero, List.set_cons_succ]
              refine takeInH 14 127 ?v14 rfl rfl (by kernel_rfl) (by kernel_rfl) (by kernel_rfl) (fun _ _ _ h => h) (by kernel_rfl) hS0 ?hy14 ?_
              case hy14 => (intro W hW; clear hW; go_simp; try rfl)
              simp only [Act.put, List.setIfInBounds_toArray, List.set_cons_zero, List.set_cons_succ]
              refine takeInH 15 128 ?v15 rfl rfl (by kernel_rfl) (by kernel_rfl) (by kernel_rfl) (fun _ _ _ h => h) (by kernel_rfl) hS0 ?hy15 ?_
              case hy15 => (intro W hW; clear hW; go_simp; try rfl)
              simp only [Act.put, List.setIfInBounds_toArray, List.set_cons_zero, List.set_cons_succ]
              refine takeInH 16 129 ?v16 rfl rfl (by kernel_rfl) (by kernel_rfl) (by kernel_rfl) (fun _ _ _ h => h) (by kernel_rfl) hS0 ?hy16 ?_
              case hy16 => (intro W hW; have e0 := (rcell hW f0 hn1.1 hn1.2); have e1 := (rcell hW f1 hn1.1 hn1.2); have e2 := (rcell hW f2 hn1.1 hn1.2); have e3 := (rcell hW f3 hn1.1 hn1.2); have e4 := (rcell hW g4 hn2.1 hn2.2); have e5 := (rcell hW g5 hn2.1 hn2.2); clear hW; go_simp; try rfl)
              simp only [Act.put, List.setIfInBounds_toArray, List.set_cons_zero, List.set_cons_succ]
              refine takeInH 17 130 ?v17 rfl rfl (by kernel_rfl) (by kernel_rfl) (by kernel_rfl) (fun _ _ _ h => h) (by kernel_rfl) hS0 ?hy17 ?_
              case hy17 => (intro W hW; have q := conv_str (c := k4) (HB4.out.kr hW hk4.out); clear hW; go_simp; try rfl)
              simp only [Act.put, List.setIfInBounds_toArray, List.set_cons_zero, List.set_cons_succ]
              refine takeInH 18 131 ?v18 rfl rfl (by kernel_rfl) (by kernel_rfl) (by kernel_rfl) (fun _ _ _ h => h) (by kernel_rfl) hS0 ?hy18 ?_
              case hy18 => (intro W hW; clear hW; go_simp; try rfl)
              simp only [Act.put, List.setIfInBounds_toArray, List.set_cons_zero, List.set_cons_succ]
              refine takeInH 19 132 ?v19 rfl rfl (by kernel_rfl) (by kernel_rfl) (by kernel_rfl) (fun _ _ _ h => h) (by kernel_rfl) hS0 ?hy19 ?_
              case hy19 => (intro W hW; clear hW; go_simp; try rfl)
              simp only [Act.put, List.setIfInBounds_toArray, List.set_cons_zero, List.set_cons_succ]
              refine takeInH 20 133 ?v20 rfl rfl (by kernel_rfl) (by kernel_rfl) (by kernel_rfl) (fun _ _ _ h => h) (by kernel_rfl) hS0 ?hy20 ?_
              case hy20 => (intro W hW; have e0 := (rcell hW f0 hn1.1 hn1.2); have e1 := (rcell hW f1 hn1.1 hn1.2); have e2 := (rcell hW f2 hn1.1 hn1.2); have e3 := (rcell hW f3 hn1.1 hn1.2); have e4 := (rcell hW g4 hn2.1 hn2.2); have e5 := (rcell hW g5 hn2.1 hn2.2); clear hW; go_simp; try rfl)
              simp only [Act.put, List.setIfInBounds_toArray, List.set_cons_zero, List.set_cons_succ]
              refine takeInH 21 134 ?v21 rfl rfl (by kernel_rfl) (by kernel_rfl) (by kernel_rfl) (fun _ _ _ h => h) (by kernel_rfl) hS0 ?hy21 ?_
              case hy21 => (intro W hW; have q := conv_str (c := k5) (HB5.out.kr hW hk5.out); clear hW; go_simp; try rfl)
              simp only [Act.put, List.setIfInBounds_toArray, List.set_cons_zero, List.set_cons_succ]
              refine takeInH 22 135 ?v22 rfl rfl (by kernel_rfl) (by kernel_rfl) (by kernel_rfl) (fun _ _ _ h => h) (by kernel_rfl) hS0 ?hy22 ?_
              case hy22 => (intro W hW; clear hW; go_simp; try rfl)
              simp only [Act.put, List.setIfInBounds_toArray, List.set_cons_zero, List.set_cons_succ]
              refine wpAnyH_ready (rs := [1, 23]) (by kernel_rfl) (by simp) ?_
              refine AllReadyH.cons rfl (fun K hK => ?_) (AllReadyH.cons rfl (fun K hK => ?_) AllReadyH.nil)
              · skip
                go_simp
                refine hK.out _ _ ?hs23 (fun hS1 => ?_)
                case hs23 => exact hS0
                clear hK K
                try simp only [Act.put, List.setIfInBounds_toArray, List.set_cons_zero, List.set_cons_succ]
                refine wpAnyH_ready (rs := [23]) (by kernel_rfl) (by simp) ?_
                refine AllReadyH.cons rfl (fun K hK => ?_) AllReadyH.nil
                skip
                go_simp
                refine hK.out _ _ ?hs24 (fun hS2 => ?_)
                case hs24 => exact hS1.alloc _
                clear hK K
                try simp only [Act.put, List.setIfInBounds_toArray, List.set_cons_zero, List.set_cons_succ]
                refine wpAnyH_ready (rs := [24]) (by kernel_rfl) (by simp) ?_
                refine AllReadyH.cons rfl (fun K hK => ?_) AllReadyH.nil
                rw [if_pos (by kernel_rfl)]
                refine append_rowsO (enc := encF) (k := 6) _ _ 26 rfl Try.underlying26 Try.infoEff rfl (by decide) (by decide) encF_len encF_one u4.heap.size (.slice pe acc.length ce) acc [(y0, y1, t4, y2, y3, t5)] rfl ((hO9.out.alloc (.cells #[.int .i64 y0, .int .i64 y1, .string (strOfNums t4), .int .i64 y2, .int .i64 y3, .string (strOfNums t5)] 35)).drew) u9.heap.size 1 1 rfl (RS.new encF_len u9 _ rfl [(y0, y1, t4, y2, y3, t5)] _ rfl 35 (0, 0) 1 rfl (by decide)) (by have := hal.out; simp; omega) (by simp; omega) ?_
                intro v5 w5 z1 z2 z3
                have hX5 := hide (((hX9.out.alloc (.cells #[.int .i64 y0, .int .i64 y1, .string (strOfNums t4), .int .i64 y2, .int .i64 y3, .string (strOfNums t5)] 35)).drew).grown z2 hoff)
                have hoff5 := z1.off hX5.out (by decide)
                obtain ⟨p5, c5, hv5, _, _⟩ := z1.open encF_len
                rw [List.length_append, List.length_singleton] at hv5
                subst hv5
                have hB5 := hide (z3 u4 ((hB9.out.alloc hsz9 (.cells #[.int .i64 y0, .int .i64 y1, .string (strOfNums t4), .int .i64 y2, .int .i64 y3, .string (strOfNums t5)] 35)).drew))
                have hO5 := hide (z1.set hoff5 3 (.slice p5 (acc.length + 1) c5))
                have hX6 := hide (hX5.out.set 3 (.slice p5 (acc.length + 1) c5))
                have hB6 := hide (bel_set hB5.out (Nat.le_refl _) 3 (.slice p5 (acc.length + 1) c5))
                have hS5 : KR u4.heap.size (Value.ownBlock (.slice pe acc.length ce)) u9 w5 := KR.grown (W := (u9.alloc (.cells #[.int .i64 y0, .int .i64 y1, .string (strOfNums t4), .int .i64 y2, .int .i64 y3, .string (strOfNums t5)] 35)).drew) ((KR.drew0 _ _ u9).alloc (.cells #[.int .i64 y0, .int .i64 y1, .string (strOfNums t4), .int .i64 y2, .int .i64 y3, .string (strOfNums t5)] 35)) z2
                change K (Act.put _ (some 137) _) _
                refine hK.out _ _ ?hs25 (fun hS3 => ?_)
                case hs25 => exact hS5
                clear hK K
                try simp only [Act.put, List.setIfInBounds_toArray, List.set_cons_zero, List.set_cons_succ]
                refine takeInH 25 138 ?v26 rfl rfl (by kernel_rfl) (by kernel_rfl) (by kernel_rfl) (fun _ _ _ h => h) (by kernel_rfl) hS3 ?hy26 ?_
                case hy26 => (intro W hW; clear hW; go_simp; try rfl)
                simp only [Act.put, List.setIfInBounds_toArray, List.set_cons_zero, List.set_cons_succ]
                refine wpAnyH_ready (rs := [26]) (by kernel_rfl) (by simp) ?_
                refine AllReadyH.cons rfl (fun K hK => ?_) AllReadyH.nil
                have r3 := hX5.out.cell 3 _ rfl
                have s3 := hX5.out.free 3
                go_simp
                refine hK.out _ _ ?hs27 (fun hS4 => ?_)
                case hs27 => exact hS3.set 3 _
                clear hK K
                try simp only [Act.put, List.setIfInBounds_toArray, List.set_cons_zero, List.set_cons_succ]
                refine wpAnyH_done (by kernel_rfl) ?_ _
                have HBF : Hid (∀ x ∈ acc ++ [(y0, y1, t4, y2, y3, t5)], ByF x) := fun x hx => by
                  rcases List.mem_append.1 hx with h | h
                  · exact hBF.out x h
                  · rw [List.mem_singleton.1 h]; exact hbF.out
                have HAL : Hid ((acc ++ [(y0, y1, t4, y2, y3, t5)]).length = k + 1) := by unfold Hid; simp [hal.out]
                go_wp2
                go_roundw
                case rel => exact ⟨k + 1, acc ++ [(y0, y1, t4, y2, y3, t5)], _, by omega, by go_num, HAL, hX6, hO5, HBF, HR2, hB6⟩
                case measure => simp [intOf]; omega
              · skip
                go_simp
                refine hK.out _ _ ?hs28 (fun hS1 => ?_)
                case hs28 => exact hS0.alloc _
                clear hK K
                try simp only [Act.put, List.setIfInBounds_toArray, List.set_cons_zero, List.set_cons_succ]
                refine wpAnyH_ready (rs := [1]) (by kernel_rfl) (by simp) ?_
                refine AllReadyH.cons rfl (fun K hK => ?_) AllReadyH.nil
                have q3 := cell_old (.cells #[.int .i64 y0, .int .i64 y1, .string (strOfNums t4), .int .i64 y2, .int .i64 y3, .string (strOfNums t5)] 35) e3
                go_simp
                refine hK.out _ _ ?hs29 (fun hS2 => ?_)
                case hs29 => exact hS1
                clear hK K
                try simp only [Act.put, List.setIfInBounds_toArray, List.set_cons_zero, List.set_cons_succ]
                refine wpAnyH_ready (rs := [24]) (by kernel_rfl) (by simp) ?_
                refine AllReadyH.cons rfl (fun K hK => ?_) AllReadyH.nil
                rw [if_pos (by kernel_rfl)]
                refine append_rowsO (enc := encF) (k := 6) _ _ 26 rfl Try.underlying26 Try.infoEff rfl (by decide) (by decide) encF_len encF_one u4.heap.size (.slice pe acc.length ce) acc [(y0, y1, t4, y2, y3, t5)] rfl ((hO9.out.alloc (.cells #[.int .i64 y0, .int .i64 y1, .string (strOfNums t4), .int .i64 y2, .int .i64 y3, .string (strOfNums t5)] 35)).drew) u9.heap.size 1 1 rfl (RS.new encF_len u9 _ rfl [(y0, y1, t4, y2, y3, t5)] _ rfl 35 (0, 0) 1 rfl (by decide)) (by have := hal.out; simp; omega) (by simp; omega) ?_
                intro v5 w5 z1 z2 z3
                have hX5 := hide (((hX9.out.alloc (.cells #[.int .i64 y0, .int .i64 y1, .string (strOfNums t4), .int .i64 y2, .int .i64 y3, .string (strOfNums t5)] 35)).drew).grown z2 hoff)
                have hoff5 := z1.off hX5.out (by decide)
                obtain ⟨p5, c5, hv5, _, _⟩ := z1.open encF_len
                rw [List.length_append, List.length_singleton] at hv5
                subst hv5
                have hB5 := hide (z3 u4 ((hB9.out.alloc hsz9 (.cells #[.int .i64 y0, .int .i64 y1, .string (strOfNums t4), .int .i64 y2, .int .i64 y3, .string (strOfNums t5)] 35)).drew))
                have hO5 := hide (z1.set hoff5 3 (.slice p5 (acc.length + 1) c5))
                have hX6 := hide (hX5.out.set 3 (.slice p5 (acc.length + 1) c5))
                have hB6 := hide (bel_set hB5.out (Nat.le_refl _) 3 (.slice p5 (acc.length + 1) c5))
                have hS5 : KR u4.heap.size (Value.ownBlock (.slice pe acc.length ce)) u9 w5 := KR.grown (W := (u9.alloc (.cells #[.int .i64 y0, .int .i64 y1, .string (strOfNums t4), .int .i64 y2, .int .i64 y3, .string (strOfNums t5)] 35)).drew) ((KR.drew0 _ _ u9).alloc (.cells #[.int .i64 y0, .int .i64 y1, .string (strOfNums t4), .int .i64 y2, .int .i64 y3, .string (strOfNums t5)] 35)) z2
                change K (Act.put _ (some 137) _) _
                refine hK.out _ _ ?hs30 (fun hS3 => ?_)
                case hs30 => exact hS5
                clear hK K
                try simp only [Act.put, List.setIfInBounds_toArray, List.set_cons_zero, List.set_cons_succ]
                refine takeInH 25 138 ?v31 rfl rfl (by kernel_rfl) (by kernel_rfl) (by kernel_rfl) (fun _ _ _ h => h) (by kernel_rfl) hS3 ?hy31 ?_
                case hy31 => (intro W hW; clear hW; go_simp; try rfl)
                simp only [Act.put, List.setIfInBounds_toArray, List.set_cons_zero, List.set_cons_succ]
                refine wpAnyH_ready (rs := [26]) (by kernel_rfl) (by simp) ?_
                refine AllReadyH.cons rfl (fun K hK => ?_) AllReadyH.nil
                have r3 := hX5.out.cell 3 _ rfl
                have s3 := hX5.out.free 3
                go_simp
                refine hK.out _ _ ?hs32 (fun hS4 => ?_)
                case hs32 => exact hS3.set 3 _
                clear hK K
                try simp only [Act.put, List.setIfInBounds_toArray, List.set_cons_zero, List.set_cons_succ]
                refine wpAnyH_done (by kernel_rfl) ?_ _
                have HBF : Hid (∀ x ∈ acc ++ [(y0, y1, t4, y2, y3, t5)], ByF x) := fun x hx => by
                  rcases List.mem_append.1 hx with h | h
                  · exact hBF.out x h
                  · rw [List.mem_singleton.1 h]; exact hbF.out
                have HAL : Hid ((acc ++ [(y0, y1, t4, y2, y3, t5)]).length = k + 1) := by unfold Hid; simp [hal.out]
                go_wp2
                go_roundw
                case rel => exact ⟨k + 1, acc ++ [(y0, y1, t4, y2, y3, t5)], _, by omega, by go_num, HAL, hX6, hO5, HBF, HR2, hB6⟩
                case measure => simp [intOf]; omega
        · have HE : Hid (rfE b = none) := rfE_f (by rw [HTS.out]; exact rfFs_bad hkl2.out hR.out (rfF_len (by rw [HPS.out, HTP.out]; exact h6)))
          have h61 : ((tp : Int) == 6) = false := by simp; omega
          have h62 : ((tp : Int) != 6) = true := by simp; omega
          have h63 : ¬ (tp : Int) = 6 := by omega
          have e0 := HX3.out.cell 0 _ rfl
          have e1 := HX3.out.cell 1 _ rfl
          have e2 := HX3.out.cell 2 _ rfl
          have e3 := HX3.out.cell 3 _ rfl
          have z0 := HX3.out.free 0
          have z1 := HX3.out.free 1
          have z2 := HX3.out.free 2
          have z3 := HX3.out.free 3
          go_wp2
          refine bodyPost_ret (results_ct rfl _ _ _ _ _ _ _ _ rfl rfl (HX3.out.put4 _ _ _ _) Try.underlying28 rfl Try.sizeEvt) rfl ?_
          exact ⟨.inl ⟨HE.out, rfl⟩, bel_put4 HU3.out (Nat.le_refl _) _ _ _ _⟩
      · have hkl : k = m2 := by omega
        subst hkl
        have hall : rfFs (ts.drop 2) = some acc := by
          have h := hR.out
          rw [show (ts.drop 2).drop k = [] from List.drop_of_length_le (by rw [List.length_drop, HT.out]; omega)] at h
          simpa [rfFs] using h
        have HQ := hide (rfE_all (b := b) (by rw [HTS.out, HT.out]; omega) HDD.out HCC.out (by rw [HTS.out]; exact hall))
        have HXr := hide (HX.out.below hB.out)
        have HUr := hide (bel_next HU.out hB.out)
        have HNr := hide (HNS.out.below hB.out)
        have HEr : Hid (ES wr pe acc.length acc) := ⟨hes, hBF.out⟩
        have HCr := hide hcpe
        have hfe : Hid (∀ a, pe = some a → a.block ≠ w.heap.size) := fun a ha => by have h1 := own_lo hO.out a ha; have h2 := HX.out.size; omega
        have HM := hide (MayE_ref x y pa na ca pe acc.length ce c acc wr HNr.out HEr.out)
        have d0 := hX.out.cell 0 _ rfl
        have d1 := hX.out.cell 1 _ rfl
        have d2 := hX.out.cell 2 _ rfl
        have d3 := hX.out.cell 3 _ rfl
        clear hR hall hes hcpe hO hX
        obtain ⟨ne, hne⟩ : ∃ ne, acc.length = ne := ⟨_, rfl⟩
        rw [hne] at HEr HCr HM d3
        clear hne hal
        rcases hm : mayE ((x, y), c, acc) with _ | _
        · rw [hm] at HM
          have HE : Hid (rfE b = none) := by unfold Hid; rw [HQ.out, if_neg (fun h => by rw [hm] at h; cases h.1)]
          clear hm HQ
          go_wp2_with (go_at_call 15; refine HM.out.mono ?_; rintro e w3 ⟨rfl, hb⟩; have HX3 := hide (HXr.out.below hb); have HU3 := hide (bel_next HUr.out hb); clear hb; have e0 := HX3.out.cell 0 _ rfl; have e1 := HX3.out.cell 1 _ rfl; have e2 := HX3.out.cell 2 _ rfl; have e3 := HX3.out.cell 3 _ rfl; have z0 := HX3.out.free 0; have z1 := HX3.out.free 1; have z2 := HX3.out.free 2; have z3 := HX3.out.free 3)
          refine bodyPost_ret (results_ct rfl _ _ _ _ _ _ _ _ rfl rfl (HX3.out.put4 _ _ _ _) Try.underlying28 rfl Try.sizeEvt) rfl ?_
          exact ⟨.inl ⟨HE.out, rfl⟩, bel_put4 HU3.out (Nat.le_refl _) _ _ _ _⟩
        · rw [hm] at HM
          have HMM := hide hm
          clear hm
          go_wp2_with (first
            | (go_at_call 15; refine HM.out.mono ?_; rintro e w3 ⟨rfl, hb⟩; replace HXr := hide (HXr.out.below hb); replace HUr := hide (bel_next HUr.out hb); replace HNr := hide (HNr.out.below hb); replace HEr := hide (HEr.out.below hb); replace d0 := bcell hb d0; replace d1 := bcell hb d1; replace d2 := bcell hb d2; replace d3 := bcell hb d3; clear hb)
            | (go_at_call 19; refine Stop.at ?_))
          unfold Stop
          refine (PutR_any x y pa na ca pe ne ce c acc w3 HNr.out HEr.out HMM.out).mono ?_
          rintro e w4 ⟨v4, rfl, hO4, hb⟩
          replace HXr := hide (HXr.out.below hb)
          replace HUr := hide (bel_next HUr.out hb)
          replace HNr := hide (HNr.out.below hb)
          replace HEr := hide (HEr.out.below hb)
          replace d0 := bcell hb d0
          replace d1 := bcell hb d1
          replace d2 := bcell hb d2
          replace d3 := bcell hb d3
          have hbp : By (putE ((x, y), c, acc)) := pack_by (fun t ht => by
            rcases List.mem_cons.1 ht with rfl | ht
            · exact putD2_by _
            · rcases List.mem_cons.1 ht with rfl | ht
              · exact putC_by _
              · obtain ⟨f, hf, rfl⟩ := List.mem_map.1 ht
                exact putF_by (hBF.out f hf))
          obtain ⟨p4, c4, hv4, hb4, hc4⟩ := hO4.open hbp
          subst hv4
          by_cases heq : putE ((x, y), c, acc) = b
          · have HE : Hid (rfE b = some ((x, y), c, acc)) := by unfold Hid; rw [HQ.out, if_pos ⟨HMM.out, heq⟩]
            have HEQ := hide (bytes_as p4 a _ c4 n cap _ b w4 true (by simp [heq]) hb4 (HA.out.below HUr.out))
            clear hb hO4 hb4 hc4 HQ hbp heq
            go_wp2_with (go_at_call 18; refine HEQ.out.mono ?_; rintro e w5 ⟨rfl, hb⟩; have HX3 := hide (HXr.out.below hb); have HU3 := hide (bel_next HUr.out hb); have N3 := hide (HNr.out.below hb); have E3 := hide (HEr.out.below hb); replace d0 := bcell hb d0; replace d1 := bcell hb d1; replace d2 := bcell hb d2; replace d3 := bcell hb d3; clear hb; have e0 := HX3.out.cell 0 _ rfl; have e1 := HX3.out.cell 1 _ rfl; have e2 := HX3.out.cell 2 _ rfl; have e3 := HX3.out.cell 3 _ rfl; have z0 := HX3.out.free 0; have z1 := HX3.out.free 1; have z2 := HX3.out.free 2; have z3 := HX3.out.free 3)
            refine bodyPost_ret (results_ct rfl _ _ _ _ _ _ _ _ rfl rfl (HX3.out.put4 _ _ _ _) Try.underlying28 rfl Try.sizeEvt) rfl ?_
            exact ⟨.inr ⟨x, y, pa, na, ca, pe, ne, ce, c, acc, HE.out, rfl, N3.out.kp ((KP.refl _ _).put4 _ _ _ _) hfa.out, HCA.out, E3.out.kp ((KP.refl _ _).put4 _ _ _ _) hfe.out, HCr.out⟩, bel_put4 HU3.out (Nat.le_refl _) _ _ _ _⟩
          · have HE : Hid (rfE b = none) := by unfold Hid; rw [HQ.out, if_neg (fun h => heq h.2)]
            have HEQ := hide (bytes_as p4 a _ c4 n cap _ b w4 false (by simp [heq]) hb4 (HA.out.below HUr.out))
            clear hb hO4 hb4 hc4 HQ hbp heq
            go_wp2_with (go_at_call 18; refine HEQ.out.mono ?_; rintro e w5 ⟨rfl, hb⟩; have HX3 := hide (HXr.out.below hb); have HU3 := hide (bel_next HUr.out hb); clear hb; have e0 := HX3.out.cell 0 _ rfl; have e1 := HX3.out.cell 1 _ rfl; have e2 := HX3.out.cell 2 _ rfl; have e3 := HX3.out.cell 3 _ rfl; have z0 := HX3.out.free 0; have z1 := HX3.out.free 1; have z2 := HX3.out.free 2; have z3 := HX3.out.free 3)
            refine bodyPost_ret (results_ct rfl _ _ _ _ _ _ _ _ rfl rfl (HX3.out.put4 _ _ _ _) Try.underlying28 rfl Try.sizeEvt) rfl ?_
            exact ⟨.inl ⟨HE.out, rfl⟩, bel_put4 HU3.out (Nat.le_refl _) _ _ _ _⟩
  · have HE := hide (rfE_d (b := b) (by rw [HTS.out]; exact rfD_len (by rw [HDS.out, HTD.out]; exact h2)))
    have h21 : ((td : Int) == 2) = false := by simp; omega
    have h22 : ((td : Int) != 2) = true := by simp; omega
    have h23 : ¬ (td : Int) = 2 := by omega
    have e0 := HX.out.cell 0 _ rfl
    have e1 := HX.out.cell 1 _ rfl
    have e2 := HX.out.cell 2 _ rfl
    have e3 := HX.out.cell 3 _ rfl
    have z0 := HX.out.free 0
    have z1 := HX.out.free 1
    have z2 := HX.out.free 2
    have z3 := HX.out.free 3
    go_wp2
    refine bodyPost_ret (results_ct rfl _ _ _ _ _ _ _ _ rfl rfl (HX.out.put4 _ _ _ _) Try.underlying28 rfl Try.sizeEvt) rfl ?_
    exact ⟨.inl ⟨HE.out, rfl⟩, bel_put4 HU.out (Nat.le_refl _) _ _ _ _⟩
end Go.Proofs.Ytooggheoaglbeaa

