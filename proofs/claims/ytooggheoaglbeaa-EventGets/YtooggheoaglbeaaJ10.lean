/- Texts of this claim, joined: ERef2. -/
import Derived.Test.YtooggheoaglbeaaJ9
import Derived.Test.YtooggheoaglbeaaJ7
import Derived.Test.YtooggheoaglbeaaJ5
/- What the document's 'Put' does. -/
namespace Go.Proofs.Ytooggheoaglbeaa
open Go.RowKit
set_option linter.unusedVariables false

/-- A slice of bytes whose block is one of bytes. -/
def TU (w : World) (v : Value) (l : List Int) : Prop := ∃ p n c, v = .slice p n c ∧ BS w p n l ∧ CP p n c ∧ ∀ a, p = some a → ∃ C fr, w.heap[a.block]? = some (.cells C 5 fr)
theorem TU.tx {w : World} {v : Value} {l : List Int} (h : TU w v l) : TX w v l := by
  obtain ⟨p, n, c, h1, h2, h3, _⟩ := h
  exact ⟨p, n, c, h1, h2, h3⟩
theorem TU.below {w w' : World} {v : Value} {l : List Int} (h : TU w v l) (hb : Below w.heap.size w w') : TU w' v l := by
  obtain ⟨p, n, c, h1, h2, h3, h4⟩ := h
  refine ⟨p, n, c, h1, h2.below hb, h3, fun a ha => ?_⟩
  obtain ⟨C, fr, hg⟩ := h4 a ha
  exact ⟨C, fr, by rw [hb.block _ (Array.getElem?_eq_some_iff.1 hg).1]; exact hg⟩
theorem TU.alloc {w : World} {v : Value} {l : List Int} (h : TU w v l) (o : Obj) : TU (w.alloc o) v l := h.below (bel1 w o)
theorem Own.tu {N : Nat} {w : World} {v : Value} {l : List Int} (h : Own N w v l) (hl : By l) : TU w v l := by
  obtain ⟨p, cap, hv, h1, h2⟩ := h.open hl
  refine ⟨p, _, cap, hv, h1, h2, fun a ha => ?_⟩
  subst ha
  rcases h.2 with ⟨hh, _⟩ | ⟨g, cap', cur, hh, _, hg, _⟩
  · rw [hv] at hh; cases hh
  · rw [hv] at hh; cases hh; exact ⟨_, _, hg⟩
theorem TU.conv {w : World} {v : Value} {l : List Int} (h : TU w v l) (s : ByteArray) : TU (Lib.bytesWorld w 5 s) v l := h.below (conv_bel w _ s)
theorem TU.made {u W : World} (h : Below u.heap.size u W) (s : ByteArray) (hs : s.size ≤ maxLen) : TU (Lib.bytesWorld W 5 s) (.slice (some ⟨W.heap.size, 0, none⟩) s.size (grownCap W s.size 0 5)) (bytesL s) := by
  obtain ⟨p, n, c, h1, h2, h3⟩ := TX.made h s hs
  refine ⟨p, n, c, h1, h2, h3, fun a ha => ?_⟩
  cases h1
  cases ha
  exact ⟨_, _, Lib.bytesWorld_at_new W _ s⟩
theorem TU.grown {w w' : World} {v x : Value} {l : List Int} {N n : Nat} {xs : List Value} (h : TU w v l) (hg : w.grownBy w' x.ownBlock) (hx : w.ownsRow N 37 1 x n xs) : TU w' v l := by
  obtain ⟨p, m, c, h1, h2, h3, h4⟩ := h
  have hne : ∀ a, p = some a → w'.heap[a.block]? = w.heap[a.block]? := by
    intro a ha
    obtain ⟨C, fr, hh⟩ := h4 a ha
    refine hg.block _ (Array.getElem?_eq_some_iff.1 hh).1 ?_
    intro e
    rcases hx.2 with ⟨rfl, _⟩ | ⟨g, cap, cur, rfl, _, hgg, _⟩
    · cases e
    · simp [Value.ownBlock] at e
      rw [e, hgg] at hh
      simp at hh
  refine ⟨p, m, c, h1, ?_, h3, fun a ha => ?_⟩
  · obtain ⟨k1, k2, k3, k4⟩ := h2
    refine ⟨k1, k2, k3, ?_⟩
    rcases k4 with h0 | ⟨b, off, ha, hc⟩
    · exact .inl h0
    · refine .inr ⟨b, off, ha, fun i hi => ?_⟩
      rw [World.cell?_of_block (a := ⟨b, off + i, none⟩) (show w'.heap[b]? = w.heap[b]? from hne _ ha)]
      exact hc i hi
  · obtain ⟨C, fr, hh⟩ := h4 a ha
    exact ⟨C, fr, by rw [hne a ha]; exact hh⟩
/-- A slice of texts of the call's own, the texts wherever. -/
def OwnQ (N : Nat) (w : World) (v : Value) (qs : List (Value × List Int)) : Prop := w.ownsRow N 37 1 v qs.length (qs.map (·.1)) ∧ ∀ q ∈ qs, TU w q.1 q.2
theorem OwnQ.below {N : Nat} {w w' : World} {v : Value} {qs : List (Value × List Int)} (h : OwnQ N w v qs) (hb : Below w.heap.size w w') : OwnQ N w' v qs :=
  ⟨ownsRow_below h.1 hb, fun q hq => (h.2 q hq).below hb⟩
theorem OwnQ.conv {N : Nat} {w : World} {v : Value} {qs : List (Value × List Int)} (h : OwnQ N w v qs) (s : ByteArray) : OwnQ N (Lib.bytesWorld w 5 s) v qs := h.below (conv_bel w _ s)
theorem OwnQ.alloc {N : Nat} {w : World} {v : Value} {qs : List (Value × List Int)} (h : OwnQ N w v qs) (o : Obj) : OwnQ N (w.alloc o) v qs := h.below (bel1 w o)
theorem OwnP.q {N : Nat} {w : World} {v : Value} {qs : List (Value × List Int)} (h : OwnP N w v qs) : OwnQ N w v qs := ⟨h.1, fun q hq => (h.2 q hq).1.tu (h.2 q hq).2⟩
theorem OwnQ.open {N : Nat} {w : World} {v : Value} {qs : List (Value × List Int)} (h : OwnQ N w v qs) : ∃ p cap, v = .slice p qs.length cap ∧ PC w p qs.length (qs.map (·.2)) ∧ CP p qs.length cap := by
  have h0 := h.1
  rcases h.1.2 with ⟨rfl, h2⟩ | ⟨g, cap, cur, rfl, hb, hg, hc1, hc2, hs, ht⟩
  · exact ⟨none, 0, by rw [h2], ⟨by simp, by rw [h2]; decide, .inl h2⟩, by omega, by decide, fun _ => rfl⟩
  · refine ⟨some ⟨g, 0, none⟩, cap, rfl, ⟨by simp, by omega, .inr ⟨g, 0, rfl, fun i hi => ?_⟩⟩, hc1, hc2, fun h => by cases h⟩
    have hq : qs[i]? = some qs[i] := List.getElem?_eq_getElem hi
    obtain ⟨p, m, c, e1, e2, e3, _⟩ := h.2 qs[i] (List.getElem_mem hi)
    refine ⟨p, m, c, ?_, ?_, e3⟩
    · rw [Nat.zero_add, World.ownsRow.cellAt h0 i (by omega)]
      simp [hq, e1]
    · have e : (qs.map (·.2)).getD i [] = qs[i].2 := by simp [List.getD_eq_getElem?_getD, hq]
      rw [e]
      exact e2
/-- 'append(v, x...)' of texts, at an operation. -/
theorem append_qs {w : World} {o : Oper} {a : Act} {K : Act → World → Prop} {Q : Exit → Act → World → Prop} (s x : Operand)
    (ho : o.op = .call { callee := .builtin .append, args := #[s, x], argTypes := #[58, 58] })
    (N : Nat) (v : Value) (qs xs : List (Value × List Int)) (hs : a.eval s = v) (hown : OwnQ N w v qs) (g c : Nat) (hx : a.eval x = .slice (some ⟨g, 0, none⟩) xs.length c) (hc : ∀ j u, (xs.map (·.1))[j]? = some u → w.cell? ⟨g, j, none⟩ = some u) (hxs : ∀ q ∈ xs, TU w q.1 q.2)
    (hbig : qs.length + xs.length ≤ 100000) (hN : N ≤ w.heap.size)
    (h : ∀ v' w', OwnQ N w' v' (qs ++ xs) → w.grownBy w' v.ownBlock → (∀ w0, Below N w0 w → Below N w0 w') → K (a.put o.dst v') w') : o.wp Try.prog a w K Q := by
  obtain ⟨i0, hi, hz0, hz1, hz2⟩ := info_parts Try.infoTx
  refine wp_append_own w s x 58 ho N 37 i0 (.slice none 0 0) 1 24 Try.underlying58 hi hz0 hz1 hz2 rfl (by decide) v _ _ hs hown.1 ⟨g, 0, none⟩ xs.length c (xs.map (·.1)) hx (by simp) ?_ ?_ (by unfold maxLen; omega) (by omega) hN ?_
  · intro j u hj
    have e : (⟨g, 0, none⟩ : Addr).add j = ⟨g, j, none⟩ := by
      by_cases hj0 : j = 0
      · subst hj0; simp [Addr.add]
      · simp [Addr.add, hj0]
    rw [e]
    exact hc j u hj
  · intro u hu
    obtain ⟨q, hq, rfl⟩ := List.mem_map.1 hu
    obtain ⟨p, n, c, e1, _⟩ := hxs q hq
    rw [e1]
    rfl
  · intro v' w' h1 h2 _
    refine h v' w' ⟨?_, fun q hq => ?_⟩ h2 (fun w0 hb => hb.grown h2 hN (fun j hj => (World.ownsRow.lt hown.1 j hj).1))
    · rw [List.length_append, List.map_append]; exact h1
    · rcases List.mem_append.1 hq with k | k
      · exact (hown.2 q k).grown h2 hown.1
      · exact (hxs q k).grown h2 hown.1
/-- A slice of texts of the call's own: the texts alone. -/
def OwnU (N : Nat) (w : World) (v : Value) (ts : List (List Int)) : Prop := ∃ qs, OwnQ N w v qs ∧ qs.map (·.2) = ts
theorem OwnU.below {N : Nat} {w w' : World} {v : Value} {ts : List (List Int)} (h : OwnU N w v ts) (hb : Below w.heap.size w w') : OwnU N w' v ts := by
  obtain ⟨qs, h1, h2⟩ := h
  exact ⟨qs, h1.below hb, h2⟩
theorem OwnU.alloc {N : Nat} {w : World} {v : Value} {ts : List (List Int)} (h : OwnU N w v ts) (o : Obj) : OwnU N (w.alloc o) v ts := h.below (bel1 w o)
theorem OwnU.conv {N : Nat} {w : World} {v : Value} {ts : List (List Int)} (h : OwnU N w v ts) (s : ByteArray) : OwnU N (Lib.bytesWorld w 5 s) v ts := h.below (conv_bel w _ s)
theorem OwnU.open {N : Nat} {w : World} {v : Value} {ts : List (List Int)} (h : OwnU N w v ts) : ∃ p cap, v = .slice p ts.length cap ∧ PC w p ts.length ts ∧ CP p ts.length cap := by
  obtain ⟨qs, h1, rfl⟩ := h
  obtain ⟨p, cap, rfl, h2, h3⟩ := h1.open
  exact ⟨p, cap, by simp, by simpa using h2, by simpa using h3⟩
theorem OwnU.lt {N : Nat} {w : World} {v : Value} {ts : List (List Int)} (h : OwnU N w v ts) : ∀ j, v.ownBlock = some j → j < w.heap.size := by
  obtain ⟨qs, h1, _⟩ := h
  exact fun j hj => (World.ownsRow.lt h1.1 j hj).2
theorem own_off {e t : TypeId} {N k g n : Nat} {w : World} {v : Value} {xs : List Value} {C : Array Value} (h : w.ownsRow N e k v n xs) (hx : BX w g C t) (hne : e ≠ t) : v.ownBlock ≠ some g := by
  rcases h.2 with ⟨rfl, _⟩ | ⟨g', cap, cur, rfl, _, hg, _⟩
  · intro hh; simp [Value.ownBlock] at hh
  · intro hh
    simp [Value.ownBlock] at hh
    subst hh
    unfold BX at hx
    rw [hg] at hx
    simp at hx
    exact hne hx.2
theorem gb {r : Option Nat} {u W : World} (h : Below u.heap.size u W) : u.grownBy W r := ⟨h.os, h.tape, h.output, h.size, fun k hk _ => h.block k hk⟩
theorem gcell {r : Option Nat} {u W : World} (h : u.grownBy W r) {p : Addr} {v : Value} (hp : u.cell? p = some v) (hne : some p.block ≠ r) : W.cell? p = some v := by
  rw [World.cell?_of_block (h.block _ (World.block_lt_of_cell? u _ hp) hne)]; exact hp
theorem gtrans {r : Option Nat} {u W W' : World} (h : Below u.heap.size u W) (k : W.grownBy W' r) : u.grownBy W' r :=
  ⟨k.os.trans h.os, k.tape.trans h.tape, k.output.trans h.output, Nat.le_trans h.size k.size, fun i hi hne => by rw [k.block i (Nat.lt_of_lt_of_le hi h.size) hne, h.block i hi]⟩
/-- Two cells of a block. -/
def C2 (W : World) (g : Nat) (x y : Value) : Prop := W.cell? ⟨g, 0, none⟩ = some x ∧ W.cell? ⟨g, 1, none⟩ = some y
theorem C2.below {w w' : World} {g : Nat} {x y : Value} (h : C2 w g x y) (hb : Below w.heap.size w w') : C2 w' g x y := ⟨bcell hb h.1, bcell hb h.2⟩
theorem C2.alloc {w : World} {g : Nat} {x y : Value} (h : C2 w g x y) (o : Obj) : C2 (w.alloc o) g x y := h.below (bel1 w o)
theorem C2.conv {w : World} {g : Nat} {x y : Value} (h : C2 w g x y) (s : ByteArray) : C2 (Lib.bytesWorld w 5 s) g x y := h.below (conv_bel w _ s)
theorem C2.new (w : World) (x y : Value) (t : TypeId) : C2 (w.alloc (.cells #[x, y] t)) w.heap.size x y := ⟨cell_new w _ _ _ rfl 0 _ rfl, cell_new w _ _ _ rfl 1 _ rfl⟩
theorem NS.conv {w : World} {a : Option Addr} {n : Nat} {l : List Int} (h : NS w a n l) (s : ByteArray) : NS (Lib.bytesWorld w 5 s) a n l := h.below (conv_bel w _ s)
theorem ownsRow_mono {N N' : Nat} {e : TypeId} {k : Nat} {w : World} {v : Value} {n : Nat} {xs : List Value} (h : w.ownsRow N e k v n xs) (hN : N' ≤ N) : w.ownsRow N' e k v n xs := ⟨h.1, h.2.imp id fun ⟨g, cap, cur, h1, h2, h3⟩ => ⟨g, cap, cur, h1, Nat.le_trans hN h2, h3⟩⟩
set_option maxHeartbeats 8000000 in
theorem PutR_any (r s : Int) (pa : Option Addr) (na ca : Nat) (pe : Option Addr) (ne ce : Nat) (c : List Int) (l : List Eff) (w : World) (hN : NS w pa na c) (hE : ES w pe ne l) (hm : mayE ((r, s), c, l) = true) :
    Calls Try.prog 19 #[.agg #[.int .i64 r, .int .i64 s, .slice pa na ca, .slice pe ne ce]] w fun e w' => ∃ v, e = .returned v ∧ Own w.heap.size w' v (putE ((r, s), c, l)) ∧ Below w.heap.size w w' := by
  have c0 : (w.alloc (bxE r s pa na ca pe ne ce)).cell? ⟨w.heap.size, 0, none⟩ = some (.int .i64 r) := cell_new w _ _ _ rfl 0 _ rfl
  have c1 : (w.alloc (bxE r s pa na ca pe ne ce)).cell? ⟨w.heap.size, 1, none⟩ = some (.int .i64 s) := cell_new w _ _ _ rfl 1 _ rfl
  have c2 : (w.alloc (bxE r s pa na ca pe ne ce)).cell? ⟨w.heap.size, 2, none⟩ = some (.slice pa na ca) := cell_new w _ _ _ rfl 2 _ rfl
  have c3 : (w.alloc (bxE r s pa na ca pe ne ce)).cell? ⟨w.heap.size, 3, none⟩ = some (.slice pe ne ce) := cell_new w _ _ _ rfl 3 _ rfl
  have HU := hide (bel1 w (bxE r s pa na ca pe ne ce))
  have NU := hide (hN.alloc (bxE r s pa na ca pe ne ce))
  have EV := hide hE
  have HXE := hide (BX.new w _ rfl #[.int .i64 r, .int .i64 s, .slice pa na ca, .slice pe ne ce] 28)
  clear hN hE
  have HX := hide (mayE_iff.1 hm)
  have HTX : Hid (∀ p ∈ putD2 (r, s) :: putC c :: l.map putF, p.length ≤ 100000) := fun p hp => Nat.le_trans (putE_texts hm p hp) (by decide)
  clear hm
  obtain ⟨d1, d2, d3, d4⟩ := mayD_iff.1 (headB_iff.1 HX.out.1).1
  have hln := hide EV.out.1.1
  have hn16 : ne ≤ 16 := by have h1 := HX.out.2.1; have h2 := hln.out; simp at h1; omega
  have hr0 : 0 ≤ r := by simp at d1; omega
  have hr1 : r ≤ 1048576 := by simp at d2; omega
  have hs0 : 0 ≤ s := by simp at d3; omega
  have hs1 : s ≤ 1048576 := by simp at d4; omega
  have hUx := HU.out.size
  clear d1 d2 d3 d4
  go_enter Try.func19, Try.ntmps19
  go_wp2
  generalize hu : w.alloc (bxE r s pa na ca pe ne ce) = u at *
  clear hu
  refine wp_region_held_drew (S := fun W => Below u.heap.size u W) (by kernel_rfl) ((Below.refl _ u).drew) (fun hS0 => ?_)
  refine takeInH 0 6 ?v1 rfl rfl (by kernel_rfl) (by kernel_rfl) (by kernel_rfl) (fun _ _ _ h => h) (by kernel_rfl) hS0 ?hy1 ?_
  case hy1 => (intro W hW; clear hW; go_simp; try rfl)
  simp only [Act.put, List.setIfInBounds_toArray, List.set_cons_zero, List.set_cons_succ]
  refine takeInH 1 7 ?v2 rfl rfl (by kernel_rfl) (by kernel_rfl) (by kernel_rfl) (fun _ _ _ h => h) (by kernel_rfl) hS0 ?hy2 ?_
  case hy2 => (intro W hW; clear hW; go_simp; try rfl)
  simp only [Act.put, List.setIfInBounds_toArray, List.set_cons_zero, List.set_cons_succ]
  refine takeInH 2 8 ?v3 rfl rfl (by kernel_rfl) (by kernel_rfl) (by kernel_rfl) (fun _ _ _ h => h) (by kernel_rfl) hS0 ?hy3 ?_
  case hy3 => (intro W hW; have e0 := bcell hW c0; have e1 := bcell hW c1; have e2 := bcell hW c2; clear hW; go_simp; try rfl)
  simp only [Act.put, List.setIfInBounds_toArray, List.set_cons_zero, List.set_cons_succ]
  refine takeInH 3 9 ?v4 rfl rfl (by kernel_rfl) (by kernel_rfl) (by kernel_rfl) (fun _ _ _ h => h) (by kernel_rfl) hS0 ?hy4 ?_
  case hy4 => (intro W hW; clear hW; go_simp; try rfl)
  simp only [Act.put, List.setIfInBounds_toArray, List.set_cons_zero, List.set_cons_succ]
  refine takeInH 4 10 ?v5 rfl rfl (by kernel_rfl) (by kernel_rfl) (by kernel_rfl) (fun _ _ _ h => h) (by kernel_rfl) hS0 ?hy5 ?_
  case hy5 => (intro W hW; clear hW; go_simp; try rfl)
  simp only [Act.put, List.setIfInBounds_toArray, List.set_cons_zero, List.set_cons_succ]
  refine takeInH 5 11 ?v6 rfl rfl (by kernel_rfl) (by kernel_rfl) (by kernel_rfl) (fun _ _ _ h => h) (by kernel_rfl) hS0 ?hy6 ?_
  case hy6 => (intro W hW; have e0 := bcell hW c0; have e1 := bcell hW c1; have e2 := bcell hW c2; clear hW; go_simp; try rfl)
  simp only [Act.put, List.setIfInBounds_toArray, List.set_cons_zero, List.set_cons_succ]
  refine takeInH 9 15 ?v7 rfl rfl (by kernel_rfl) (by kernel_rfl) (by kernel_rfl) (fun _ _ _ h => h) (by kernel_rfl) hS0 ?hy7 ?_
  case hy7 => (intro W hW; clear hW; go_simp; try rfl)
  simp only [Act.put, List.setIfInBounds_toArray, List.set_cons_zero, List.set_cons_succ]
  refine takeInH 10 16 ?v8 rfl rfl (by kernel_rfl) (by kernel_rfl) (by kernel_rfl) (fun _ _ _ h => h) (by kernel_rfl) hS0 ?hy8 ?_
  case hy8 => (intro W hW; have e0 := bcell hW c0; have e1 := bcell hW c1; have e2 := bcell hW c2; clear hW; go_simp; try rfl)
  simp only [Act.put, List.setIfInBounds_toArray, List.set_cons_zero, List.set_cons_succ]
  refine wpAnyH_ready (rs := [6]) (by kernel_rfl) (by simp) ?_
  refine AllReadyH.cons rfl (fun K hK => ?_) AllReadyH.nil
  go_simp
  skip
  refine hK.out _ _ ?hs9 (fun hS1 => ?_)
  case hs9 => exact bel_next hS0 (bel1 _ _)
  clear hK K
  try simp only [Act.put, List.setIfInBounds_toArray, List.set_cons_zero, List.set_cons_succ]
  refine wpAnyH_ready (rs := [7]) (by kernel_rfl) (by simp) ?_
  refine AllReadyH.cons rfl (fun K hK => ?_) AllReadyH.nil
  go_simp
  refine (nums_any _ 2 _ [r, s] _ (NS.new u.drew _ rfl [r, s] _ rfl _ _ 2 rfl (by decide)) (by decide) ?_).mono ?_
  · simp only [List.mem_cons, List.not_mem_nil, or_false]
    rintro x (rfl | rfl)
    · exact ⟨hr0, hr1⟩
    · exact ⟨hs0, hs1⟩
  rintro e w1 ⟨v, rfl, hO, hb⟩
  obtain ⟨p13, q13, hv, hpc, _⟩ := hO.open
  subst hv
  have P13 := hide hpc
  clear hO hpc
  try go_wp2_with fail
  refine hK.out _ _ ?hs10 (fun hS2 => ?_)
  case hs10 => exact bel_next hS1 hb
  clear hK K
  try simp only [Act.put, List.setIfInBounds_toArray, List.set_cons_zero, List.set_cons_succ]
  refine wpAnyH_ready (rs := [8]) (by kernel_rfl) (by simp) ?_
  refine AllReadyH.cons rfl (fun K hK => ?_) AllReadyH.nil
  go_simp
  refine (refPack_any p13 _ q13 _ _ P13.out (by simp) (dot_long r s)).mono ?_
  rintro e w2 ⟨v, rfl, hO, hb⟩
  simp only [List.map_cons, List.map_nil] at hO
  have O19 := hide (hO.mono (Nat.le_trans hUx hS2.size))
  obtain ⟨p19, q19, hv, hB, hC⟩ := hO.open (putD2_by (r, s))
  subst hv
  clear hO hB hC P13
  try go_wp2_with fail
  refine hK.out _ _ ?hs11 (fun hS3 => ?_)
  case hs11 => exact bel_next hS2 hb
  clear hK K
  try simp only [Act.put, List.setIfInBounds_toArray, List.set_cons_zero, List.set_cons_succ]
  refine wpAnyH_ready (rs := [11]) (by kernel_rfl) (by simp) ?_
  refine AllReadyH.cons rfl (fun K hK => ?_) AllReadyH.nil
  go_simp
  refine (put_ref pa na ca c _ (NU.out.below hS3)).mono ?_
  rintro e w3 ⟨v, rfl, hO, hb⟩
  replace O19 := hide (O19.out.below hb)
  have O22 := hide (hO.mono (Nat.le_trans hUx hS3.size))
  obtain ⟨p22, q22, hv, hB, hC⟩ := hO.open (putC_by c)
  subst hv
  clear hO hB hC
  try go_wp2_with fail
  refine hK.out _ _ ?hs12 (fun hS4 => ?_)
  case hs12 => exact bel_next hS3 hb
  clear hK K
  try simp only [Act.put, List.setIfInBounds_toArray, List.set_cons_zero, List.set_cons_succ]
  refine wpAnyH_ready (rs := [12]) (by kernel_rfl) (by simp) ?_
  refine AllReadyH.cons rfl (fun K hK => ?_) AllReadyH.nil
  go_simp
  skip
  refine hK.out _ _ ?hs13 (fun hS5 => ?_)
  case hs13 => exact bel_next hS4 (bel1 _ _)
  clear hK K
  try simp only [Act.put, List.setIfInBounds_toArray, List.set_cons_zero, List.set_cons_succ]
  refine takeInH 13 3 ?v14 rfl rfl (by kernel_rfl) (by kernel_rfl) (by kernel_rfl) (fun _ _ _ h => h) (by kernel_rfl) hS5 ?hy14 ?_
  case hy14 => (intro W hW; clear hW; go_simp; try rfl)
  simp only [Act.put, List.setIfInBounds_toArray, List.set_cons_zero, List.set_cons_succ]
  refine wpAnyH_done (by kernel_rfl) ?_ _
  have OT : Hid (OwnU w.heap.size _ _ (txE r s c l 0)) := hide ⟨_, OwnP.q (OwnP.two w3 w.heap.size _ rfl (Nat.le_trans hUx hS4.size) _ _ _ _ O19.out O22.out (putD2_by (r, s)) (putC_by c)), rfl⟩
  have HV := hide (bel_next HU.out hS5)
  have HXV := hide (HXE.out.below hS5)
  clear O19 O22 c0 c1 c2 c3 HU NU hUx HXE
  clear hS0 hS1 hS2 hS3 hS4 hS5
  generalize Value.slice (some ⟨w3.heap.size, 0, none⟩) 2 2 = vt at *
  generalize hW : w3.alloc _ = W at *
  clear hW
  go_wp2
  go_loopw [3, 4] (fun v i wr => ∃ k : Nat, k ≤ ne ∧ i = .int .i64 k ∧ Hid (OwnU w.heap.size wr v (txE r s c l k)) ∧ Hid (Below w.heap.size w wr) ∧ Hid (BX wr w.heap.size #[.int .i64 r, .int .i64 s, .slice pa na ca, .slice pe ne ce] 28)) (fun _ i _ => ne - (intOf i).toNat)
  case atStart => exact ⟨0, by omega, rfl, OT, HV, HXV⟩
  case round =>
    obtain ⟨k, hk, rfl, hO, hB, hX⟩ := hrel
    have hlk : (txE r s c l k).length = k + 2 := by unfold txE; simp; have := hln.out; omega
    obtain ⟨pt, ct, hvt, hpc, _⟩ := hO.out.open
    rw [hlk] at hvt hpc
    subst hvt
    have hlk2 := hide hlk
    clear hlk
    have e3 := hX.out.cell 3 _ rfl
    by_cases hlt : k < ne
    · have hxx : ∃ x, l[k]? = some x := ⟨_, List.getElem?_eq_getElem (by rw [hln.out]; exact hlt)⟩
      obtain ⟨x, hx⟩ := hxx
      rcases EV.out.1.2.2 with h0 | ⟨bb, off, rfl, _⟩
      · omega
      · obtain ⟨x0, x1, x2, x3, x4, x5⟩ := EV.out.at k x hx
        replace x0 := bcell hB.out x0
        replace x1 := bcell hB.out x1
        replace x2 := bcell hB.out x2
        replace x3 := bcell hB.out x3
        replace x4 := bcell hB.out x4
        replace x5 := bcell hB.out x5
        have hxm := mayF_bd (HX.out.2.2 x (List.mem_of_getElem? hx))
        have hxb := EV.out.2 x (List.mem_of_getElem? hx)
        have HT := hide (txE_step (r := r) (s := s) (c := c) hx)
        have HBY := hide (putF_by hxb)
        have hsk : (strOfNums x.2.2.1).size ≤ maxLen := by rw [str_size]; unfold maxLen; omega
        have hsw : (strOfNums x.2.2.2.2.2).size ≤ maxLen := by rw [str_size]; unfold maxLen; omega
        have HPF : Hid (putF x = pack [num x.1, num x.2.1, num x.2.2.2.1, num x.2.2.2.2.1, bytesL (strOfNums x.2.2.1), bytesL (strOfNums x.2.2.2.2.2)]) := by unfold Hid putF; rw [bytes_str hxb.1, bytes_str hxb.2]
        have HLN := hide (putF_long (k := x.1) (o := x.2.1) (n := x.2.2.2.1) (t := x.2.2.2.2.1) (a := bytesL (strOfNums x.2.2.1)) (b := bytesL (strOfNums x.2.2.2.2.2)) (by rw [bytes_str hxb.1]; omega) (by rw [bytes_str hxb.2]; omega))
        have HBD : Hid (∀ y ∈ [x.1, x.2.1, x.2.2.2.1, x.2.2.2.2.1], 0 ≤ y ∧ y ≤ 1048576) := by
          unfold Hid
          simp only [List.mem_cons, List.not_mem_nil, or_false]
          rintro y (rfl | rfl | rfl | rfl) <;> omega
        have hsz := hB.out.size
        have hxm2 := hide hxm
        clear hx hxm hxb
        obtain ⟨xk, xo, xky, xn, xt, xw⟩ := x
        simp only [] at hsk hsw HPF HBD HLN
        generalize strOfNums xky = sk at *
        generalize strOfNums xw = sw at *
        have HO := hide (hO.out.alloc (bxF xk xo xn xt sk sw))
        have HBX := hide (bel_next hB.out (bel1 wr (bxF xk xo xn xt sk sw)))
        have HXX := hide (hX.out.alloc (bxF xk xo xn xt sk sw))
        have c0 : (wr.alloc (bxF xk xo xn xt sk sw)).cell? ⟨wr.heap.size, 0, none⟩ = some (.int .i64 xk) := cell_new wr _ _ _ rfl 0 _ rfl
        have c1 : (wr.alloc (bxF xk xo xn xt sk sw)).cell? ⟨wr.heap.size, 1, none⟩ = some (.int .i64 xo) := cell_new wr _ _ _ rfl 1 _ rfl
        have c2 : (wr.alloc (bxF xk xo xn xt sk sw)).cell? ⟨wr.heap.size, 2, none⟩ = some (.string sk) := cell_new wr _ _ _ rfl 2 _ rfl
        have c3 : (wr.alloc (bxF xk xo xn xt sk sw)).cell? ⟨wr.heap.size, 3, none⟩ = some (.int .i64 xn) := cell_new wr _ _ _ rfl 3 _ rfl
        have c4 : (wr.alloc (bxF xk xo xn xt sk sw)).cell? ⟨wr.heap.size, 4, none⟩ = some (.int .i64 xt) := cell_new wr _ _ _ rfl 4 _ rfl
        have c5 : (wr.alloc (bxF xk xo xn xt sk sw)).cell? ⟨wr.heap.size, 5, none⟩ = some (.string sw) := cell_new wr _ _ _ rfl 5 _ rfl
        have hgw : wr.heap.size < (wr.alloc (bxF xk xo xn xt sk sw)).heap.size := by simp
        have hlt3 := hide hO.out.lt
        clear hO hB hX
        go_wp2
        have hne : some wr.heap.size ≠ Value.ownBlock (.slice pt (k + 2) ct) := fun h => by have := hlt3.out _ h.symm; omega
        generalize hu : wr.alloc (bxF xk xo xn xt sk sw) = u9 at *
        clear hu x0 x1 x2 x3 x4 x5 e3 hpc
        have hc1 : ∀ W, _ := fun W => conv_run W sk
        have hc2 : ∀ W, _ := fun W => conv_run W sw
        refine wp_region_held_drew (S := fun W => u9.grownBy W (Value.ownBlock (.slice pt (k + 2) ct))) (by kernel_rfl) (gb ((Below.refl _ u9).drew)) (fun hS0 => ?_)
        refine takeInH 0 31 ?v15 rfl rfl (by kernel_rfl) (by kernel_rfl) (by kernel_rfl) (fun _ _ _ h => h) (by kernel_rfl) hS0 ?hy15 ?_
        case hy15 => (intro W hW; clear hW; go_simp; try rfl)
        simp only [Act.put, List.setIfInBounds_toArray, List.set_cons_zero, List.set_cons_succ]
        refine takeInH 1 32 ?v16 rfl rfl (by kernel_rfl) (by kernel_rfl) (by kernel_rfl) (fun _ _ _ h => h) (by kernel_rfl) hS0 ?hy16 ?_
        case hy16 => (intro W hW; clear hW; go_simp; try rfl)
        simp only [Act.put, List.setIfInBounds_toArray, List.set_cons_zero, List.set_cons_succ]
        refine takeInH 2 33 ?v17 rfl rfl (by kernel_rfl) (by kernel_rfl) (by kernel_rfl) (fun _ _ _ h => h) (by kernel_rfl) hS0 ?hy17 ?_
        case hy17 => (intro W hW; have e0 := gcell hW c0 hne; have e1 := gcell hW c1 hne; have e2 := gcell hW c2 hne; have e3 := gcell hW c3 hne; have e4 := gcell hW c4 hne; have e5 := gcell hW c5 hne; clear hW; go_simp; try rfl)
        simp only [Act.put, List.setIfInBounds_toArray, List.set_cons_zero, List.set_cons_succ]
        refine takeInH 3 34 ?v18 rfl rfl (by kernel_rfl) (by kernel_rfl) (by kernel_rfl) (fun _ _ _ h => h) (by kernel_rfl) hS0 ?hy18 ?_
        case hy18 => (intro W hW; clear hW; go_simp; try rfl)
        simp only [Act.put, List.setIfInBounds_toArray, List.set_cons_zero, List.set_cons_succ]
        refine takeInH 4 35 ?v19 rfl rfl (by kernel_rfl) (by kernel_rfl) (by kernel_rfl) (fun _ _ _ h => h) (by kernel_rfl) hS0 ?hy19 ?_
        case hy19 => (intro W hW; have e0 := gcell hW c0 hne; have e1 := gcell hW c1 hne; have e2 := gcell hW c2 hne; have e3 := gcell hW c3 hne; have e4 := gcell hW c4 hne; have e5 := gcell hW c5 hne; clear hW; go_simp; try rfl)
        simp only [Act.put, List.setIfInBounds_toArray, List.set_cons_zero, List.set_cons_succ]
        refine takeInH 5 36 ?v20 rfl rfl (by kernel_rfl) (by kernel_rfl) (by kernel_rfl) (fun _ _ _ h => h) (by kernel_rfl) hS0 ?hy20 ?_
        case hy20 => (intro W hW; clear hW; go_simp; try rfl)
        simp only [Act.put, List.setIfInBounds_toArray, List.set_cons_zero, List.set_cons_succ]
        refine takeInH 6 37 ?v21 rfl rfl (by kernel_rfl) (by kernel_rfl) (by kernel_rfl) (fun _ _ _ h => h) (by kernel_rfl) hS0 ?hy21 ?_
        case hy21 => (intro W hW; have e0 := gcell hW c0 hne; have e1 := gcell hW c1 hne; have e2 := gcell hW c2 hne; have e3 := gcell hW c3 hne; have e4 := gcell hW c4 hne; have e5 := gcell hW c5 hne; clear hW; go_simp; try rfl)
        simp only [Act.put, List.setIfInBounds_toArray, List.set_cons_zero, List.set_cons_succ]
        refine takeInH 7 38 ?v22 rfl rfl (by kernel_rfl) (by kernel_rfl) (by kernel_rfl) (fun _ _ _ h => h) (by kernel_rfl) hS0 ?hy22 ?_
        case hy22 => (intro W hW; clear hW; go_simp; try rfl)
        simp only [Act.put, List.setIfInBounds_toArray, List.set_cons_zero, List.set_cons_succ]
        refine takeInH 8 39 ?v23 rfl rfl (by kernel_rfl) (by kernel_rfl) (by kernel_rfl) (fun _ _ _ h => h) (by kernel_rfl) hS0 ?hy23 ?_
        case hy23 => (intro W hW; have e0 := gcell hW c0 hne; have e1 := gcell hW c1 hne; have e2 := gcell hW c2 hne; have e3 := gcell hW c3 hne; have e4 := gcell hW c4 hne; have e5 := gcell hW c5 hne; clear hW; go_simp; try rfl)
        simp only [Act.put, List.setIfInBounds_toArray, List.set_cons_zero, List.set_cons_succ]
        refine takeInH 11 42 ?v24 rfl rfl (by kernel_rfl) (by kernel_rfl) (by kernel_rfl) (fun _ _ _ h => h) (by kernel_rfl) hS0 ?hy24 ?_
        case hy24 => (intro W hW; clear hW; go_simp; try rfl)
        simp only [Act.put, List.setIfInBounds_toArray, List.set_cons_zero, List.set_cons_succ]
        refine takeInH 12 43 ?v25 rfl rfl (by kernel_rfl) (by kernel_rfl) (by kernel_rfl) (fun _ _ _ h => h) (by kernel_rfl) hS0 ?hy25 ?_
        case hy25 => (intro W hW; have e0 := gcell hW c0 hne; have e1 := gcell hW c1 hne; have e2 := gcell hW c2 hne; have e3 := gcell hW c3 hne; have e4 := gcell hW c4 hne; have e5 := gcell hW c5 hne; clear hW; go_simp; try rfl)
        simp only [Act.put, List.setIfInBounds_toArray, List.set_cons_zero, List.set_cons_succ]
        refine takeInH 14 45 ?v26 rfl rfl (by kernel_rfl) (by kernel_rfl) (by kernel_rfl) (fun _ _ _ h => h) (by kernel_rfl) hS0 ?hy26 ?_
        case hy26 => (intro W hW; clear hW; go_simp; try rfl)
        simp only [Act.put, List.setIfInBounds_toArray, List.set_cons_zero, List.set_cons_succ]
        refine takeInH 15 46 ?v27 rfl rfl (by kernel_rfl) (by kernel_rfl) (by kernel_rfl) (fun _ _ _ h => h) (by kernel_rfl) hS0 ?hy27 ?_
        case hy27 => (intro W hW; have e0 := gcell hW c0 hne; have e1 := gcell hW c1 hne; have e2 := gcell hW c2 hne; have e3 := gcell hW c3 hne; have e4 := gcell hW c4 hne; have e5 := gcell hW c5 hne; clear hW; go_simp; try rfl)
        simp only [Act.put, List.setIfInBounds_toArray, List.set_cons_zero, List.set_cons_succ]
        clear c0 c1 c2 c3 c4 c5 hS0
        refine share_intro _ _ _ _ _ _ _ _ _ (fun Z => ∀ listed : Array Bool, listed = #[true, true, true, true, true, true, true, true, true, true, true, true, true, true, true, true, true, true, false, false, false, false, false] → ∀ (g40 : Nat) (p41 : Option Addr) (c41 : Nat) (g44 : Nat) (c44 : Nat) (g47 : Nat) (c47 : Nat) (g48 : Nat) (W : World), Below u9.heap.size u9 W → Hid (NS W (some ⟨g40, 0, none⟩) 4 [xk, xo, xn, xt]) → Hid (OwnU u9.heap.size W (.slice p41 4 c41) ([xk, xo, xn, xt].map num)) → Hid (TU W (.slice (some ⟨g44, 0, none⟩) sk.size c44) (bytesL sk)) → Hid (TU W (.slice (some ⟨g47, 0, none⟩) sw.size c47) (bytesL sw)) → Hid (C2 W g48 (Value.slice (some ⟨g44, 0, none⟩) sk.size c44) (Value.slice (some ⟨g47, 0, none⟩) sw.size c47)) → Z 5 listed ⟨#[.agg #[.int .i64 r, .int .i64 s, .slice pa na ca, .slice (some ⟨bb, off, none⟩) ne ce], .pointer (some ⟨w.heap.size, 0, none⟩), .slice none 0 0, .slice pt (k + 2) ct, .int .i64 (k : Int), .pointer (some ⟨wr.heap.size, 0, none⟩), .pointer (some ⟨w.heap.size, 0, none⟩), .pointer (some ⟨w.heap.size, 0, none⟩), .int .i64 r, .pointer (some ⟨w.heap.size, 0, none⟩), .pointer (some ⟨w.heap.size, 1, none⟩), .int .i64 s, .slice (some ⟨u.heap.size, 0, none⟩) 2 2, .slice p13 2 q13, .slice p19 (pack [num r, num s]).length q19, .pointer (some ⟨w.heap.size, 2, none⟩), .slice pa na ca, .slice p22 (putC c).length q22, vt, .int .i64 (k : Int), .pointer (some ⟨w.heap.size, 3, none⟩), .slice (some ⟨bb, off, none⟩) ne ce, .int .i64 (ne : Int), .bool true, u24, u25, .pointer (some ⟨w.heap.size, 3, none⟩), .slice (some ⟨bb, off, none⟩) ne ce, .int .i64 (k : Int), .pointer (some ⟨bb, off + k * 6, none⟩), .agg #[.int .i64 xk, .int .i64 xo, .string sk, .int .i64 xn, .int .i64 xt, .string sw], .slice pt (k + 2) ct, .pointer (some ⟨wr.heap.size, 0, none⟩), .int .i64 xk, .pointer (some ⟨wr.heap.size, 1, none⟩), .int .i64 xo, .pointer (some ⟨wr.heap.size, 3, none⟩), .int .i64 xn, .pointer (some ⟨wr.heap.size, 4, none⟩), .int .i64 xt, .slice (some ⟨g40, 0, none⟩) 4 4, .slice p41 4 c41, .pointer (some ⟨wr.heap.size, 2, none⟩), .string sk, .slice (some ⟨g44, 0, none⟩) sk.size c44, .pointer (some ⟨wr.heap.size, 5, none⟩), .string sw, .slice (some ⟨g47, 0, none⟩) sw.size c47, .slice (some ⟨g48, 0, none⟩) 2 2, u49, u50, u51, u52, undef, undef], []⟩ W) ?_ (fun H11111 => ?_)
        · intro listed hl g40 p41 c41 g44 c44 g47 c47 g48 W hS T40 T41 T44 T47 T48
          subst hl
          have hS0 := gb (r := Value.ownBlock (.slice pt (k + 2) ct)) hS
          refine wpAnyH_ready (rs := [18]) (by kernel_rfl) (by simp) ?_
          refine AllReadyH.cons rfl (fun K hK => ?_) AllReadyH.nil
          rw [if_pos (by kernel_rfl)]
          obtain ⟨qs, hq1, hq2⟩ := T41.out
          have hql : qs.length = 4 := by have h := congrArg List.length hq2; simpa using h
          refine append_qs _ _ rfl u9.heap.size _ qs [((Value.slice (some ⟨g44, 0, none⟩) sk.size c44), bytesL sk), ((Value.slice (some ⟨g47, 0, none⟩) sw.size c47), bytesL sw)] rfl hq1 g48 2 rfl ?_ ?_ (by rw [hql]; simp) hS.size ?_
          · intro j uu hj
            rcases j with _ | _ | j
            · simp at hj; subst hj; exact T48.out.1
            · simp at hj; subst hj; exact T48.out.2
            · simp at hj
          · simp only [List.mem_cons, List.not_mem_nil, or_false]
            rintro q (rfl | rfl)
            · exact T44.out
            · exact T47.out
          intro v5 w5 y1 _ y3
          have hT1 := y3 u9 hS
          obtain ⟨p5, c5, hv5, hpc5, _⟩ := y1.open
          have hl5 : (qs ++ [((Value.slice (some ⟨g44, 0, none⟩) sk.size c44), bytesL sk), ((Value.slice (some ⟨g47, 0, none⟩) sw.size c47), bytesL sw)]).length = 6 := by rw [List.length_append, hql]; rfl
          rw [hl5] at hv5 hpc5
          subst hv5
          have P5 : Hid (PC w5 p5 6 [num xk, num xo, num xn, num xt, bytesL sk, bytesL sw]) := by
            have h := hpc5
            rw [List.map_append, hq2] at h
            exact h
          clear y1 y3 hpc5 hl5 hq1 hq2 hql
          change K (Act.put _ (some 49) _) _
          refine hK.out _ _ ?hs28 (fun hS1 => ?_)
          case hs28 => exact gb hT1
          clear hK K
          try simp only [List.setIfInBounds_toArray, List.set_cons_zero, List.set_cons_succ]
          refine wpAnyH_ready (rs := [19]) (by kernel_rfl) (by simp) ?_
          refine AllReadyH.cons rfl (fun K hK => ?_) AllReadyH.nil
          go_simp
          refine (refPack_any p5 6 c5 _ _ P5.out (by decide) HLN.out).mono ?_
          rintro e w6 ⟨v6, rfl, hO6, hb6⟩
          have hT2 := bel_next hT1 hb6
          rw [← HPF.out] at hO6
          have O6 := hide (hO6.tu HBY.out)
          obtain ⟨p6, c6, hv6, _, _⟩ := hO6.open HBY.out
          subst hv6
          clear hO6
          try go_wp2_with fail
          refine hK.out _ _ ?hs29 (fun hS2 => ?_)
          case hs29 => exact gb hT2
          clear hK K
          try simp only [List.setIfInBounds_toArray, List.set_cons_zero, List.set_cons_succ]
          refine wpAnyH_ready (rs := [20]) (by kernel_rfl) (by simp) ?_
          refine AllReadyH.cons rfl (fun K hK => ?_) AllReadyH.nil
          go_simp
          have hT3 := bel_next hT2 (bel1 w6 (.cells #[.slice p6 (putF (xk, xo, xky, xn, xt, xw)).length c6] 37))
          refine hK.out _ _ ?hs30 (fun hS3 => ?_)
          case hs30 => exact gb hT3
          clear hK K
          try simp only [List.setIfInBounds_toArray, List.set_cons_zero, List.set_cons_succ]
          refine wpAnyH_ready (rs := [21]) (by kernel_rfl) (by simp) ?_
          refine AllReadyH.cons rfl (fun K hK => ?_) AllReadyH.nil
          rw [if_pos (by kernel_rfl)]
          obtain ⟨ts, ht1, ht2⟩ := (HO.out.below hT2).alloc (.cells #[.slice p6 (putF (xk, xo, xky, xn, xt, xw)).length c6] 37)
          have htl : ts.length = k + 2 := by have h := congrArg List.length ht2; rw [List.length_map] at h; rw [h]; exact hlk2.out
          refine append_qs _ _ rfl w.heap.size _ ts [(.slice p6 (putF (xk, xo, xky, xn, xt, xw)).length c6, putF (xk, xo, xky, xn, xt, xw))] rfl ht1 _ 1 rfl ?_ ?_ (by rw [htl]; simp; omega) (Nat.le_trans HBX.out.size hT3.size) ?_
          · intro j uu hj
            rcases j with _ | j
            · simp at hj; subst hj; exact cell_new w6 _ _ _ rfl 0 _ rfl
            · simp at hj
          · intro q hq
            rw [List.mem_singleton.1 hq]
            exact O6.out.alloc _
          intro v7 w7 y1 y2 y3
          have HX7 := hide (((HXX.out.below hT2).alloc _).grown y2 (own_off ht1.1 ((HXX.out.below hT2).alloc _) (by decide)))
          have HB7 := hide (y3 w (bel_next HBX.out hT3))
          have HU7 : Hid (OwnU w.heap.size w7 v7 (txE r s c l (k + 1))) := ⟨_, y1, by rw [List.map_append, ht2, HT.out]; rfl⟩
          have hT4 := gtrans hT3 y2
          change K (Act.put _ (some 52) _) _
          refine hK.out _ _ ?hs31 (fun hS4 => ?_)
          case hs31 => exact hT4
          clear hK K
          try simp only [List.setIfInBounds_toArray, List.set_cons_zero, List.set_cons_succ]
          refine takeInH 22 3 ?v32 rfl rfl (by kernel_rfl) (by kernel_rfl) (by kernel_rfl) (fun _ _ _ h => h) (by kernel_rfl) hS4 ?hy32 ?_
          case hy32 => (intro W hW; clear hW; go_simp; try rfl)
          simp only [Act.put, List.setIfInBounds_toArray, List.set_cons_zero, List.set_cons_succ]
          refine wpAnyH_done (by kernel_rfl) ?_ _
          go_wp2
          go_roundw
          case rel => exact ⟨k + 1, by omega, by go_num, HU7, HB7, HX7⟩
          case measure => simp [intOf]; omega
        refine share_intro _ _ _ _ _ _ _ _ _ (fun Z => ∀ listed : Array Bool, listed = #[true, true, true, true, true, true, true, true, true, true, true, true, true, true, true, true, true, false, false, false, false, false, false] → ∀ (g40 : Nat) (p41 : Option Addr) (c41 : Nat) (g44 : Nat) (c44 : Nat) (g47 : Nat) (c47 : Nat) (W : World), Below u9.heap.size u9 W → Hid (NS W (some ⟨g40, 0, none⟩) 4 [xk, xo, xn, xt]) → Hid (OwnU u9.heap.size W (.slice p41 4 c41) ([xk, xo, xn, xt].map num)) → Hid (TU W (.slice (some ⟨g44, 0, none⟩) sk.size c44) (bytesL sk)) → Hid (TU W (.slice (some ⟨g47, 0, none⟩) sw.size c47) (bytesL sw)) → Z 6 listed ⟨#[.agg #[.int .i64 r, .int .i64 s, .slice pa na ca, .slice (some ⟨bb, off, none⟩) ne ce], .pointer (some ⟨w.heap.size, 0, none⟩), .slice none 0 0, .slice pt (k + 2) ct, .int .i64 (k : Int), .pointer (some ⟨wr.heap.size, 0, none⟩), .pointer (some ⟨w.heap.size, 0, none⟩), .pointer (some ⟨w.heap.size, 0, none⟩), .int .i64 r, .pointer (some ⟨w.heap.size, 0, none⟩), .pointer (some ⟨w.heap.size, 1, none⟩), .int .i64 s, .slice (some ⟨u.heap.size, 0, none⟩) 2 2, .slice p13 2 q13, .slice p19 (pack [num r, num s]).length q19, .pointer (some ⟨w.heap.size, 2, none⟩), .slice pa na ca, .slice p22 (putC c).length q22, vt, .int .i64 (k : Int), .pointer (some ⟨w.heap.size, 3, none⟩), .slice (some ⟨bb, off, none⟩) ne ce, .int .i64 (ne : Int), .bool true, u24, u25, .pointer (some ⟨w.heap.size, 3, none⟩), .slice (some ⟨bb, off, none⟩) ne ce, .int .i64 (k : Int), .pointer (some ⟨bb, off + k * 6, none⟩), .agg #[.int .i64 xk, .int .i64 xo, .string sk, .int .i64 xn, .int .i64 xt, .string sw], .slice pt (k + 2) ct, .pointer (some ⟨wr.heap.size, 0, none⟩), .int .i64 xk, .pointer (some ⟨wr.heap.size, 1, none⟩), .int .i64 xo, .pointer (some ⟨wr.heap.size, 3, none⟩), .int .i64 xn, .pointer (some ⟨wr.heap.size, 4, none⟩), .int .i64 xt, .slice (some ⟨g40, 0, none⟩) 4 4, .slice p41 4 c41, .pointer (some ⟨wr.heap.size, 2, none⟩), .string sk, .slice (some ⟨g44, 0, none⟩) sk.size c44, .pointer (some ⟨wr.heap.size, 5, none⟩), .string sw, .slice (some ⟨g47, 0, none⟩) sw.size c47, u48, u49, u50, u51, u52, undef, undef], []⟩ W) ?_ (fun H11110 => ?_)
        · intro listed hl g40 p41 c41 g44 c44 g47 c47 W hS T40 T41 T44 T47
          subst hl
          refine wpAnyH_ready (rs := [17]) (by kernel_rfl) (by simp) ?_
          refine AllReadyH.cons rfl (fun K hK => ?_) AllReadyH.nil
          go_simp
          have T48 := hide (C2.new W (Value.slice (some ⟨g44, 0, none⟩) sk.size c44) (Value.slice (some ⟨g47, 0, none⟩) sw.size c47) 37)
          refine hK.out _ _ ?hs33 (fun _ => ?_)
          case hs33 => exact gb (bel_next hS (bel1 _ _))
          try simp only [List.setIfInBounds_toArray, List.set_cons_zero, List.set_cons_succ]
          exact H11111 _ (by kernel_rfl) g40 p41 c41 g44 c44 g47 c47 _ _ (bel_next hS (bel1 _ _)) (hide (T40.out.alloc _)) (hide (T41.out.alloc _)) (hide (T44.out.alloc _)) (hide (T47.out.alloc _)) T48
        refine share_intro _ _ _ _ _ _ _ _ _ (fun Z => ∀ listed : Array Bool, listed = #[true, true, true, true, true, true, true, true, true, true, false, true, true, true, true, true, true, true, false, false, false, false, false] → ∀ (g40 : Nat) (g44 : Nat) (c44 : Nat) (g47 : Nat) (c47 : Nat) (g48 : Nat) (W : World), Below u9.heap.size u9 W → Hid (NS W (some ⟨g40, 0, none⟩) 4 [xk, xo, xn, xt]) → Hid (TU W (.slice (some ⟨g44, 0, none⟩) sk.size c44) (bytesL sk)) → Hid (TU W (.slice (some ⟨g47, 0, none⟩) sw.size c47) (bytesL sw)) → Hid (C2 W g48 (Value.slice (some ⟨g44, 0, none⟩) sk.size c44) (Value.slice (some ⟨g47, 0, none⟩) sw.size c47)) → Z 6 listed ⟨#[.agg #[.int .i64 r, .int .i64 s, .slice pa na ca, .slice (some ⟨bb, off, none⟩) ne ce], .pointer (some ⟨w.heap.size, 0, none⟩), .slice none 0 0, .slice pt (k + 2) ct, .int .i64 (k : Int), .pointer (some ⟨wr.heap.size, 0, none⟩), .pointer (some ⟨w.heap.size, 0, none⟩), .pointer (some ⟨w.heap.size, 0, none⟩), .int .i64 r, .pointer (some ⟨w.heap.size, 0, none⟩), .pointer (some ⟨w.heap.size, 1, none⟩), .int .i64 s, .slice (some ⟨u.heap.size, 0, none⟩) 2 2, .slice p13 2 q13, .slice p19 (pack [num r, num s]).length q19, .pointer (some ⟨w.heap.size, 2, none⟩), .slice pa na ca, .slice p22 (putC c).length q22, vt, .int .i64 (k : Int), .pointer (some ⟨w.heap.size, 3, none⟩), .slice (some ⟨bb, off, none⟩) ne ce, .int .i64 (ne : Int), .bool true, u24, u25, .pointer (some ⟨w.heap.size, 3, none⟩), .slice (some ⟨bb, off, none⟩) ne ce, .int .i64 (k : Int), .pointer (some ⟨bb, off + k * 6, none⟩), .agg #[.int .i64 xk, .int .i64 xo, .string sk, .int .i64 xn, .int .i64 xt, .string sw], .slice pt (k + 2) ct, .pointer (some ⟨wr.heap.size, 0, none⟩), .int .i64 xk, .pointer (some ⟨wr.heap.size, 1, none⟩), .int .i64 xo, .pointer (some ⟨wr.heap.size, 3, none⟩), .int .i64 xn, .pointer (some ⟨wr.heap.size, 4, none⟩), .int .i64 xt, .slice (some ⟨g40, 0, none⟩) 4 4, u41, .pointer (some ⟨wr.heap.size, 2, none⟩), .string sk, .slice (some ⟨g44, 0, none⟩) sk.size c44, .pointer (some ⟨wr.heap.size, 5, none⟩), .string sw, .slice (some ⟨g47, 0, none⟩) sw.size c47, .slice (some ⟨g48, 0, none⟩) 2 2, u49, u50, u51, u52, undef, undef], []⟩ W) ?_ (fun H10111 => ?_)
        · intro listed hl g40 g44 c44 g47 c47 g48 W hS T40 T44 T47 T48
          subst hl
          refine wpAnyH_ready (rs := [10]) (by kernel_rfl) (by simp) ?_
          refine AllReadyH.cons rfl (fun K hK => ?_) AllReadyH.nil
          go_simp
          refine (nums_any _ 4 _ [xk, xo, xn, xt] _ T40.out (by decide) HBD.out).mono ?_
          rintro e w' ⟨v, rfl, ⟨qs, hq1, hq2⟩, hb⟩
          have hql : qs.length = 4 := by have h := congrArg List.length hq2; simpa using h
          have hq3 := (hq1.q)
          obtain ⟨p41, c41, hv, _, _⟩ := hq3.open
          rw [hql] at hv
          subst hv
          have T41 : Hid (OwnU u9.heap.size w' (.slice p41 4 c41) ([xk, xo, xn, xt].map num)) := ⟨qs, ⟨ownsRow_mono hq3.1 hS.size, hq3.2⟩, hq2⟩
          clear hq1 hq3 hql hq2
          try go_wp2_with fail
          refine hK.out _ _ ?hs34 (fun _ => ?_)
          case hs34 => exact gb (bel_next hS hb)
          try simp only [List.setIfInBounds_toArray, List.set_cons_zero, List.set_cons_succ]
          exact H11111 _ (by kernel_rfl) g40 p41 c41 g44 c44 g47 c47 g48 _ (bel_next hS hb) (hide (T40.out.below hb)) T41 (hide (T44.out.below hb)) (hide (T47.out.below hb)) (hide (T48.out.below hb))
        refine share_intro _ _ _ _ _ _ _ _ _ (fun Z => ∀ listed : Array Bool, listed = #[true, true, true, true, true, true, true, true, true, true, true, true, true, true, true, true, false, false, false, false, false, false, false] → ∀ (g40 : Nat) (p41 : Option Addr) (c41 : Nat) (g44 : Nat) (c44 : Nat) (W : World), Below u9.heap.size u9 W → Hid (NS W (some ⟨g40, 0, none⟩) 4 [xk, xo, xn, xt]) → Hid (OwnU u9.heap.size W (.slice p41 4 c41) ([xk, xo, xn, xt].map num)) → Hid (TU W (.slice (some ⟨g44, 0, none⟩) sk.size c44) (bytesL sk)) → Z 7 listed ⟨#[.agg #[.int .i64 r, .int .i64 s, .slice pa na ca, .slice (some ⟨bb, off, none⟩) ne ce], .pointer (some ⟨w.heap.size, 0, none⟩), .slice none 0 0, .slice pt (k + 2) ct, .int .i64 (k : Int), .pointer (some ⟨wr.heap.size, 0, none⟩), .pointer (some ⟨w.heap.size, 0, none⟩), .pointer (some ⟨w.heap.size, 0, none⟩), .int .i64 r, .pointer (some ⟨w.heap.size, 0, none⟩), .pointer (some ⟨w.heap.size, 1, none⟩), .int .i64 s, .slice (some ⟨u.heap.size, 0, none⟩) 2 2, .slice p13 2 q13, .slice p19 (pack [num r, num s]).length q19, .pointer (some ⟨w.heap.size, 2, none⟩), .slice pa na ca, .slice p22 (putC c).length q22, vt, .int .i64 (k : Int), .pointer (some ⟨w.heap.size, 3, none⟩), .slice (some ⟨bb, off, none⟩) ne ce, .int .i64 (ne : Int), .bool true, u24, u25, .pointer (some ⟨w.heap.size, 3, none⟩), .slice (some ⟨bb, off, none⟩) ne ce, .int .i64 (k : Int), .pointer (some ⟨bb, off + k * 6, none⟩), .agg #[.int .i64 xk, .int .i64 xo, .string sk, .int .i64 xn, .int .i64 xt, .string sw], .slice pt (k + 2) ct, .pointer (some ⟨wr.heap.size, 0, none⟩), .int .i64 xk, .pointer (some ⟨wr.heap.size, 1, none⟩), .int .i64 xo, .pointer (some ⟨wr.heap.size, 3, none⟩), .int .i64 xn, .pointer (some ⟨wr.heap.size, 4, none⟩), .int .i64 xt, .slice (some ⟨g40, 0, none⟩) 4 4, .slice p41 4 c41, .pointer (some ⟨wr.heap.size, 2, none⟩), .string sk, .slice (some ⟨g44, 0, none⟩) sk.size c44, .pointer (some ⟨wr.heap.size, 5, none⟩), .string sw, u47, u48, u49, u50, u51, u52, undef, undef], []⟩ W) ?_ (fun H11100 => ?_)
        · intro listed hl g40 p41 c41 g44 c44 W hS T40 T41 T44
          subst hl
          refine wpAnyH_ready (rs := [16]) (by kernel_rfl) (by simp) ?_
          refine AllReadyH.cons rfl (fun K hK => ?_) AllReadyH.nil
          go_simp
          have T47 := hide (TU.made hS sw hsw)
          refine hK.out _ _ ?hs35 (fun _ => ?_)
          case hs35 => exact gb (conv_next hS sw)
          try simp only [List.setIfInBounds_toArray, List.set_cons_zero, List.set_cons_succ]
          exact H11110 _ (by kernel_rfl) g40 p41 c41 g44 c44 _ _ _ (conv_next hS sw) (hide (T40.out.conv sw)) (hide (T41.out.conv sw)) (hide (T44.out.conv sw)) T47
        refine share_intro _ _ _ _ _ _ _ _ _ (fun Z => ∀ listed : Array Bool, listed = #[true, true, true, true, true, true, true, true, true, true, true, true, true, false, true, true, true, false, false, false, false, false, false] → ∀ (g40 : Nat) (p41 : Option Addr) (c41 : Nat) (g47 : Nat) (c47 : Nat) (W : World), Below u9.heap.size u9 W → Hid (NS W (some ⟨g40, 0, none⟩) 4 [xk, xo, xn, xt]) → Hid (OwnU u9.heap.size W (.slice p41 4 c41) ([xk, xo, xn, xt].map num)) → Hid (TU W (.slice (some ⟨g47, 0, none⟩) sw.size c47) (bytesL sw)) → Z 7 listed ⟨#[.agg #[.int .i64 r, .int .i64 s, .slice pa na ca, .slice (some ⟨bb, off, none⟩) ne ce], .pointer (some ⟨w.heap.size, 0, none⟩), .slice none 0 0, .slice pt (k + 2) ct, .int .i64 (k : Int), .pointer (some ⟨wr.heap.size, 0, none⟩), .pointer (some ⟨w.heap.size, 0, none⟩), .pointer (some ⟨w.heap.size, 0, none⟩), .int .i64 r, .pointer (some ⟨w.heap.size, 0, none⟩), .pointer (some ⟨w.heap.size, 1, none⟩), .int .i64 s, .slice (some ⟨u.heap.size, 0, none⟩) 2 2, .slice p13 2 q13, .slice p19 (pack [num r, num s]).length q19, .pointer (some ⟨w.heap.size, 2, none⟩), .slice pa na ca, .slice p22 (putC c).length q22, vt, .int .i64 (k : Int), .pointer (some ⟨w.heap.size, 3, none⟩), .slice (some ⟨bb, off, none⟩) ne ce, .int .i64 (ne : Int), .bool true, u24, u25, .pointer (some ⟨w.heap.size, 3, none⟩), .slice (some ⟨bb, off, none⟩) ne ce, .int .i64 (k : Int), .pointer (some ⟨bb, off + k * 6, none⟩), .agg #[.int .i64 xk, .int .i64 xo, .string sk, .int .i64 xn, .int .i64 xt, .string sw], .slice pt (k + 2) ct, .pointer (some ⟨wr.heap.size, 0, none⟩), .int .i64 xk, .pointer (some ⟨wr.heap.size, 1, none⟩), .int .i64 xo, .pointer (some ⟨wr.heap.size, 3, none⟩), .int .i64 xn, .pointer (some ⟨wr.heap.size, 4, none⟩), .int .i64 xt, .slice (some ⟨g40, 0, none⟩) 4 4, .slice p41 4 c41, .pointer (some ⟨wr.heap.size, 2, none⟩), .string sk, u44, .pointer (some ⟨wr.heap.size, 5, none⟩), .string sw, .slice (some ⟨g47, 0, none⟩) sw.size c47, u48, u49, u50, u51, u52, undef, undef], []⟩ W) ?_ (fun H11010 => ?_)
        · intro listed hl g40 p41 c41 g47 c47 W hS T40 T41 T47
          subst hl
          refine wpAnyH_ready (rs := [13]) (by kernel_rfl) (by simp) ?_
          refine AllReadyH.cons rfl (fun K hK => ?_) AllReadyH.nil
          go_simp
          have T44 := hide (TU.made hS sk hsk)
          refine hK.out _ _ ?hs36 (fun _ => ?_)
          case hs36 => exact gb (conv_next hS sk)
          try simp only [List.setIfInBounds_toArray, List.set_cons_zero, List.set_cons_succ]
          exact H11110 _ (by kernel_rfl) g40 p41 c41 _ _ g47 c47 _ (conv_next hS sk) (hide (T40.out.conv sk)) (hide (T41.out.conv sk)) T44 (hide (T47.out.conv sk))
        refine share_intro _ _ _ _ _ _ _ _ _ (fun Z => ∀ listed : Array Bool, listed = #[true, true, true, true, true, true, true, true, true, true, false, true, true, true, true, true, true, false, false, false, false, false, false] → ∀ (g40 : Nat) (g44 : Nat) (c44 : Nat) (g47 : Nat) (c47 : Nat) (W : World), Below u9.heap.size u9 W → Hid (NS W (some ⟨g40, 0, none⟩) 4 [xk, xo, xn, xt]) → Hid (TU W (.slice (some ⟨g44, 0, none⟩) sk.size c44) (bytesL sk)) → Hid (TU W (.slice (some ⟨g47, 0, none⟩) sw.size c47) (bytesL sw)) → Z 7 listed ⟨#[.agg #[.int .i64 r, .int .i64 s, .slice pa na ca, .slice (some ⟨bb, off, none⟩) ne ce], .pointer (some ⟨w.heap.size, 0, none⟩), .slice none 0 0, .slice pt (k + 2) ct, .int .i64 (k : Int), .pointer (some ⟨wr.heap.size, 0, none⟩), .pointer (some ⟨w.heap.size, 0, none⟩), .pointer (some ⟨w.heap.size, 0, none⟩), .int .i64 r, .pointer (some ⟨w.heap.size, 0, none⟩), .pointer (some ⟨w.heap.size, 1, none⟩), .int .i64 s, .slice (some ⟨u.heap.size, 0, none⟩) 2 2, .slice p13 2 q13, .slice p19 (pack [num r, num s]).length q19, .pointer (some ⟨w.heap.size, 2, none⟩), .slice pa na ca, .slice p22 (putC c).length q22, vt, .int .i64 (k : Int), .pointer (some ⟨w.heap.size, 3, none⟩), .slice (some ⟨bb, off, none⟩) ne ce, .int .i64 (ne : Int), .bool true, u24, u25, .pointer (some ⟨w.heap.size, 3, none⟩), .slice (some ⟨bb, off, none⟩) ne ce, .int .i64 (k : Int), .pointer (some ⟨bb, off + k * 6, none⟩), .agg #[.int .i64 xk, .int .i64 xo, .string sk, .int .i64 xn, .int .i64 xt, .string sw], .slice pt (k + 2) ct, .pointer (some ⟨wr.heap.size, 0, none⟩), .int .i64 xk, .pointer (some ⟨wr.heap.size, 1, none⟩), .int .i64 xo, .pointer (some ⟨wr.heap.size, 3, none⟩), .int .i64 xn, .pointer (some ⟨wr.heap.size, 4, none⟩), .int .i64 xt, .slice (some ⟨g40, 0, none⟩) 4 4, u41, .pointer (some ⟨wr.heap.size, 2, none⟩), .string sk, .slice (some ⟨g44, 0, none⟩) sk.size c44, .pointer (some ⟨wr.heap.size, 5, none⟩), .string sw, .slice (some ⟨g47, 0, none⟩) sw.size c47, u48, u49, u50, u51, u52, undef, undef], []⟩ W) ?_ (fun H10110 => ?_)
        · intro listed hl g40 g44 c44 g47 c47 W hS T40 T44 T47
          subst hl
          refine wpAnyH_ready (rs := [10, 17]) (by kernel_rfl) (by simp) ?_
          refine AllReadyH.cons rfl (fun K hK => ?_) (AllReadyH.cons rfl (fun K hK => ?_) AllReadyH.nil)
          · go_simp
            refine (nums_any _ 4 _ [xk, xo, xn, xt] _ T40.out (by decide) HBD.out).mono ?_
            rintro e w' ⟨v, rfl, ⟨qs, hq1, hq2⟩, hb⟩
            have hql : qs.length = 4 := by have h := congrArg List.length hq2; simpa using h
            have hq3 := (hq1.q)
            obtain ⟨p41, c41, hv, _, _⟩ := hq3.open
            rw [hql] at hv
            subst hv
            have T41 : Hid (OwnU u9.heap.size w' (.slice p41 4 c41) ([xk, xo, xn, xt].map num)) := ⟨qs, ⟨ownsRow_mono hq3.1 hS.size, hq3.2⟩, hq2⟩
            clear hq1 hq3 hql hq2
            try go_wp2_with fail
            refine hK.out _ _ ?hs37 (fun _ => ?_)
            case hs37 => exact gb (bel_next hS hb)
            try simp only [List.setIfInBounds_toArray, List.set_cons_zero, List.set_cons_succ]
            exact H11110 _ (by kernel_rfl) g40 p41 c41 g44 c44 g47 c47 _ (bel_next hS hb) (hide (T40.out.below hb)) T41 (hide (T44.out.below hb)) (hide (T47.out.below hb))
          · go_simp
            have T48 := hide (C2.new W (Value.slice (some ⟨g44, 0, none⟩) sk.size c44) (Value.slice (some ⟨g47, 0, none⟩) sw.size c47) 37)
            refine hK.out _ _ ?hs38 (fun _ => ?_)
            case hs38 => exact gb (bel_next hS (bel1 _ _))
            try simp only [List.setIfInBounds_toArray, List.set_cons_zero, List.set_cons_succ]
            exact H10111 _ (by kernel_rfl) g40 g44 c44 g47 c47 _ _ (bel_next hS (bel1 _ _)) (hide (T40.out.alloc _)) (hide (T44.out.alloc _)) (hide (T47.out.alloc _)) T48
        refine share_intro _ _ _ _ _ _ _ _ _ (fun Z => ∀ listed : Array Bool, listed = #[true, true, true, true, true, true, true, true, true, false, false, true, true, true, true, true, true, true, false, false, false, false, false] → ∀ (g44 : Nat) (c44 : Nat) (g47 : Nat) (c47 : Nat) (g48 : Nat) (W : World), Below u9.heap.size u9 W → Hid (TU W (.slice (some ⟨g44, 0, none⟩) sk.size c44) (bytesL sk)) → Hid (TU W (.slice (some ⟨g47, 0, none⟩) sw.size c47) (bytesL sw)) → Hid (C2 W g48 (Value.slice (some ⟨g44, 0, none⟩) sk.size c44) (Value.slice (some ⟨g47, 0, none⟩) sw.size c47)) → Z 7 listed ⟨#[.agg #[.int .i64 r, .int .i64 s, .slice pa na ca, .slice (some ⟨bb, off, none⟩) ne ce], .pointer (some ⟨w.heap.size, 0, none⟩), .slice none 0 0, .slice pt (k + 2) ct, .int .i64 (k : Int), .pointer (some ⟨wr.heap.size, 0, none⟩), .pointer (some ⟨w.heap.size, 0, none⟩), .pointer (some ⟨w.heap.size, 0, none⟩), .int .i64 r, .pointer (some ⟨w.heap.size, 0, none⟩), .pointer (some ⟨w.heap.size, 1, none⟩), .int .i64 s, .slice (some ⟨u.heap.size, 0, none⟩) 2 2, .slice p13 2 q13, .slice p19 (pack [num r, num s]).length q19, .pointer (some ⟨w.heap.size, 2, none⟩), .slice pa na ca, .slice p22 (putC c).length q22, vt, .int .i64 (k : Int), .pointer (some ⟨w.heap.size, 3, none⟩), .slice (some ⟨bb, off, none⟩) ne ce, .int .i64 (ne : Int), .bool true, u24, u25, .pointer (some ⟨w.heap.size, 3, none⟩), .slice (some ⟨bb, off, none⟩) ne ce, .int .i64 (k : Int), .pointer (some ⟨bb, off + k * 6, none⟩), .agg #[.int .i64 xk, .int .i64 xo, .string sk, .int .i64 xn, .int .i64 xt, .string sw], .slice pt (k + 2) ct, .pointer (some ⟨wr.heap.size, 0, none⟩), .int .i64 xk, .pointer (some ⟨wr.heap.size, 1, none⟩), .int .i64 xo, .pointer (some ⟨wr.heap.size, 3, none⟩), .int .i64 xn, .pointer (some ⟨wr.heap.size, 4, none⟩), .int .i64 xt, u40, u41, .pointer (some ⟨wr.heap.size, 2, none⟩), .string sk, .slice (some ⟨g44, 0, none⟩) sk.size c44, .pointer (some ⟨wr.heap.size, 5, none⟩), .string sw, .slice (some ⟨g47, 0, none⟩) sw.size c47, .slice (some ⟨g48, 0, none⟩) 2 2, u49, u50, u51, u52, undef, undef], []⟩ W) ?_ (fun H00111 => ?_)
        · intro listed hl g44 c44 g47 c47 g48 W hS T44 T47 T48
          subst hl
          refine wpAnyH_ready (rs := [9]) (by kernel_rfl) (by simp) ?_
          refine AllReadyH.cons rfl (fun K hK => ?_) AllReadyH.nil
          go_simp
          have T40 := hide (NS.new W _ rfl [xk, xo, xn, xt] _ rfl 3 (0, 0) 4 rfl (by decide))
          refine hK.out _ _ ?hs39 (fun _ => ?_)
          case hs39 => exact gb (bel_next hS (bel1 _ _))
          try simp only [List.setIfInBounds_toArray, List.set_cons_zero, List.set_cons_succ]
          exact H10111 _ (by kernel_rfl) _ g44 c44 g47 c47 g48 _ (bel_next hS (bel1 _ _)) T40 (hide (T44.out.alloc _)) (hide (T47.out.alloc _)) (hide (T48.out.alloc _))
        refine share_intro _ _ _ _ _ _ _ _ _ (fun Z => ∀ listed : Array Bool, listed = #[true, true, true, true, true, true, true, true, true, true, true, true, true, false, true, true, false, false, false, false, false, false, false] → ∀ (g40 : Nat) (p41 : Option Addr) (c41 : Nat) (W : World), Below u9.heap.size u9 W → Hid (NS W (some ⟨g40, 0, none⟩) 4 [xk, xo, xn, xt]) → Hid (OwnU u9.heap.size W (.slice p41 4 c41) ([xk, xo, xn, xt].map num)) → Z 8 listed ⟨#[.agg #[.int .i64 r, .int .i64 s, .slice pa na ca, .slice (some ⟨bb, off, none⟩) ne ce], .pointer (some ⟨w.heap.size, 0, none⟩), .slice none 0 0, .slice pt (k + 2) ct, .int .i64 (k : Int), .pointer (some ⟨wr.heap.size, 0, none⟩), .pointer (some ⟨w.heap.size, 0, none⟩), .pointer (some ⟨w.heap.size, 0, none⟩), .int .i64 r, .pointer (some ⟨w.heap.size, 0, none⟩), .pointer (some ⟨w.heap.size, 1, none⟩), .int .i64 s, .slice (some ⟨u.heap.size, 0, none⟩) 2 2, .slice p13 2 q13, .slice p19 (pack [num r, num s]).length q19, .pointer (some ⟨w.heap.size, 2, none⟩), .slice pa na ca, .slice p22 (putC c).length q22, vt, .int .i64 (k : Int), .pointer (some ⟨w.heap.size, 3, none⟩), .slice (some ⟨bb, off, none⟩) ne ce, .int .i64 (ne : Int), .bool true, u24, u25, .pointer (some ⟨w.heap.size, 3, none⟩), .slice (some ⟨bb, off, none⟩) ne ce, .int .i64 (k : Int), .pointer (some ⟨bb, off + k * 6, none⟩), .agg #[.int .i64 xk, .int .i64 xo, .string sk, .int .i64 xn, .int .i64 xt, .string sw], .slice pt (k + 2) ct, .pointer (some ⟨wr.heap.size, 0, none⟩), .int .i64 xk, .pointer (some ⟨wr.heap.size, 1, none⟩), .int .i64 xo, .pointer (some ⟨wr.heap.size, 3, none⟩), .int .i64 xn, .pointer (some ⟨wr.heap.size, 4, none⟩), .int .i64 xt, .slice (some ⟨g40, 0, none⟩) 4 4, .slice p41 4 c41, .pointer (some ⟨wr.heap.size, 2, none⟩), .string sk, u44, .pointer (some ⟨wr.heap.size, 5, none⟩), .string sw, u47, u48, u49, u50, u51, u52, undef, undef], []⟩ W) ?_ (fun H11000 => ?_)
        · intro listed hl g40 p41 c41 W hS T40 T41
          subst hl
          refine wpAnyH_ready (rs := [13, 16]) (by kernel_rfl) (by simp) ?_
          refine AllReadyH.cons rfl (fun K hK => ?_) (AllReadyH.cons rfl (fun K hK => ?_) AllReadyH.nil)
          · go_simp
            have T44 := hide (TU.made hS sk hsk)
            refine hK.out _ _ ?hs40 (fun _ => ?_)
            case hs40 => exact gb (conv_next hS sk)
            try simp only [List.setIfInBounds_toArray, List.set_cons_zero, List.set_cons_succ]
            exact H11100 _ (by kernel_rfl) g40 p41 c41 _ _ _ (conv_next hS sk) (hide (T40.out.conv sk)) (hide (T41.out.conv sk)) T44
          · go_simp
            have T47 := hide (TU.made hS sw hsw)
            refine hK.out _ _ ?hs41 (fun _ => ?_)
            case hs41 => exact gb (conv_next hS sw)
            try simp only [List.setIfInBounds_toArray, List.set_cons_zero, List.set_cons_succ]
            exact H11010 _ (by kernel_rfl) g40 p41 c41 _ _ _ (conv_next hS sw) (hide (T40.out.conv sw)) (hide (T41.out.conv sw)) T47
        refine share_intro _ _ _ _ _ _ _ _ _ (fun Z => ∀ listed : Array Bool, listed = #[true, true, true, true, true, true, true, true, true, true, false, true, true, true, true, true, false, false, false, false, false, false, false] → ∀ (g40 : Nat) (g44 : Nat) (c44 : Nat) (W : World), Below u9.heap.size u9 W → Hid (NS W (some ⟨g40, 0, none⟩) 4 [xk, xo, xn, xt]) → Hid (TU W (.slice (some ⟨g44, 0, none⟩) sk.size c44) (bytesL sk)) → Z 8 listed ⟨#[.agg #[.int .i64 r, .int .i64 s, .slice pa na ca, .slice (some ⟨bb, off, none⟩) ne ce], .pointer (some ⟨w.heap.size, 0, none⟩), .slice none 0 0, .slice pt (k + 2) ct, .int .i64 (k : Int), .pointer (some ⟨wr.heap.size, 0, none⟩), .pointer (some ⟨w.heap.size, 0, none⟩), .pointer (some ⟨w.heap.size, 0, none⟩), .int .i64 r, .pointer (some ⟨w.heap.size, 0, none⟩), .pointer (some ⟨w.heap.size, 1, none⟩), .int .i64 s, .slice (some ⟨u.heap.size, 0, none⟩) 2 2, .slice p13 2 q13, .slice p19 (pack [num r, num s]).length q19, .pointer (some ⟨w.heap.size, 2, none⟩), .slice pa na ca, .slice p22 (putC c).length q22, vt, .int .i64 (k : Int), .pointer (some ⟨w.heap.size, 3, none⟩), .slice (some ⟨bb, off, none⟩) ne ce, .int .i64 (ne : Int), .bool true, u24, u25, .pointer (some ⟨w.heap.size, 3, none⟩), .slice (some ⟨bb, off, none⟩) ne ce, .int .i64 (k : Int), .pointer (some ⟨bb, off + k * 6, none⟩), .agg #[.int .i64 xk, .int .i64 xo, .string sk, .int .i64 xn, .int .i64 xt, .string sw], .slice pt (k + 2) ct, .pointer (some ⟨wr.heap.size, 0, none⟩), .int .i64 xk, .pointer (some ⟨wr.heap.size, 1, none⟩), .int .i64 xo, .pointer (some ⟨wr.heap.size, 3, none⟩), .int .i64 xn, .pointer (some ⟨wr.heap.size, 4, none⟩), .int .i64 xt, .slice (some ⟨g40, 0, none⟩) 4 4, u41, .pointer (some ⟨wr.heap.size, 2, none⟩), .string sk, .slice (some ⟨g44, 0, none⟩) sk.size c44, .pointer (some ⟨wr.heap.size, 5, none⟩), .string sw, u47, u48, u49, u50, u51, u52, undef, undef], []⟩ W) ?_ (fun H10100 => ?_)
        · intro listed hl g40 g44 c44 W hS T40 T44
          subst hl
          refine wpAnyH_ready (rs := [10, 16]) (by kernel_rfl) (by simp) ?_
          refine AllReadyH.cons rfl (fun K hK => ?_) (AllReadyH.cons rfl (fun K hK => ?_) AllReadyH.nil)
          · go_simp
            refine (nums_any _ 4 _ [xk, xo, xn, xt] _ T40.out (by decide) HBD.out).mono ?_
            rintro e w' ⟨v, rfl, ⟨qs, hq1, hq2⟩, hb⟩
            have hql : qs.length = 4 := by have h := congrArg List.length hq2; simpa using h
            have hq3 := (hq1.q)
            obtain ⟨p41, c41, hv, _, _⟩ := hq3.open
            rw [hql] at hv
            subst hv
            have T41 : Hid (OwnU u9.heap.size w' (.slice p41 4 c41) ([xk, xo, xn, xt].map num)) := ⟨qs, ⟨ownsRow_mono hq3.1 hS.size, hq3.2⟩, hq2⟩
            clear hq1 hq3 hql hq2
            try go_wp2_with fail
            refine hK.out _ _ ?hs42 (fun _ => ?_)
            case hs42 => exact gb (bel_next hS hb)
            try simp only [List.setIfInBounds_toArray, List.set_cons_zero, List.set_cons_succ]
            exact H11100 _ (by kernel_rfl) g40 p41 c41 g44 c44 _ (bel_next hS hb) (hide (T40.out.below hb)) T41 (hide (T44.out.below hb))
          · go_simp
            have T47 := hide (TU.made hS sw hsw)
            refine hK.out _ _ ?hs43 (fun _ => ?_)
            case hs43 => exact gb (conv_next hS sw)
            try simp only [List.setIfInBounds_toArray, List.set_cons_zero, List.set_cons_succ]
            exact H10110 _ (by kernel_rfl) g40 g44 c44 _ _ _ (conv_next hS sw) (hide (T40.out.conv sw)) (hide (T44.out.conv sw)) T47
        refine share_intro _ _ _ _ _ _ _ _ _ (fun Z => ∀ listed : Array Bool, listed = #[true, true, true, true, true, true, true, true, true, true, false, true, true, false, true, true, true, false, false, false, false, false, false] → ∀ (g40 : Nat) (g47 : Nat) (c47 : Nat) (W : World), Below u9.heap.size u9 W → Hid (NS W (some ⟨g40, 0, none⟩) 4 [xk, xo, xn, xt]) → Hid (TU W (.slice (some ⟨g47, 0, none⟩) sw.size c47) (bytesL sw)) → Z 8 listed ⟨#[.agg #[.int .i64 r, .int .i64 s, .slice pa na ca, .slice (some ⟨bb, off, none⟩) ne ce], .pointer (some ⟨w.heap.size, 0, none⟩), .slice none 0 0, .slice pt (k + 2) ct, .int .i64 (k : Int), .pointer (some ⟨wr.heap.size, 0, none⟩), .pointer (some ⟨w.heap.size, 0, none⟩), .pointer (some ⟨w.heap.size, 0, none⟩), .int .i64 r, .pointer (some ⟨w.heap.size, 0, none⟩), .pointer (some ⟨w.heap.size, 1, none⟩), .int .i64 s, .slice (some ⟨u.heap.size, 0, none⟩) 2 2, .slice p13 2 q13, .slice p19 (pack [num r, num s]).length q19, .pointer (some ⟨w.heap.size, 2, none⟩), .slice pa na ca, .slice p22 (putC c).length q22, vt, .int .i64 (k : Int), .pointer (some ⟨w.heap.size, 3, none⟩), .slice (some ⟨bb, off, none⟩) ne ce, .int .i64 (ne : Int), .bool true, u24, u25, .pointer (some ⟨w.heap.size, 3, none⟩), .slice (some ⟨bb, off, none⟩) ne ce, .int .i64 (k : Int), .pointer (some ⟨bb, off + k * 6, none⟩), .agg #[.int .i64 xk, .int .i64 xo, .string sk, .int .i64 xn, .int .i64 xt, .string sw], .slice pt (k + 2) ct, .pointer (some ⟨wr.heap.size, 0, none⟩), .int .i64 xk, .pointer (some ⟨wr.heap.size, 1, none⟩), .int .i64 xo, .pointer (some ⟨wr.heap.size, 3, none⟩), .int .i64 xn, .pointer (some ⟨wr.heap.size, 4, none⟩), .int .i64 xt, .slice (some ⟨g40, 0, none⟩) 4 4, u41, .pointer (some ⟨wr.heap.size, 2, none⟩), .string sk, u44, .pointer (some ⟨wr.heap.size, 5, none⟩), .string sw, .slice (some ⟨g47, 0, none⟩) sw.size c47, u48, u49, u50, u51, u52, undef, undef], []⟩ W) ?_ (fun H10010 => ?_)
        · intro listed hl g40 g47 c47 W hS T40 T47
          subst hl
          refine wpAnyH_ready (rs := [10, 13]) (by kernel_rfl) (by simp) ?_
          refine AllReadyH.cons rfl (fun K hK => ?_) (AllReadyH.cons rfl (fun K hK => ?_) AllReadyH.nil)
          · go_simp
            refine (nums_any _ 4 _ [xk, xo, xn, xt] _ T40.out (by decide) HBD.out).mono ?_
            rintro e w' ⟨v, rfl, ⟨qs, hq1, hq2⟩, hb⟩
            have hql : qs.length = 4 := by have h := congrArg List.length hq2; simpa using h
            have hq3 := (hq1.q)
            obtain ⟨p41, c41, hv, _, _⟩ := hq3.open
            rw [hql] at hv
            subst hv
            have T41 : Hid (OwnU u9.heap.size w' (.slice p41 4 c41) ([xk, xo, xn, xt].map num)) := ⟨qs, ⟨ownsRow_mono hq3.1 hS.size, hq3.2⟩, hq2⟩
            clear hq1 hq3 hql hq2
            try go_wp2_with fail
            refine hK.out _ _ ?hs44 (fun _ => ?_)
            case hs44 => exact gb (bel_next hS hb)
            try simp only [List.setIfInBounds_toArray, List.set_cons_zero, List.set_cons_succ]
            exact H11010 _ (by kernel_rfl) g40 p41 c41 g47 c47 _ (bel_next hS hb) (hide (T40.out.below hb)) T41 (hide (T47.out.below hb))
          · go_simp
            have T44 := hide (TU.made hS sk hsk)
            refine hK.out _ _ ?hs45 (fun _ => ?_)
            case hs45 => exact gb (conv_next hS sk)
            try simp only [List.setIfInBounds_toArray, List.set_cons_zero, List.set_cons_succ]
            exact H10110 _ (by kernel_rfl) g40 _ _ g47 c47 _ (conv_next hS sk) (hide (T40.out.conv sk)) T44 (hide (T47.out.conv sk))
        refine share_intro _ _ _ _ _ _ _ _ _ (fun Z => ∀ listed : Array Bool, listed = #[true, true, true, true, true, true, true, true, true, false, false, true, true, true, true, true, true, false, false, false, false, false, false] → ∀ (g44 : Nat) (c44 : Nat) (g47 : Nat) (c47 : Nat) (W : World), Below u9.heap.size u9 W → Hid (TU W (.slice (some ⟨g44, 0, none⟩) sk.size c44) (bytesL sk)) → Hid (TU W (.slice (some ⟨g47, 0, none⟩) sw.size c47) (bytesL sw)) → Z 8 listed ⟨#[.agg #[.int .i64 r, .int .i64 s, .slice pa na ca, .slice (some ⟨bb, off, none⟩) ne ce], .pointer (some ⟨w.heap.size, 0, none⟩), .slice none 0 0, .slice pt (k + 2) ct, .int .i64 (k : Int), .pointer (some ⟨wr.heap.size, 0, none⟩), .pointer (some ⟨w.heap.size, 0, none⟩), .pointer (some ⟨w.heap.size, 0, none⟩), .int .i64 r, .pointer (some ⟨w.heap.size, 0, none⟩), .pointer (some ⟨w.heap.size, 1, none⟩), .int .i64 s, .slice (some ⟨u.heap.size, 0, none⟩) 2 2, .slice p13 2 q13, .slice p19 (pack [num r, num s]).length q19, .pointer (some ⟨w.heap.size, 2, none⟩), .slice pa na ca, .slice p22 (putC c).length q22, vt, .int .i64 (k : Int), .pointer (some ⟨w.heap.size, 3, none⟩), .slice (some ⟨bb, off, none⟩) ne ce, .int .i64 (ne : Int), .bool true, u24, u25, .pointer (some ⟨w.heap.size, 3, none⟩), .slice (some ⟨bb, off, none⟩) ne ce, .int .i64 (k : Int), .pointer (some ⟨bb, off + k * 6, none⟩), .agg #[.int .i64 xk, .int .i64 xo, .string sk, .int .i64 xn, .int .i64 xt, .string sw], .slice pt (k + 2) ct, .pointer (some ⟨wr.heap.size, 0, none⟩), .int .i64 xk, .pointer (some ⟨wr.heap.size, 1, none⟩), .int .i64 xo, .pointer (some ⟨wr.heap.size, 3, none⟩), .int .i64 xn, .pointer (some ⟨wr.heap.size, 4, none⟩), .int .i64 xt, u40, u41, .pointer (some ⟨wr.heap.size, 2, none⟩), .string sk, .slice (some ⟨g44, 0, none⟩) sk.size c44, .pointer (some ⟨wr.heap.size, 5, none⟩), .string sw, .slice (some ⟨g47, 0, none⟩) sw.size c47, u48, u49, u50, u51, u52, undef, undef], []⟩ W) ?_ (fun H00110 => ?_)
        · intro listed hl g44 c44 g47 c47 W hS T44 T47
          subst hl
          refine wpAnyH_ready (rs := [9, 17]) (by kernel_rfl) (by simp) ?_
          refine AllReadyH.cons rfl (fun K hK => ?_) (AllReadyH.cons rfl (fun K hK => ?_) AllReadyH.nil)
          · go_simp
            have T40 := hide (NS.new W _ rfl [xk, xo, xn, xt] _ rfl 3 (0, 0) 4 rfl (by decide))
            refine hK.out _ _ ?hs46 (fun _ => ?_)
            case hs46 => exact gb (bel_next hS (bel1 _ _))
            try simp only [List.setIfInBounds_toArray, List.set_cons_zero, List.set_cons_succ]
            exact H10110 _ (by kernel_rfl) _ g44 c44 g47 c47 _ (bel_next hS (bel1 _ _)) T40 (hide (T44.out.alloc _)) (hide (T47.out.alloc _))
          · go_simp
            have T48 := hide (C2.new W (Value.slice (some ⟨g44, 0, none⟩) sk.size c44) (Value.slice (some ⟨g47, 0, none⟩) sw.size c47) 37)
            refine hK.out _ _ ?hs47 (fun _ => ?_)
            case hs47 => exact gb (bel_next hS (bel1 _ _))
            try simp only [List.setIfInBounds_toArray, List.set_cons_zero, List.set_cons_succ]
            exact H00111 _ (by kernel_rfl) g44 c44 g47 c47 _ _ (bel_next hS (bel1 _ _)) (hide (T44.out.alloc _)) (hide (T47.out.alloc _)) T48
        refine share_intro _ _ _ _ _ _ _ _ _ (fun Z => ∀ listed : Array Bool, listed = #[true, true, true, true, true, true, true, true, true, true, false, true, true, false, true, true, false, false, false, false, false, false, false] → ∀ (g40 : Nat) (W : World), Below u9.heap.size u9 W → Hid (NS W (some ⟨g40, 0, none⟩) 4 [xk, xo, xn, xt]) → Z 9 listed ⟨#[.agg #[.int .i64 r, .int .i64 s, .slice pa na ca, .slice (some ⟨bb, off, none⟩) ne ce], .pointer (some ⟨w.heap.size, 0, none⟩), .slice none 0 0, .slice pt (k + 2) ct, .int .i64 (k : Int), .pointer (some ⟨wr.heap.size, 0, none⟩), .pointer (some ⟨w.heap.size, 0, none⟩), .pointer (some ⟨w.heap.size, 0, none⟩), .int .i64 r, .pointer (some ⟨w.heap.size, 0, none⟩), .pointer (some ⟨w.heap.size, 1, none⟩), .int .i64 s, .slice (some ⟨u.heap.size, 0, none⟩) 2 2, .slice p13 2 q13, .slice p19 (pack [num r, num s]).length q19, .pointer (some ⟨w.heap.size, 2, none⟩), .slice pa na ca, .slice p22 (putC c).length q22, vt, .int .i64 (k : Int), .pointer (some ⟨w.heap.size, 3, none⟩), .slice (some ⟨bb, off, none⟩) ne ce, .int .i64 (ne : Int), .bool true, u24, u25, .pointer (some ⟨w.heap.size, 3, none⟩), .slice (some ⟨bb, off, none⟩) ne ce, .int .i64 (k : Int), .pointer (some ⟨bb, off + k * 6, none⟩), .agg #[.int .i64 xk, .int .i64 xo, .string sk, .int .i64 xn, .int .i64 xt, .string sw], .slice pt (k + 2) ct, .pointer (some ⟨wr.heap.size, 0, none⟩), .int .i64 xk, .pointer (some ⟨wr.heap.size, 1, none⟩), .int .i64 xo, .pointer (some ⟨wr.heap.size, 3, none⟩), .int .i64 xn, .pointer (some ⟨wr.heap.size, 4, none⟩), .int .i64 xt, .slice (some ⟨g40, 0, none⟩) 4 4, u41, .pointer (some ⟨wr.heap.size, 2, none⟩), .string sk, u44, .pointer (some ⟨wr.heap.size, 5, none⟩), .string sw, u47, u48, u49, u50, u51, u52, undef, undef], []⟩ W) ?_ (fun H10000 => ?_)
        · intro listed hl g40 W hS T40
          subst hl
          refine wpAnyH_ready (rs := [10, 13, 16]) (by kernel_rfl) (by simp) ?_
          refine AllReadyH.cons rfl (fun K hK => ?_) (AllReadyH.cons rfl (fun K hK => ?_) (AllReadyH.cons rfl (fun K hK => ?_) AllReadyH.nil))
          · go_simp
            refine (nums_any _ 4 _ [xk, xo, xn, xt] _ T40.out (by decide) HBD.out).mono ?_
            rintro e w' ⟨v, rfl, ⟨qs, hq1, hq2⟩, hb⟩
            have hql : qs.length = 4 := by have h := congrArg List.length hq2; simpa using h
            have hq3 := (hq1.q)
            obtain ⟨p41, c41, hv, _, _⟩ := hq3.open
            rw [hql] at hv
            subst hv
            have T41 : Hid (OwnU u9.heap.size w' (.slice p41 4 c41) ([xk, xo, xn, xt].map num)) := ⟨qs, ⟨ownsRow_mono hq3.1 hS.size, hq3.2⟩, hq2⟩
            clear hq1 hq3 hql hq2
            try go_wp2_with fail
            refine hK.out _ _ ?hs48 (fun _ => ?_)
            case hs48 => exact gb (bel_next hS hb)
            try simp only [List.setIfInBounds_toArray, List.set_cons_zero, List.set_cons_succ]
            exact H11000 _ (by kernel_rfl) g40 p41 c41 _ (bel_next hS hb) (hide (T40.out.below hb)) T41
          · go_simp
            have T44 := hide (TU.made hS sk hsk)
            refine hK.out _ _ ?hs49 (fun _ => ?_)
            case hs49 => exact gb (conv_next hS sk)
            try simp only [List.setIfInBounds_toArray, List.set_cons_zero, List.set_cons_succ]
            exact H10100 _ (by kernel_rfl) g40 _ _ _ (conv_next hS sk) (hide (T40.out.conv sk)) T44
          · go_simp
            have T47 := hide (TU.made hS sw hsw)
            refine hK.out _ _ ?hs50 (fun _ => ?_)
            case hs50 => exact gb (conv_next hS sw)
            try simp only [List.setIfInBounds_toArray, List.set_cons_zero, List.set_cons_succ]
            exact H10010 _ (by kernel_rfl) g40 _ _ _ (conv_next hS sw) (hide (T40.out.conv sw)) T47
        refine share_intro _ _ _ _ _ _ _ _ _ (fun Z => ∀ listed : Array Bool, listed = #[true, true, true, true, true, true, true, true, true, false, false, true, true, true, true, true, false, false, false, false, false, false, false] → ∀ (g44 : Nat) (c44 : Nat) (W : World), Below u9.heap.size u9 W → Hid (TU W (.slice (some ⟨g44, 0, none⟩) sk.size c44) (bytesL sk)) → Z 9 listed ⟨#[.agg #[.int .i64 r, .int .i64 s, .slice pa na ca, .slice (some ⟨bb, off, none⟩) ne ce], .pointer (some ⟨w.heap.size, 0, none⟩), .slice none 0 0, .slice pt (k + 2) ct, .int .i64 (k : Int), .pointer (some ⟨wr.heap.size, 0, none⟩), .pointer (some ⟨w.heap.size, 0, none⟩), .pointer (some ⟨w.heap.size, 0, none⟩), .int .i64 r, .pointer (some ⟨w.heap.size, 0, none⟩), .pointer (some ⟨w.heap.size, 1, none⟩), .int .i64 s, .slice (some ⟨u.heap.size, 0, none⟩) 2 2, .slice p13 2 q13, .slice p19 (pack [num r, num s]).length q19, .pointer (some ⟨w.heap.size, 2, none⟩), .slice pa na ca, .slice p22 (putC c).length q22, vt, .int .i64 (k : Int), .pointer (some ⟨w.heap.size, 3, none⟩), .slice (some ⟨bb, off, none⟩) ne ce, .int .i64 (ne : Int), .bool true, u24, u25, .pointer (some ⟨w.heap.size, 3, none⟩), .slice (some ⟨bb, off, none⟩) ne ce, .int .i64 (k : Int), .pointer (some ⟨bb, off + k * 6, none⟩), .agg #[.int .i64 xk, .int .i64 xo, .string sk, .int .i64 xn, .int .i64 xt, .string sw], .slice pt (k + 2) ct, .pointer (some ⟨wr.heap.size, 0, none⟩), .int .i64 xk, .pointer (some ⟨wr.heap.size, 1, none⟩), .int .i64 xo, .pointer (some ⟨wr.heap.size, 3, none⟩), .int .i64 xn, .pointer (some ⟨wr.heap.size, 4, none⟩), .int .i64 xt, u40, u41, .pointer (some ⟨wr.heap.size, 2, none⟩), .string sk, .slice (some ⟨g44, 0, none⟩) sk.size c44, .pointer (some ⟨wr.heap.size, 5, none⟩), .string sw, u47, u48, u49, u50, u51, u52, undef, undef], []⟩ W) ?_ (fun H00100 => ?_)
        · intro listed hl g44 c44 W hS T44
          subst hl
          refine wpAnyH_ready (rs := [9, 16]) (by kernel_rfl) (by simp) ?_
          refine AllReadyH.cons rfl (fun K hK => ?_) (AllReadyH.cons rfl (fun K hK => ?_) AllReadyH.nil)
          · go_simp
            have T40 := hide (NS.new W _ rfl [xk, xo, xn, xt] _ rfl 3 (0, 0) 4 rfl (by decide))
            refine hK.out _ _ ?hs51 (fun _ => ?_)
            case hs51 => exact gb (bel_next hS (bel1 _ _))
            try simp only [List.setIfInBounds_toArray, List.set_cons_zero, List.set_cons_succ]
            exact H10100 _ (by kernel_rfl) _ g44 c44 _ (bel_next hS (bel1 _ _)) T40 (hide (T44.out.alloc _))
          · go_simp
            have T47 := hide (TU.made hS sw hsw)
            refine hK.out _ _ ?hs52 (fun _ => ?_)
            case hs52 => exact gb (conv_next hS sw)
            try simp only [List.setIfInBounds_toArray, List.set_cons_zero, List.set_cons_succ]
            exact H00110 _ (by kernel_rfl) g44 c44 _ _ _ (conv_next hS sw) (hide (T44.out.conv sw)) T47
        refine share_intro _ _ _ _ _ _ _ _ _ (fun Z => ∀ listed : Array Bool, listed = #[true, true, true, true, true, true, true, true, true, false, false, true, true, false, true, true, true, false, false, false, false, false, false] → ∀ (g47 : Nat) (c47 : Nat) (W : World), Below u9.heap.size u9 W → Hid (TU W (.slice (some ⟨g47, 0, none⟩) sw.size c47) (bytesL sw)) → Z 9 listed ⟨#[.agg #[.int .i64 r, .int .i64 s, .slice pa na ca, .slice (some ⟨bb, off, none⟩) ne ce], .pointer (some ⟨w.heap.size, 0, none⟩), .slice none 0 0, .slice pt (k + 2) ct, .int .i64 (k : Int), .pointer (some ⟨wr.heap.size, 0, none⟩), .pointer (some ⟨w.heap.size, 0, none⟩), .pointer (some ⟨w.heap.size, 0, none⟩), .int .i64 r, .pointer (some ⟨w.heap.size, 0, none⟩), .pointer (some ⟨w.heap.size, 1, none⟩), .int .i64 s, .slice (some ⟨u.heap.size, 0, none⟩) 2 2, .slice p13 2 q13, .slice p19 (pack [num r, num s]).length q19, .pointer (some ⟨w.heap.size, 2, none⟩), .slice pa na ca, .slice p22 (putC c).length q22, vt, .int .i64 (k : Int), .pointer (some ⟨w.heap.size, 3, none⟩), .slice (some ⟨bb, off, none⟩) ne ce, .int .i64 (ne : Int), .bool true, u24, u25, .pointer (some ⟨w.heap.size, 3, none⟩), .slice (some ⟨bb, off, none⟩) ne ce, .int .i64 (k : Int), .pointer (some ⟨bb, off + k * 6, none⟩), .agg #[.int .i64 xk, .int .i64 xo, .string sk, .int .i64 xn, .int .i64 xt, .string sw], .slice pt (k + 2) ct, .pointer (some ⟨wr.heap.size, 0, none⟩), .int .i64 xk, .pointer (some ⟨wr.heap.size, 1, none⟩), .int .i64 xo, .pointer (some ⟨wr.heap.size, 3, none⟩), .int .i64 xn, .pointer (some ⟨wr.heap.size, 4, none⟩), .int .i64 xt, u40, u41, .pointer (some ⟨wr.heap.size, 2, none⟩), .string sk, u44, .pointer (some ⟨wr.heap.size, 5, none⟩), .string sw, .slice (some ⟨g47, 0, none⟩) sw.size c47, u48, u49, u50, u51, u52, undef, undef], []⟩ W) ?_ (fun H00010 => ?_)
        · intro listed hl g47 c47 W hS T47
          subst hl
          refine wpAnyH_ready (rs := [9, 13]) (by kernel_rfl) (by simp) ?_
          refine AllReadyH.cons rfl (fun K hK => ?_) (AllReadyH.cons rfl (fun K hK => ?_) AllReadyH.nil)
          · go_simp
            have T40 := hide (NS.new W _ rfl [xk, xo, xn, xt] _ rfl 3 (0, 0) 4 rfl (by decide))
            refine hK.out _ _ ?hs53 (fun _ => ?_)
            case hs53 => exact gb (bel_next hS (bel1 _ _))
            try simp only [List.setIfInBounds_toArray, List.set_cons_zero, List.set_cons_succ]
            exact H10010 _ (by kernel_rfl) _ g47 c47 _ (bel_next hS (bel1 _ _)) T40 (hide (T47.out.alloc _))
          · go_simp
            have T44 := hide (TU.made hS sk hsk)
            refine hK.out _ _ ?hs54 (fun _ => ?_)
            case hs54 => exact gb (conv_next hS sk)
            try simp only [List.setIfInBounds_toArray, List.set_cons_zero, List.set_cons_succ]
            exact H00110 _ (by kernel_rfl) _ _ g47 c47 _ (conv_next hS sk) T44 (hide (T47.out.conv sk))
        refine share_intro _ _ _ _ _ _ _ _ _ (fun Z => ∀ listed : Array Bool, listed = #[true, true, true, true, true, true, true, true, true, false, false, true, true, false, true, true, false, false, false, false, false, false, false] → ∀ (W : World), Below u9.heap.size u9 W → Z 10 listed ⟨#[.agg #[.int .i64 r, .int .i64 s, .slice pa na ca, .slice (some ⟨bb, off, none⟩) ne ce], .pointer (some ⟨w.heap.size, 0, none⟩), .slice none 0 0, .slice pt (k + 2) ct, .int .i64 (k : Int), .pointer (some ⟨wr.heap.size, 0, none⟩), .pointer (some ⟨w.heap.size, 0, none⟩), .pointer (some ⟨w.heap.size, 0, none⟩), .int .i64 r, .pointer (some ⟨w.heap.size, 0, none⟩), .pointer (some ⟨w.heap.size, 1, none⟩), .int .i64 s, .slice (some ⟨u.heap.size, 0, none⟩) 2 2, .slice p13 2 q13, .slice p19 (pack [num r, num s]).length q19, .pointer (some ⟨w.heap.size, 2, none⟩), .slice pa na ca, .slice p22 (putC c).length q22, vt, .int .i64 (k : Int), .pointer (some ⟨w.heap.size, 3, none⟩), .slice (some ⟨bb, off, none⟩) ne ce, .int .i64 (ne : Int), .bool true, u24, u25, .pointer (some ⟨w.heap.size, 3, none⟩), .slice (some ⟨bb, off, none⟩) ne ce, .int .i64 (k : Int), .pointer (some ⟨bb, off + k * 6, none⟩), .agg #[.int .i64 xk, .int .i64 xo, .string sk, .int .i64 xn, .int .i64 xt, .string sw], .slice pt (k + 2) ct, .pointer (some ⟨wr.heap.size, 0, none⟩), .int .i64 xk, .pointer (some ⟨wr.heap.size, 1, none⟩), .int .i64 xo, .pointer (some ⟨wr.heap.size, 3, none⟩), .int .i64 xn, .pointer (some ⟨wr.heap.size, 4, none⟩), .int .i64 xt, u40, u41, .pointer (some ⟨wr.heap.size, 2, none⟩), .string sk, u44, .pointer (some ⟨wr.heap.size, 5, none⟩), .string sw, u47, u48, u49, u50, u51, u52, undef, undef], []⟩ W) ?_ (fun H00000 => ?_)
        · intro listed hl  W hS 
          subst hl
          refine wpAnyH_ready (rs := [9, 13, 16]) (by kernel_rfl) (by simp) ?_
          refine AllReadyH.cons rfl (fun K hK => ?_) (AllReadyH.cons rfl (fun K hK => ?_) (AllReadyH.cons rfl (fun K hK => ?_) AllReadyH.nil))
          · go_simp
            have T40 := hide (NS.new W _ rfl [xk, xo, xn, xt] _ rfl 3 (0, 0) 4 rfl (by decide))
            refine hK.out _ _ ?hs55 (fun _ => ?_)
            case hs55 => exact gb (bel_next hS (bel1 _ _))
            try simp only [List.setIfInBounds_toArray, List.set_cons_zero, List.set_cons_succ]
            exact H10000 _ (by kernel_rfl) _ _ (bel_next hS (bel1 _ _)) T40
          · go_simp
            have T44 := hide (TU.made hS sk hsk)
            refine hK.out _ _ ?hs56 (fun _ => ?_)
            case hs56 => exact gb (conv_next hS sk)
            try simp only [List.setIfInBounds_toArray, List.set_cons_zero, List.set_cons_succ]
            exact H00100 _ (by kernel_rfl) _ _ _ (conv_next hS sk) T44
          · go_simp
            have T47 := hide (TU.made hS sw hsw)
            refine hK.out _ _ ?hs57 (fun _ => ?_)
            case hs57 => exact gb (conv_next hS sw)
            try simp only [List.setIfInBounds_toArray, List.set_cons_zero, List.set_cons_succ]
            exact H00010 _ (by kernel_rfl) _ _ _ (conv_next hS sw) T47
        exact H00000 _ (by kernel_rfl) _ ((Below.refl _ u9).drew)
    · have hkl : k = ne := by omega
      subst hkl
      have hall : txE r s c l k = putD2 (r, s) :: putC c :: l.map putF := by
        unfold txE
        rw [List.take_of_length_le (by rw [hln.out]; exact Nat.le_refl _)]
      rw [hall] at hO hlk2
      have HPK := hide (refPack_any pt (k + 2) ct _ wr (by rw [← hall]; exact hpc) (by omega) HTX.out)
      have hsz6 := hB.out.size
      clear hpc hO hall
      go_wp2_with (go_at_call 47; refine HPK.out.mono ?_; rintro e w4 ⟨v4, rfl, g1, g2⟩)
      go_ret
      exact ⟨_, rfl, g1.mono hsz6, bel_next hB.out g2⟩
end Go.Proofs.Ytooggheoaglbeaa

