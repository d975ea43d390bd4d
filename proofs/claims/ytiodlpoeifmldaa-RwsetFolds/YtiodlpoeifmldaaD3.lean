/- Layer 8's Turned: an order of events in which what is ahead stands ahead. -/
import Derived.Test.YtiodlpoeifmldaaD0
namespace Go.Proofs.Ytiodlpoeifmldaa
open Go.RowKit Go.Lib
set_option linter.unusedVariables false
theorem Try.infoEvt8 : (Try.prog.info? 60).map (fun i => (i.zero, i.size, i.bytes)) = some (some (.agg #[.int .i64 0, .int .i64 0, .slice none 0 0, .slice none 0 0]), 4, 64) := by kernel_rfl
theorem encV_one8 (x : Rv) : ∀ v ∈ encV x, v.oneCell' = true := by
  intro v hv
  simp only [encV, List.mem_cons, List.not_mem_nil, or_false] at hv
  rcases hv with rfl | rfl | rfl | rfl <;> rfl
/-- Events of the call's own, what they say lying elsewhere. -/
def OE (N : Nat) (w0 W : World) (V : Value) (es : List Evt) : Prop := ∃ xs, OwnR encV 4 60 N W V xs ∧ xs.length = es.length ∧ ∀ (i : Nat) x e, xs[i]? = some x → es[i]? = some e → Rel w0 x e
theorem OE.below {N : Nat} {w0 W W' : World} {V : Value} {es : List Evt} (h : OE N w0 W V es) (hb : Below W.heap.size W W') : OE N w0 W' V es := by
  obtain ⟨xs, h1, h2⟩ := h
  exact ⟨xs, h1.below hb, h2⟩
theorem OE.made (w0 w : World) (N g : Nat) (hg : g = w.heap.size) (hN : N ≤ w.heap.size) : OE N w0 (w.alloc (.cells #[] 60)) (.slice (some ⟨g, 0, none⟩) 0 0) [] := ⟨[], OwnR.made w N g hg hN, rfl, fun i x e hx => by simp at hx⟩
theorem OE.evs {N : Nat} {w0 W : World} {V : Value} {es : List Evt} (h : OE N w0 W V es) (hb : Below w0.heap.size w0 W) : ∃ p c, V = .slice p es.length c ∧ EVS W p es.length es ∧ CP p es.length c := by
  obtain ⟨xs, h1, h2, h3⟩ := h
  obtain ⟨p, c, e, k1, k2⟩ := h1.open encV_len
  rw [h2] at e k1 k2
  exact ⟨p, c, e, ⟨xs, k1, rfl, fun i x f hx hf => (h3 i x f hx hf).below hb⟩, k2⟩
theorem OE.blk {N : Nat} {w0 W : World} {V : Value} {es : List Evt} (h : OE N w0 W V es) : ∀ g, V.ownBlock = some g → N ≤ g ∧ g < W.heap.size := by
  intro g hg
  obtain ⟨xs, ⟨_, h1⟩, _⟩ := h
  rcases h1 with ⟨rfl, _⟩ | ⟨g', cap, cur, rfl, h2, h3, _⟩
  · simp [Value.ownBlock] at hg
  · simp only [Value.ownBlock, Option.some.injEq] at hg
    subst hg
    exact ⟨h2, (Array.getElem?_eq_some_iff.1 h3).1⟩
theorem OE.grown {N : Nat} {w0 W W' : World} {V : Value} {es : List Evt} {r : Option Nat} (h : OE N w0 W V es) (hne : ∀ g, V.ownBlock = some g → some g ≠ r) (hg : W.grownBy W' r) : OE N w0 W' V es := by
  obtain ⟨xs, ⟨h0, h1⟩, h2⟩ := h
  refine ⟨xs, ⟨h0, ?_⟩, h2⟩
  rcases h1 with h1 | ⟨g, cap, cur, rfl, k1, k2, k3⟩
  · exact .inl h1
  · refine .inr ⟨g, cap, cur, rfl, k1, ?_, k3⟩
    obtain ⟨_, _, _, _, k5⟩ := hg
    rw [k5 g (Array.getElem?_eq_some_iff.1 k2).1 (hne g rfl)]
    exact k2
theorem OwnN.grownE {N M : Nat} {w w' w0 : World} {v V : Value} {c : List Int} {es : List Evt} (h : OwnN N w v c) (ho : OE M w0 w V es) (hg : w.grownBy w' V.ownBlock) : OwnN N w' v c := by
  obtain ⟨h0, h1⟩ := h
  refine ⟨h0, ?_⟩
  rcases h1 with h1 | ⟨g, cap, cur, rfl, k1, k2, k3⟩
  · exact .inl h1
  · refine .inr ⟨g, cap, cur, rfl, k1, ?_, k3⟩
    obtain ⟨_, _, _, _, k5⟩ := hg
    rw [k5 g (Array.getElem?_eq_some_iff.1 k2).1 ?_]
    · exact k2
    · intro e
      obtain ⟨xs, ⟨_, q1⟩, _⟩ := ho
      rcases q1 with ⟨rfl, _⟩ | ⟨g', cap', cur', rfl, _, q3, _⟩
      · simp [Value.ownBlock] at e
      · simp only [Value.ownBlock, Option.some.injEq] at e
        rw [← e, k2] at q3
        simp at q3
theorem OwnN.ns8 {N : Nat} {w : World} {p : Option Addr} {n cap : Nat} {c : List Int} (h : OwnN N w (.slice p n cap) c) : NS w p n c := by
  obtain ⟨p', cap', e, h1, _⟩ := h.open
  cases e
  exact h1
/-- 'append' of an event. -/
theorem append_ev {w : World} {ops : Array Oper} {rest : List Oper} {o : Oper} {a : Act} {Q : Exit → Act → World → Prop} (hgd : o.guard = none) (s x : Operand)
    (ho : o.op = .call { callee := .builtin .append, args := #[s, x], argTypes := #[52, 52] })
    (N : Nat) (w0 : World) (V : Value) (es : List Evt) (f : Evt) (hs : a.eval s = V) (hown : OE N w0 w V es) (p : Option Addr) (cap : Nat) (hx : a.eval x = .slice p 1 cap) (hp : p = none → cap = 0) (y : Rv) (hB : RS encV 4 w p 1 [y]) (hR : Rel w0 y f)
    (hbig : es.length ≤ 100000) (hN : N ≤ w.heap.size)
    (h : ∀ v' w', OE N w0 w' v' (es ++ [f]) → w.grownBy w' V.ownBlock → (∀ u, Below N u w → Below N u w') → wpList Try.prog ops Q rest (a.put o.dst v') w') : wpList Try.prog ops Q (o :: rest) a w := by
  obtain ⟨xs, h1, h2, h3⟩ := hown
  refine append_rows hgd s x _ ho Try.underlying52 Try.infoEvt8 rfl (by decide) (by decide) encV_len encV_one8 N V xs [y] hs h1 p 1 cap hx hp hB (by rw [h2, List.length_singleton]; omega) hN ?_
  intro v' w' k1 k2 k3
  refine h v' w' ⟨xs ++ [y], k1, by simp [h2], fun i x e hx he => ?_⟩ k2 k3
  rcases Nat.lt_or_ge i xs.length with hi | hi
  · rw [List.getElem?_append_left hi] at hx
    rw [List.getElem?_append_left (by rw [← h2]; exact hi)] at he
    exact h3 i x e hx he
  · rw [List.getElem?_append_right hi] at hx
    rw [List.getElem?_append_right (by rw [← h2]; exact hi), ← h2] at he
    rcases hk : i - xs.length with _ | k
    · rw [hk] at hx he
      simp at hx he
      subst hx he
      exact hR
    · rw [hk] at hx
      simp at hx
theorem RSV.one (w : World) (y : Rv) (g : Nat) (hg : g = w.heap.size) (t : TypeId) (fr : Nat × Nat) : RS encV 4 (w.alloc (.cells #[.int .i64 y.1, .int .i64 y.2.1, .slice y.2.2.1.1 y.2.2.1.2.1 y.2.2.1.2.2, .slice y.2.2.2.1 y.2.2.2.2.1 y.2.2.2.2.2] t fr)) (some ⟨g, 0, none⟩) 1 [y] :=
  RS.new encV_len w g hg [y] _ (by simp [encV]) t fr 1 rfl (by decide)
/-- An event that lies in a slice, by its cells. -/
theorem EVS.rel {w : World} {b off n : Nat} {es : List Evt} (h : EVS w (some ⟨b, off, none⟩) n es) (i : Nat) (hi : i < n) : ∃ (y : Rv) (e : Evt), es[i]? = some e ∧ Rel w y e ∧ w.cell? ⟨b, off + i * 4, none⟩ = some (.int .i64 y.1) ∧ w.cell? ⟨b, off + i * 4 + 1, none⟩ = some (.int .i64 y.2.1) ∧ w.cell? ⟨b, off + i * 4 + 2, none⟩ = some (.slice y.2.2.1.1 y.2.2.1.2.1 y.2.2.1.2.2) ∧ w.cell? ⟨b, off + i * 4 + 3, none⟩ = some (.slice y.2.2.2.1 y.2.2.2.2.1 y.2.2.2.2.2) := by
  obtain ⟨xs, h1, h2, h3⟩ := h
  obtain ⟨x, hx⟩ : ∃ x, xs[i]? = some x := ⟨_, List.getElem?_eq_getElem (by rw [h1.1]; exact hi)⟩
  obtain ⟨e, he⟩ : ∃ e, es[i]? = some e := ⟨_, List.getElem?_eq_getElem (by rw [h2]; exact hi)⟩
  rcases h1.2.2 with hz | ⟨b', off', ha, hc⟩
  · omega
  · cases ha
    have q := hc i _ hx
    exact ⟨x, e, he, h3 i _ _ hx he, q 0 _ rfl, q 1 _ rfl, q 2 _ rfl, q 3 _ rfl⟩
/-- The same, of the call's own. -/
theorem OE.rel {N : Nat} {w0 W : World} {g n cap : Nat} {es : List Evt} (h : OE N w0 W (.slice (some ⟨g, 0, none⟩) n cap) es) (i : Nat) (hi : i < es.length) : ∃ (y : Rv) (e : Evt), es[i]? = some e ∧ Rel w0 y e ∧ W.cell? ⟨g, i * 4, none⟩ = some (.int .i64 y.1) ∧ W.cell? ⟨g, i * 4 + 1, none⟩ = some (.int .i64 y.2.1) ∧ W.cell? ⟨g, i * 4 + 2, none⟩ = some (.slice y.2.2.1.1 y.2.2.1.2.1 y.2.2.1.2.2) ∧ W.cell? ⟨g, i * 4 + 3, none⟩ = some (.slice y.2.2.2.1 y.2.2.2.2.1 y.2.2.2.2.2) := by
  obtain ⟨xs, h1, h2, h3⟩ := h
  obtain ⟨p, c, e, k1, k2⟩ := h1.open encV_len
  cases e
  obtain ⟨x, hx⟩ : ∃ x, xs[i]? = some x := ⟨_, List.getElem?_eq_getElem (by rw [h2]; exact hi)⟩
  obtain ⟨e, he⟩ : ∃ e, es[i]? = some e := ⟨_, List.getElem?_eq_getElem hi⟩
  rcases k1.2.2 with hz | ⟨b', off', ha, hc⟩
  · have := k1.1; omega
  · cases ha
    have q := hc i _ hx
    simp only [Nat.zero_add] at q
    exact ⟨x, e, he, h3 i _ _ hx he, q 0 _ rfl, q 1 _ rfl, q 2 _ rfl, q 3 _ rfl⟩
theorem OE.some {N : Nat} {w0 W : World} {V : Value} {es : List Evt} (h : OE N w0 W V es) (h0 : 0 < es.length) : ∃ g cap, V = .slice (some ⟨g, 0, none⟩) es.length cap ∧ N ≤ g := by
  obtain ⟨xs, ⟨_, h1⟩, h2, _⟩ := h
  rcases h1 with ⟨_, h1⟩ | ⟨g, cap, cur, rfl, h3, _⟩
  · omega
  · exact ⟨g, cap, by rw [h2], h3⟩
theorem filt_no {l : List Evt} {k : Nat} {e : Evt} {p : Evt → Bool} (hx : l[k]? = some e) (h : p e = false) : (l.take (k + 1)).filter p = (l.take k).filter p := by rw [take_snocL hx, List.filter_append]; simp [h]
theorem filt_yes {l : List Evt} {k : Nat} {e : Evt} {p : Evt → Bool} (hx : l[k]? = some e) (h : p e = true) : (l.take (k + 1)).filter p = (l.take k).filter p ++ [e] := by rw [take_snocL hx, List.filter_append]; simp [h]
set_option maxHeartbeats 8000000 in
set_option maxRecDepth 4000 in
theorem Turned_any (a : Option Addr) (n cap : Nat) (l : List Evt) (pt : Option Addr) (nt ct : Nat) (tl : List Int) (w : World) (hE : EVS w a n l) (hn : n ≤ 14) (hT : BS w pt nt tl) (hw : wholeB l = true) :
    Calls Try.prog 27 #[.slice a n cap, .slice pt nt ct] w fun e w' => ∃ v es c, e = .returned v ∧ OE w.heap.size w w' v es ∧ TI l es c ∧ es.length = n ∧ Below w.heap.size w w' := by
  have HV := hide hE
  have HLEN := hide hE.len
  have HT := hide hT
  have HW := hide hw
  obtain ⟨hm, hnd, _⟩ := closed_parts.1 (wholeB_iff.1 hw).1
  have HM := hide hm
  have HND := hide hnd
  have HI0 := hide (TI.start hm)
  have HTX : Hid (∀ i, i < nt → ∃ x : Int, (∃ bt offt, pt = some ⟨bt, offt, none⟩ ∧ w.cell? ⟨bt, offt + i, none⟩ = some (.int .u8 x)) ∧ 0 ≤ x ∧ x < 256) := fun i hi => by
    have hb := hT.2.2.1 (tl.getD i 0) (by rw [List.getD_eq_getElem?_getD, List.getElem?_eq_getElem (by rw [hT.1]; exact hi)]; exact List.getElem_mem _)
    rcases hT.2.2.2 with h0 | ⟨b, off, ha, hc⟩
    · omega
    · exact ⟨tl.getD i 0, ⟨b, off, ha, hc i hi⟩, hb.1, hb.2⟩
  clear hE hT hw hm hnd
  have HO0 := hide ((OE.made w w w.heap.size w.heap.size rfl (Nat.le_refl _)).below (bel1 _ (.cells #[] 3)))
  have HB0 := hide (bel2 w (.cells #[] 60) (.cells #[] 3))
  have HS0 : Hid (OwnN w.heap.size ((w.alloc (.cells #[] 60)).alloc (.cells #[] 3)) (.slice (some ⟨w.heap.size + 1, 0, none⟩) 0 0) []) := by
    have q := World.ownsRow_made (w.alloc (.cells #[] 60)) (base := w.heap.size) (e := 3) (size := 1) #[] 0 (by simp) (by decide) (by simp)
    unfold Hid OwnN
    simpa using q
  go_enter Try.func27, Try.ntmps27
  go_wp2
  go_loopw [5, 6, 7] (fun V vs v wr => ∃ (i : Nat) (es : List Evt) (c : List Int), i ≤ n ∧ v = .int .i64 i ∧ es.length = i ∧ Hid (OE w.heap.size w wr V es) ∧ Hid (OwnN w.heap.size wr vs c) ∧ Hid (TI l es c) ∧ Hid (Below w.heap.size w wr)) (fun _ _ v _ => n - (intOf v).toNat)
  case atStart => exact ⟨0, [], [], by omega, rfl, rfl, HO0, HS0, HI0, HB0⟩
  case round =>
    clear HO0 HS0 HI0 HB0
    obtain ⟨i, es, c, hi, rfl, hel, HO, HSN, HI, HB⟩ := hrel
    by_cases hlt : i < n
    · obtain ⟨b, off, rfl⟩ := HV.out.addr (by omega)
      obtain ⟨pc, cc, rfl, hns, hcs⟩ := HSN.out.open
      have hi0 : (0 : Int) ≤ (i : Int) := by omega
      have hi1 : (i : Int) < (n : Int) := by omega
      obtain ⟨nc, hnc⟩ : ∃ x, c.length = x := ⟨_, rfl⟩
      rw [hnc] at hns hcs HSN ⊢
      have HNS0 := hide hns
      have HSZ := hide hel
      have HOA : Hid (∀ g, u5.ownBlock = some g → g < wr.heap.size) := fun g hg => (HO.out.blk g hg).2
      clear hns hcs hnc hel
      obtain ⟨wa, hwa⟩ : ∃ x, x = wr := ⟨wr, rfl⟩
      have HC0 := hide (OE.made w wa wa.heap.size wa.heap.size rfl (Nat.le_refl _))
      have HBa := hide (bel1 wa (.cells #[] 60))
      rw [← hwa] at HO HSN HB HNS0 HOA ⊢
      clear hwa
      go_wp2
      go_loopw [8, 9] (fun V v wr2 => ∃ k : Nat, k ≤ n ∧ v = .int .i64 k ∧ Hid (OE wa.heap.size w wr2 V ((l.take k).filter (nextB c))) ∧ Hid (Below wa.heap.size wa wr2)) (fun _ v _ => n - (intOf v).toNat)
      case atStart => exact ⟨0, by omega, rfl, HC0, HBa⟩
      case round =>
        clear HC0 HBa
        obtain ⟨k, hk, rfl, HC, HB2⟩ := hrel
        have HBA := hide (bel_next HB.out HB2.out)
        by_cases hkn : k < n
        · obtain ⟨y, e, hx, hr, q0, q1, q2, q3⟩ := HV.out.rel k hkn
          have c0 := bcell HBA.out q0
          have c1 := bcell HBA.out q1
          have c2 := bcell HBA.out q2
          have c3 := bcell HBA.out q3
          have HX := hide hx
          have HRE := hide hr
          have HNE := hide (hr.2.1.1.below HBA.out)
          have HNS := hide (HNS0.out.below HB2.out)
          have HED : Hid (e.1 = (y.1, y.2.1)) := hr.1
          have hk0 : (0 : Int) ≤ (k : Int) := by omega
          have hk1 : (k : Int) < (n : Int) := by omega
          have HFL : Hid (((l.take k).filter (nextB c)).length ≤ n) := by
            refine Nat.le_trans (List.length_filter_le _ _) ?_
            rw [List.length_take]
            omega
          clear hx hr q0 q1 q2 q3
          go_upto_region 10 with fail
          by_cases hz : getZ c y.1 < y.2.1
          · rcases hwi : decide (wth e.2.1 c) with _ | _
            · have HWI := hide hwi
              have HF2 := hide (filt_no (p := nextB c) HX.out (by unfold nextB; rw [hwi, Bool.and_false]))
              clear hwi
              refine wp_region_held_drew (S := fun W => Below wr.heap.size wr W) (by kernel_rfl) ((Below.refl _ wr).drew) (fun hS0 => ?_)
              refine takeInH 0 26 ?v1 rfl rfl (by kernel_rfl) (by kernel_rfl) (by kernel_rfl) (fun _ _ _ h => h) (by kernel_rfl) hS0 ?hy1 ?_
              case hy1 => (intro W hW; clear hW; go_simp; try rfl)
              simp only [Act.put, List.setIfInBounds_toArray, List.set_cons_zero, List.set_cons_succ]
              refine takeInH 1 27 ?v2 rfl rfl (by kernel_rfl) (by kernel_rfl) (by kernel_rfl) (fun _ _ _ h => h) (by kernel_rfl) hS0 ?hy2 ?_
              case hy2 => (intro W hW; clear hW; go_simp; try rfl)
              simp only [Act.put, List.setIfInBounds_toArray, List.set_cons_zero, List.set_cons_succ]
              refine takeInH 2 28 ?v3 rfl rfl (by kernel_rfl) (by kernel_rfl) (by kernel_rfl) (fun _ _ _ h => h) (by kernel_rfl) hS0 ?hy3 ?_
              case hy3 => (intro W hW; clear hW; go_simp; try rfl)
              simp only [Act.put, List.setIfInBounds_toArray, List.set_cons_zero, List.set_cons_succ]
              refine takeInH 3 29 ?v4 rfl rfl (by kernel_rfl) (by kernel_rfl) (by kernel_rfl) (fun _ _ _ h => h) (by kernel_rfl) hS0 ?hy4 ?_
              case hy4 => (intro W hW; clear hW; go_simp; try rfl)
              simp only [Act.put, List.setIfInBounds_toArray, List.set_cons_zero, List.set_cons_succ]
              refine takeInH 4 30 ?v5 rfl rfl (by kernel_rfl) (by kernel_rfl) (by kernel_rfl) (fun _ _ _ h => h) (by kernel_rfl) hS0 ?hy5 ?_
              case hy5 => (intro W hW; clear hW; go_simp; try rfl)
              simp only [Act.put, List.setIfInBounds_toArray, List.set_cons_zero, List.set_cons_succ]
              refine takeInH 5 31 ?v6 rfl rfl (by kernel_rfl) (by kernel_rfl) (by kernel_rfl) (fun _ _ _ h => h) (by kernel_rfl) hS0 ?hy6 ?_
              case hy6 => (intro W hW; have e0 := bcell hW c0; have e1 := bcell hW c1; have e2 := bcell hW c2; have e3 := bcell hW c3; clear hW; go_simp; try rfl)
              simp only [Act.put, List.setIfInBounds_toArray, List.set_cons_zero, List.set_cons_succ]
              refine takeInH 6 32 ?v7 rfl rfl (by kernel_rfl) (by kernel_rfl) (by kernel_rfl) (fun _ _ _ h => h) (by kernel_rfl) hS0 ?hy7 ?_
              case hy7 => (intro W hW; clear hW; go_simp; try rfl)
              simp only [Act.put, List.setIfInBounds_toArray, List.set_cons_zero, List.set_cons_succ]
              refine takeInH 7 33 ?v8 rfl rfl (by kernel_rfl) (by kernel_rfl) (by kernel_rfl) (fun _ _ _ h => h) (by kernel_rfl) hS0 ?hy8 ?_
              case hy8 => (intro W hW; clear hW; go_simp; try rfl)
              simp only [Act.put, List.setIfInBounds_toArray, List.set_cons_zero, List.set_cons_succ]
              refine takeInH 8 34 ?v9 rfl rfl (by kernel_rfl) (by kernel_rfl) (by kernel_rfl) (fun _ _ _ h => h) (by kernel_rfl) hS0 ?hy9 ?_
              case hy9 => (intro W hW; clear hW; go_simp; try rfl)
              simp only [Act.put, List.setIfInBounds_toArray, List.set_cons_zero, List.set_cons_succ]
              refine takeInH 9 35 ?v10 rfl rfl (by kernel_rfl) (by kernel_rfl) (by kernel_rfl) (fun _ _ _ h => h) (by kernel_rfl) hS0 ?hy10 ?_
              case hy10 => (intro W hW; clear hW; go_simp; try rfl)
              simp only [Act.put, List.setIfInBounds_toArray, List.set_cons_zero, List.set_cons_succ]
              refine takeInH 10 36 ?v11 rfl rfl (by kernel_rfl) (by kernel_rfl) (by kernel_rfl) (fun _ _ _ h => h) (by kernel_rfl) hS0 ?hy11 ?_
              case hy11 => (intro W hW; clear hW; go_simp; try rfl)
              simp only [Act.put, List.setIfInBounds_toArray, List.set_cons_zero, List.set_cons_succ]
              refine takeInH 11 37 ?v12 rfl rfl (by kernel_rfl) (by kernel_rfl) (by kernel_rfl) (fun _ _ _ h => h) (by kernel_rfl) hS0 ?hy12 ?_
              case hy12 => (intro W hW; clear hW; go_simp; try rfl)
              simp only [Act.put, List.setIfInBounds_toArray, List.set_cons_zero, List.set_cons_succ]
              refine takeInH 12 38 ?v13 rfl rfl (by kernel_rfl) (by kernel_rfl) (by kernel_rfl) (fun _ _ _ h => h) (by kernel_rfl) hS0 ?hy13 ?_
              case hy13 => (intro W hW; have e0 := bcell hW c0; have e1 := bcell hW c1; have e2 := bcell hW c2; have e3 := bcell hW c3; clear hW; go_simp; try rfl)
              simp only [Act.put, List.setIfInBounds_toArray, List.set_cons_zero, List.set_cons_succ]
              refine wpAnyH_ready (rs := [13]) (by kernel_rfl) (by simp) ?_
              refine AllReadyH.cons rfl (fun K hK => ?_) AllReadyH.nil
              go_simp
              refine (get_refZ pc nc cc c y.1 _ (HNS.out.below hS0)).mono ?_
              rintro e w' ⟨rfl, hw⟩
              replace hw := hw.symm
              subst hw
              refine hK.out _ _ ?hs14 (fun hS1 => ?_)
              case hs14 => exact hS0
              clear hK K
              try simp only [Act.put, List.setIfInBounds_toArray, List.set_cons_zero, List.set_cons_succ]
              refine takeInH 14 40 ?v15 rfl rfl (by kernel_rfl) (by kernel_rfl) (by kernel_rfl) (fun _ _ _ h => h) (by kernel_rfl) hS1 ?hy15 ?_
              case hy15 => (intro W hW; clear hW; go_simp; try rfl)
              simp only [Act.put, List.setIfInBounds_toArray, List.set_cons_zero, List.set_cons_succ]
              refine takeInH 15 41 ?v16 rfl rfl (by kernel_rfl) (by kernel_rfl) (by kernel_rfl) (fun _ _ _ h => h) (by kernel_rfl) hS1 ?hy16 ?_
              case hy16 => (intro W hW; clear hW; go_simp; try rfl)
              simp only [Act.put, List.setIfInBounds_toArray, List.set_cons_zero, List.set_cons_succ]
              refine takeInH 16 42 ?v17 rfl rfl (by kernel_rfl) (by kernel_rfl) (by kernel_rfl) (fun _ _ _ h => h) (by kernel_rfl) hS1 ?hy17 ?_
              case hy17 => (intro W hW; clear hW; go_simp; try rfl)
              simp only [Act.put, List.setIfInBounds_toArray, List.set_cons_zero, List.set_cons_succ]
              refine takeInH 17 43 ?v18 rfl rfl (by kernel_rfl) (by kernel_rfl) (by kernel_rfl) (fun _ _ _ h => h) (by kernel_rfl) hS1 ?hy18 ?_
              case hy18 => (intro W hW; clear hW; go_simp; try rfl)
              simp only [Act.put, List.setIfInBounds_toArray, List.set_cons_zero, List.set_cons_succ]
              refine takeInH 18 44 ?v19 rfl rfl (by kernel_rfl) (by kernel_rfl) (by kernel_rfl) (fun _ _ _ h => h) (by kernel_rfl) hS1 ?hy19 ?_
              case hy19 => (intro W hW; clear hW; go_simp; try rfl)
              simp only [Act.put, List.setIfInBounds_toArray, List.set_cons_zero, List.set_cons_succ]
              refine takeInH 19 45 ?v20 rfl rfl (by kernel_rfl) (by kernel_rfl) (by kernel_rfl) (fun _ _ _ h => h) (by kernel_rfl) hS1 ?hy20 ?_
              case hy20 => (intro W hW; clear hW; go_simp; try rfl)
              simp only [Act.put, List.setIfInBounds_toArray, List.set_cons_zero, List.set_cons_succ]
              refine takeInH 20 46 ?v21 rfl rfl (by kernel_rfl) (by kernel_rfl) (by kernel_rfl) (fun _ _ _ h => h) (by kernel_rfl) hS1 ?hy21 ?_
              case hy21 => (intro W hW; have e0 := bcell hW c0; have e1 := bcell hW c1; have e2 := bcell hW c2; have e3 := bcell hW c3; clear hW; go_simp; try rfl)
              simp only [Act.put, List.setIfInBounds_toArray, List.set_cons_zero, List.set_cons_succ]
              refine takeInH 21 47 ?v22 rfl rfl (by kernel_rfl) (by kernel_rfl) (by kernel_rfl) (fun _ _ _ h => h) (by kernel_rfl) hS1 ?hy22 ?_
              case hy22 => (intro W hW; clear hW; go_simp; try rfl)
              simp only [Act.put, List.setIfInBounds_toArray, List.set_cons_zero, List.set_cons_succ]
              refine wpAnyH_ready (rs := [22]) (by kernel_rfl) (by simp) ?_
              refine AllReadyH.cons rfl (fun K hK => ?_) AllReadyH.nil
              go_simp
              refine (within_ref y.2.2.1.1 pc y.2.2.1.2.1 y.2.2.1.2.2 nc cc e.2.1 c _ (HNE.out.below hS1) (HNS.out.below hS1)).mono ?_
              rintro e2 w' ⟨rfl, hw⟩
              rw [show decide (wth e.2.1 c) = false from HWI.out]
              replace hw := hw.symm
              subst hw
              refine hK.out _ _ ?hs23 (fun hS2 => ?_)
              case hs23 => exact hS1
              clear hK K
              try simp only [Act.put, List.setIfInBounds_toArray, List.set_cons_zero, List.set_cons_succ]
              refine takeInH 23 49 ?v24 rfl rfl (by kernel_rfl) (by kernel_rfl) (by kernel_rfl) (fun _ _ _ h => h) (by kernel_rfl) hS2 ?hy24 ?_
              case hy24 => (intro W hW; clear hW; go_simp; try rfl)
              simp only [Act.put, List.setIfInBounds_toArray, List.set_cons_zero, List.set_cons_succ]
              refine wpAnyH_done (by kernel_rfl) ?_ _
              go_wp2
              go_roundw
              case rel => exact ⟨k + 1, by omega, by go_num, (show Hid _ by have := HC.out.below hS2; rwa [← HF2.out] at this), (show Hid _ from HB2.out.trans (hS2.mono HB2.out.size))⟩
              case measure => simp [intOf]; omega
            · have HWI := hide hwi
              have HF2 := hide (filt_yes (p := nextB c) HX.out (by unfold nextB; rw [hwi, HED.out, decide_eq_true hz]; rfl))
              clear hwi
              refine wp_region_held_drew (S := fun W => Below wr.heap.size wr W) (by kernel_rfl) ((Below.refl _ wr).drew) (fun hS0 => ?_)
              refine takeInH 0 26 ?v25 rfl rfl (by kernel_rfl) (by kernel_rfl) (by kernel_rfl) (fun _ _ _ h => h) (by kernel_rfl) hS0 ?hy25 ?_
              case hy25 => (intro W hW; clear hW; go_simp; try rfl)
              simp only [Act.put, List.setIfInBounds_toArray, List.set_cons_zero, List.set_cons_succ]
              refine takeInH 1 27 ?v26 rfl rfl (by kernel_rfl) (by kernel_rfl) (by kernel_rfl) (fun _ _ _ h => h) (by kernel_rfl) hS0 ?hy26 ?_
              case hy26 => (intro W hW; clear hW; go_simp; try rfl)
              simp only [Act.put, List.setIfInBounds_toArray, List.set_cons_zero, List.set_cons_succ]
              refine takeInH 2 28 ?v27 rfl rfl (by kernel_rfl) (by kernel_rfl) (by kernel_rfl) (fun _ _ _ h => h) (by kernel_rfl) hS0 ?hy27 ?_
              case hy27 => (intro W hW; clear hW; go_simp; try rfl)
              simp only [Act.put, List.setIfInBounds_toArray, List.set_cons_zero, List.set_cons_succ]
              refine takeInH 3 29 ?v28 rfl rfl (by kernel_rfl) (by kernel_rfl) (by kernel_rfl) (fun _ _ _ h => h) (by kernel_rfl) hS0 ?hy28 ?_
              case hy28 => (intro W hW; clear hW; go_simp; try rfl)
              simp only [Act.put, List.setIfInBounds_toArray, List.set_cons_zero, List.set_cons_succ]
              refine takeInH 4 30 ?v29 rfl rfl (by kernel_rfl) (by kernel_rfl) (by kernel_rfl) (fun _ _ _ h => h) (by kernel_rfl) hS0 ?hy29 ?_
              case hy29 => (intro W hW; clear hW; go_simp; try rfl)
              simp only [Act.put, List.setIfInBounds_toArray, List.set_cons_zero, List.set_cons_succ]
              refine takeInH 5 31 ?v30 rfl rfl (by kernel_rfl) (by kernel_rfl) (by kernel_rfl) (fun _ _ _ h => h) (by kernel_rfl) hS0 ?hy30 ?_
              case hy30 => (intro W hW; have e0 := bcell hW c0; have e1 := bcell hW c1; have e2 := bcell hW c2; have e3 := bcell hW c3; clear hW; go_simp; try rfl)
              simp only [Act.put, List.setIfInBounds_toArray, List.set_cons_zero, List.set_cons_succ]
              refine takeInH 6 32 ?v31 rfl rfl (by kernel_rfl) (by kernel_rfl) (by kernel_rfl) (fun _ _ _ h => h) (by kernel_rfl) hS0 ?hy31 ?_
              case hy31 => (intro W hW; clear hW; go_simp; try rfl)
              simp only [Act.put, List.setIfInBounds_toArray, List.set_cons_zero, List.set_cons_succ]
              refine takeInH 7 33 ?v32 rfl rfl (by kernel_rfl) (by kernel_rfl) (by kernel_rfl) (fun _ _ _ h => h) (by kernel_rfl) hS0 ?hy32 ?_
              case hy32 => (intro W hW; clear hW; go_simp; try rfl)
              simp only [Act.put, List.setIfInBounds_toArray, List.set_cons_zero, List.set_cons_succ]
              refine takeInH 8 34 ?v33 rfl rfl (by kernel_rfl) (by kernel_rfl) (by kernel_rfl) (fun _ _ _ h => h) (by kernel_rfl) hS0 ?hy33 ?_
              case hy33 => (intro W hW; clear hW; go_simp; try rfl)
              simp only [Act.put, List.setIfInBounds_toArray, List.set_cons_zero, List.set_cons_succ]
              refine takeInH 9 35 ?v34 rfl rfl (by kernel_rfl) (by kernel_rfl) (by kernel_rfl) (fun _ _ _ h => h) (by kernel_rfl) hS0 ?hy34 ?_
              case hy34 => (intro W hW; clear hW; go_simp; try rfl)
              simp only [Act.put, List.setIfInBounds_toArray, List.set_cons_zero, List.set_cons_succ]
              refine takeInH 10 36 ?v35 rfl rfl (by kernel_rfl) (by kernel_rfl) (by kernel_rfl) (fun _ _ _ h => h) (by kernel_rfl) hS0 ?hy35 ?_
              case hy35 => (intro W hW; clear hW; go_simp; try rfl)
              simp only [Act.put, List.setIfInBounds_toArray, List.set_cons_zero, List.set_cons_succ]
              refine takeInH 11 37 ?v36 rfl rfl (by kernel_rfl) (by kernel_rfl) (by kernel_rfl) (fun _ _ _ h => h) (by kernel_rfl) hS0 ?hy36 ?_
              case hy36 => (intro W hW; clear hW; go_simp; try rfl)
              simp only [Act.put, List.setIfInBounds_toArray, List.set_cons_zero, List.set_cons_succ]
              refine takeInH 12 38 ?v37 rfl rfl (by kernel_rfl) (by kernel_rfl) (by kernel_rfl) (fun _ _ _ h => h) (by kernel_rfl) hS0 ?hy37 ?_
              case hy37 => (intro W hW; have e0 := bcell hW c0; have e1 := bcell hW c1; have e2 := bcell hW c2; have e3 := bcell hW c3; clear hW; go_simp; try rfl)
              simp only [Act.put, List.setIfInBounds_toArray, List.set_cons_zero, List.set_cons_succ]
              refine wpAnyH_ready (rs := [13]) (by kernel_rfl) (by simp) ?_
              refine AllReadyH.cons rfl (fun K hK => ?_) AllReadyH.nil
              go_simp
              refine (get_refZ pc nc cc c y.1 _ (HNS.out.below hS0)).mono ?_
              rintro e w' ⟨rfl, hw⟩
              replace hw := hw.symm
              subst hw
              refine hK.out _ _ ?hs38 (fun hS1 => ?_)
              case hs38 => exact hS0
              clear hK K
              try simp only [Act.put, List.setIfInBounds_toArray, List.set_cons_zero, List.set_cons_succ]
              refine takeInH 14 40 ?v39 rfl rfl (by kernel_rfl) (by kernel_rfl) (by kernel_rfl) (fun _ _ _ h => h) (by kernel_rfl) hS1 ?hy39 ?_
              case hy39 => (intro W hW; clear hW; go_simp; try rfl)
              simp only [Act.put, List.setIfInBounds_toArray, List.set_cons_zero, List.set_cons_succ]
              refine takeInH 15 41 ?v40 rfl rfl (by kernel_rfl) (by kernel_rfl) (by kernel_rfl) (fun _ _ _ h => h) (by kernel_rfl) hS1 ?hy40 ?_
              case hy40 => (intro W hW; clear hW; go_simp; try rfl)
              simp only [Act.put, List.setIfInBounds_toArray, List.set_cons_zero, List.set_cons_succ]
              refine takeInH 16 42 ?v41 rfl rfl (by kernel_rfl) (by kernel_rfl) (by kernel_rfl) (fun _ _ _ h => h) (by kernel_rfl) hS1 ?hy41 ?_
              case hy41 => (intro W hW; clear hW; go_simp; try rfl)
              simp only [Act.put, List.setIfInBounds_toArray, List.set_cons_zero, List.set_cons_succ]
              refine takeInH 17 43 ?v42 rfl rfl (by kernel_rfl) (by kernel_rfl) (by kernel_rfl) (fun _ _ _ h => h) (by kernel_rfl) hS1 ?hy42 ?_
              case hy42 => (intro W hW; clear hW; go_simp; try rfl)
              simp only [Act.put, List.setIfInBounds_toArray, List.set_cons_zero, List.set_cons_succ]
              refine takeInH 18 44 ?v43 rfl rfl (by kernel_rfl) (by kernel_rfl) (by kernel_rfl) (fun _ _ _ h => h) (by kernel_rfl) hS1 ?hy43 ?_
              case hy43 => (intro W hW; clear hW; go_simp; try rfl)
              simp only [Act.put, List.setIfInBounds_toArray, List.set_cons_zero, List.set_cons_succ]
              refine takeInH 19 45 ?v44 rfl rfl (by kernel_rfl) (by kernel_rfl) (by kernel_rfl) (fun _ _ _ h => h) (by kernel_rfl) hS1 ?hy44 ?_
              case hy44 => (intro W hW; clear hW; go_simp; try rfl)
              simp only [Act.put, List.setIfInBounds_toArray, List.set_cons_zero, List.set_cons_succ]
              refine takeInH 20 46 ?v45 rfl rfl (by kernel_rfl) (by kernel_rfl) (by kernel_rfl) (fun _ _ _ h => h) (by kernel_rfl) hS1 ?hy45 ?_
              case hy45 => (intro W hW; have e0 := bcell hW c0; have e1 := bcell hW c1; have e2 := bcell hW c2; have e3 := bcell hW c3; clear hW; go_simp; try rfl)
              simp only [Act.put, List.setIfInBounds_toArray, List.set_cons_zero, List.set_cons_succ]
              refine takeInH 21 47 ?v46 rfl rfl (by kernel_rfl) (by kernel_rfl) (by kernel_rfl) (fun _ _ _ h => h) (by kernel_rfl) hS1 ?hy46 ?_
              case hy46 => (intro W hW; clear hW; go_simp; try rfl)
              simp only [Act.put, List.setIfInBounds_toArray, List.set_cons_zero, List.set_cons_succ]
              refine wpAnyH_ready (rs := [22]) (by kernel_rfl) (by simp) ?_
              refine AllReadyH.cons rfl (fun K hK => ?_) AllReadyH.nil
              go_simp
              refine (within_ref y.2.2.1.1 pc y.2.2.1.2.1 y.2.2.1.2.2 nc cc e.2.1 c _ (HNE.out.below hS1) (HNS.out.below hS1)).mono ?_
              rintro e2 w' ⟨rfl, hw⟩
              rw [show decide (wth e.2.1 c) = true from HWI.out]
              replace hw := hw.symm
              subst hw
              refine hK.out _ _ ?hs47 (fun hS2 => ?_)
              case hs47 => exact hS1
              clear hK K
              try simp only [Act.put, List.setIfInBounds_toArray, List.set_cons_zero, List.set_cons_succ]
              refine takeInH 23 49 ?v48 rfl rfl (by kernel_rfl) (by kernel_rfl) (by kernel_rfl) (fun _ _ _ h => h) (by kernel_rfl) hS2 ?hy48 ?_
              case hy48 => (intro W hW; clear hW; go_simp; try rfl)
              simp only [Act.put, List.setIfInBounds_toArray, List.set_cons_zero, List.set_cons_succ]
              refine wpAnyH_done (by kernel_rfl) ?_ _
              replace HC := hide (HC.out.below hS2)
              replace HB2 : Hid (Below wa.heap.size wa wr.drew) := HB2.out.trans (hS2.mono HB2.out.size)
              replace c0 := bcell hS2 c0
              replace c1 := bcell hS2 c1
              replace c2 := bcell hS2 c2
              replace c3 := bcell hS2 c3
              clear hS2
              generalize wr.drew = wq at *
              go_wp2_with (at_builtin; refine Stop.at ?_)
              unfold Stop
              have HBq := hide (bel1 wq (.cells #[.int .i64 y.1, .int .i64 y.2.1, .slice y.2.2.1.1 y.2.2.1.2.1 y.2.2.1.2.2, .slice y.2.2.2.1 y.2.2.2.2.1 y.2.2.2.2.2] 60))
              have HB3 : Hid (Below wa.heap.size wa _) := HB2.out.trans (HBq.out.mono HB2.out.size)
              refine append_ev rfl _ _ rfl wa.heap.size w u8 _ e rfl (HC.out.below HBq.out) (some ⟨wq.heap.size, 0, none⟩) 1 rfl (fun h => by cases h) y (RSV.one wq y _ rfl 60 (0, 0)) HRE.out (by have := HFL.out; omega) HB3.out.size ?_
              intro v3 w3 ho3 _ hbel3
              have HC3 := hide ho3
              rw [← HF2.out] at HC3
              have HB4 := hide (hbel3 _ HB3.out)
              clear ho3 hbel3 HB3 HBq
              go_wp2
              go_roundw
              case rel => exact ⟨k + 1, by omega, by go_num, HC3, HB4⟩
              case measure => simp [intOf]; omega
          · have HF2 := hide (filt_no (p := nextB c) HX.out (by unfold nextB; rw [HED.out, decide_eq_false hz]; rfl))
            refine wp_region_held_drew (S := fun W => Below wr.heap.size wr W) (by kernel_rfl) ((Below.refl _ wr).drew) (fun hS0 => ?_)
            refine takeInH 0 26 ?v49 rfl rfl (by kernel_rfl) (by kernel_rfl) (by kernel_rfl) (fun _ _ _ h => h) (by kernel_rfl) hS0 ?hy49 ?_
            case hy49 => (intro W hW; clear hW; go_simp; try rfl)
            simp only [Act.put, List.setIfInBounds_toArray, List.set_cons_zero, List.set_cons_succ]
            refine takeInH 1 27 ?v50 rfl rfl (by kernel_rfl) (by kernel_rfl) (by kernel_rfl) (fun _ _ _ h => h) (by kernel_rfl) hS0 ?hy50 ?_
            case hy50 => (intro W hW; clear hW; go_simp; try rfl)
            simp only [Act.put, List.setIfInBounds_toArray, List.set_cons_zero, List.set_cons_succ]
            refine takeInH 2 28 ?v51 rfl rfl (by kernel_rfl) (by kernel_rfl) (by kernel_rfl) (fun _ _ _ h => h) (by kernel_rfl) hS0 ?hy51 ?_
            case hy51 => (intro W hW; clear hW; go_simp; try rfl)
            simp only [Act.put, List.setIfInBounds_toArray, List.set_cons_zero, List.set_cons_succ]
            refine takeInH 3 29 ?v52 rfl rfl (by kernel_rfl) (by kernel_rfl) (by kernel_rfl) (fun _ _ _ h => h) (by kernel_rfl) hS0 ?hy52 ?_
            case hy52 => (intro W hW; clear hW; go_simp; try rfl)
            simp only [Act.put, List.setIfInBounds_toArray, List.set_cons_zero, List.set_cons_succ]
            refine takeInH 4 30 ?v53 rfl rfl (by kernel_rfl) (by kernel_rfl) (by kernel_rfl) (fun _ _ _ h => h) (by kernel_rfl) hS0 ?hy53 ?_
            case hy53 => (intro W hW; clear hW; go_simp; try rfl)
            simp only [Act.put, List.setIfInBounds_toArray, List.set_cons_zero, List.set_cons_succ]
            refine takeInH 5 31 ?v54 rfl rfl (by kernel_rfl) (by kernel_rfl) (by kernel_rfl) (fun _ _ _ h => h) (by kernel_rfl) hS0 ?hy54 ?_
            case hy54 => (intro W hW; have e0 := bcell hW c0; have e1 := bcell hW c1; have e2 := bcell hW c2; have e3 := bcell hW c3; clear hW; go_simp; try rfl)
            simp only [Act.put, List.setIfInBounds_toArray, List.set_cons_zero, List.set_cons_succ]
            refine takeInH 6 32 ?v55 rfl rfl (by kernel_rfl) (by kernel_rfl) (by kernel_rfl) (fun _ _ _ h => h) (by kernel_rfl) hS0 ?hy55 ?_
            case hy55 => (intro W hW; clear hW; go_simp; try rfl)
            simp only [Act.put, List.setIfInBounds_toArray, List.set_cons_zero, List.set_cons_succ]
            refine takeInH 7 33 ?v56 rfl rfl (by kernel_rfl) (by kernel_rfl) (by kernel_rfl) (fun _ _ _ h => h) (by kernel_rfl) hS0 ?hy56 ?_
            case hy56 => (intro W hW; clear hW; go_simp; try rfl)
            simp only [Act.put, List.setIfInBounds_toArray, List.set_cons_zero, List.set_cons_succ]
            refine takeInH 8 34 ?v57 rfl rfl (by kernel_rfl) (by kernel_rfl) (by kernel_rfl) (fun _ _ _ h => h) (by kernel_rfl) hS0 ?hy57 ?_
            case hy57 => (intro W hW; clear hW; go_simp; try rfl)
            simp only [Act.put, List.setIfInBounds_toArray, List.set_cons_zero, List.set_cons_succ]
            refine takeInH 9 35 ?v58 rfl rfl (by kernel_rfl) (by kernel_rfl) (by kernel_rfl) (fun _ _ _ h => h) (by kernel_rfl) hS0 ?hy58 ?_
            case hy58 => (intro W hW; clear hW; go_simp; try rfl)
            simp only [Act.put, List.setIfInBounds_toArray, List.set_cons_zero, List.set_cons_succ]
            refine takeInH 10 36 ?v59 rfl rfl (by kernel_rfl) (by kernel_rfl) (by kernel_rfl) (fun _ _ _ h => h) (by kernel_rfl) hS0 ?hy59 ?_
            case hy59 => (intro W hW; clear hW; go_simp; try rfl)
            simp only [Act.put, List.setIfInBounds_toArray, List.set_cons_zero, List.set_cons_succ]
            refine takeInH 11 37 ?v60 rfl rfl (by kernel_rfl) (by kernel_rfl) (by kernel_rfl) (fun _ _ _ h => h) (by kernel_rfl) hS0 ?hy60 ?_
            case hy60 => (intro W hW; clear hW; go_simp; try rfl)
            simp only [Act.put, List.setIfInBounds_toArray, List.set_cons_zero, List.set_cons_succ]
            refine takeInH 12 38 ?v61 rfl rfl (by kernel_rfl) (by kernel_rfl) (by kernel_rfl) (fun _ _ _ h => h) (by kernel_rfl) hS0 ?hy61 ?_
            case hy61 => (intro W hW; have e0 := bcell hW c0; have e1 := bcell hW c1; have e2 := bcell hW c2; have e3 := bcell hW c3; clear hW; go_simp; try rfl)
            simp only [Act.put, List.setIfInBounds_toArray, List.set_cons_zero, List.set_cons_succ]
            refine wpAnyH_ready (rs := [13]) (by kernel_rfl) (by simp) ?_
            refine AllReadyH.cons rfl (fun K hK => ?_) AllReadyH.nil
            go_simp
            refine (get_refZ pc nc cc c y.1 _ (HNS.out.below hS0)).mono ?_
            rintro e w' ⟨rfl, hw⟩
            replace hw := hw.symm
            subst hw
            refine hK.out _ _ ?hs62 (fun hS1 => ?_)
            case hs62 => exact hS0
            clear hK K
            try simp only [Act.put, List.setIfInBounds_toArray, List.set_cons_zero, List.set_cons_succ]
            refine takeInH 14 40 ?v63 rfl rfl (by kernel_rfl) (by kernel_rfl) (by kernel_rfl) (fun _ _ _ h => h) (by kernel_rfl) hS1 ?hy63 ?_
            case hy63 => (intro W hW; clear hW; go_simp; try rfl)
            simp only [Act.put, List.setIfInBounds_toArray, List.set_cons_zero, List.set_cons_succ]
            refine takeInH 15 41 ?v64 rfl rfl (by kernel_rfl) (by kernel_rfl) (by kernel_rfl) (fun _ _ _ h => h) (by kernel_rfl) hS1 ?hy64 ?_
            case hy64 => (intro W hW; clear hW; go_simp; try rfl)
            simp only [Act.put, List.setIfInBounds_toArray, List.set_cons_zero, List.set_cons_succ]
            refine takeNoH 16 42 rfl rfl (by kernel_rfl) (by kernel_rfl) (by kernel_rfl) (fun _ _ _ h => h) (by kernel_rfl) hS1 ?_
            simp only [Act.put, List.setIfInBounds_toArray, List.set_cons_zero, List.set_cons_succ]
            refine takeNoH 17 43 rfl rfl (by kernel_rfl) (by kernel_rfl) (by kernel_rfl) (fun _ _ _ h => h) (by kernel_rfl) hS1 ?_
            simp only [Act.put, List.setIfInBounds_toArray, List.set_cons_zero, List.set_cons_succ]
            refine takeNoH 18 44 rfl rfl (by kernel_rfl) (by kernel_rfl) (by kernel_rfl) (fun _ _ _ h => h) (by kernel_rfl) hS1 ?_
            simp only [Act.put, List.setIfInBounds_toArray, List.set_cons_zero, List.set_cons_succ]
            refine takeNoH 19 45 rfl rfl (by kernel_rfl) (by kernel_rfl) (by kernel_rfl) (fun _ _ _ h => h) (by kernel_rfl) hS1 ?_
            simp only [Act.put, List.setIfInBounds_toArray, List.set_cons_zero, List.set_cons_succ]
            refine takeNoH 20 46 rfl rfl (by kernel_rfl) (by kernel_rfl) (by kernel_rfl) (fun _ _ _ h => h) (by kernel_rfl) hS1 ?_
            simp only [Act.put, List.setIfInBounds_toArray, List.set_cons_zero, List.set_cons_succ]
            refine takeNoH 21 47 rfl rfl (by kernel_rfl) (by kernel_rfl) (by kernel_rfl) (fun _ _ _ h => h) (by kernel_rfl) hS1 ?_
            simp only [Act.put, List.setIfInBounds_toArray, List.set_cons_zero, List.set_cons_succ]
            refine takeNoH 22 48 rfl rfl (by kernel_rfl) (by kernel_rfl) (by kernel_rfl) (fun _ _ _ h => h) (by kernel_rfl) hS1 ?_
            simp only [Act.put, List.setIfInBounds_toArray, List.set_cons_zero, List.set_cons_succ]
            refine takeInH 23 49 ?v65 rfl rfl (by kernel_rfl) (by kernel_rfl) (by kernel_rfl) (fun _ _ _ h => h) (by kernel_rfl) hS1 ?hy65 ?_
            case hy65 => (intro W hW; clear hW; go_simp; try rfl)
            simp only [Act.put, List.setIfInBounds_toArray, List.set_cons_zero, List.set_cons_succ]
            refine wpAnyH_done (by kernel_rfl) ?_ _
            go_wp2
            go_roundw
            case rel => exact ⟨k + 1, by omega, by go_num, (show Hid _ by have := HC.out.below hS1; rwa [← HF2.out] at this), (show Hid _ from HB2.out.trans (hS1.mono HB2.out.size))⟩
            case measure => simp [intOf]; omega
        · obtain rfl : k = n := by omega
          have HCN : Hid (OE wa.heap.size w wr u8 (l.filter (nextB c))) := by have := HC.out; rwa [← HLEN.out, List.take_length] at this
          clear HC
          obtain ⟨e0, he0, hx0⟩ := HI.out.more (by rw [HLEN.out]; omega) HW.out (by rw [HLEN.out, HSZ.out]; exact hlt)
          have hpos : 0 < (l.filter (nextB c)).length := List.length_pos_of_mem (List.mem_filter.2 ⟨he0, hx0⟩)
          obtain ⟨gc, cpc, rfl, hgc⟩ := HCN.out.some hpos
          have HGC := hide hgc
          have HMEM : Hid (∀ e ∈ l.filter (nextB c), e ∈ l ∧ nextB c e = true) := fun e he => List.mem_filter.1 he
          clear he0 hx0 e0 hgc
          generalize l.filter (nextB c) = cn at *
          obtain ⟨L, hL⟩ : ∃ x, cn.length = x := ⟨_, rfl⟩
          have HL := hide hL
          rw [hL] at hpos HCN ⊢
          clear hL
          have hL0 : ¬ ((L : Int) = 0) := by omega
          have hL1 : ¬ (L = 0) := by omega
          replace HO := hide (HO.out.below HB2.out)
          replace HSN := hide (HSN.out.below HB2.out)
          replace HNS0 := hide (HNS0.out.below HB2.out)
          have HOB : Hid (∀ g, u5.ownBlock = some g → g < gc) := fun g hg => by
            have := HO.out
            exact Nat.lt_of_lt_of_le (HOA.out g hg) HGC.out
          by_cases hti : i < nt
          · obtain ⟨x, hxv, hx0, hx1⟩ : ∃ x : Int, (∃ bt offt, pt = some ⟨bt, offt, none⟩ ∧ w.cell? ⟨bt, offt + i, none⟩ = some (.int .u8 x)) ∧ 0 ≤ x ∧ x < 256 := HTX.out i hti
            obtain ⟨bt, offt, rfl, ht0⟩ := hxv
            have t0 := bcell HBA.out ht0
            have hti1 : (i : Int) < (nt : Int) := by omega
            obtain ⟨nn, hnn, hnL⟩ : ∃ nn : Nat, x % (L : Int) = (nn : Int) ∧ nn < L := by
              refine ⟨(x % (L : Int)).toNat, ?_, ?_⟩
              · have := Int.emod_nonneg x hL0; omega
              · have := Int.emod_nonneg x hL0
                have := Int.emod_lt_of_pos x (show (0 : Int) < (L : Int) by omega)
                omega
            have hnt : Int.tmod x (L : Int) = (nn : Int) := by rw [Int.tmod_eq_emod_of_nonneg hx0]; exact hnn
            clear ht0
            obtain ⟨y, e, hxe, hre, c0, c1, c2, c3⟩ := HCN.out.rel nn (by rw [HL.out]; exact hnL)
            have hn0 : (0 : Int) ≤ (nn : Int) := by omega
            have hn1 : (nn : Int) < (L : Int) := by omega
            obtain ⟨hel, hex⟩ := HMEM.out e (List.mem_of_getElem? hxe)
            have HI2 := hide (HI.out.step HM.out HND.out hel hex)
            have HZM := hide (mayD_iff.1 (may_dot (HM.out e hel)))
            have HXE := hide hxe
            have HRE := hide hre
            clear hxe hre hel hex
            go_wp2_with (at_builtin; refine Stop.at ?_)
            unfold Stop
            have HBq := hide (bel1 wr (.cells #[.int .i64 y.1, .int .i64 y.2.1, .slice y.2.2.1.1 y.2.2.1.2.1 y.2.2.1.2.2, .slice y.2.2.2.1 y.2.2.2.2.1 y.2.2.2.2.2] 60))
            have HBA2 := hide (bel_next HBA.out HBq.out)
            refine append_ev rfl _ _ rfl w.heap.size w u5 es e rfl (HO.out.below HBq.out) (some ⟨wr.heap.size, 0, none⟩) 1 rfl (fun h => by cases h) y (RSV.one wr y _ rfl 60 (0, 0)) HRE.out (by rw [HSZ.out]; omega) HBA2.out.size ?_
            intro v3 w3 ho3 hgr hbel3
            have HO3 := hide ho3
            have HB5 := hide (hbel3 _ HBA2.out)
            have HCN3 := hide ((HCN.out.below HBq.out).grown (fun g hg => by
              simp only [Value.ownBlock, Option.some.injEq] at hg
              subst hg
              intro h
              exact Nat.lt_irrefl _ (HOB.out _ h.symm)) hgr)
            have HS3 := hide ((HSN.out.below HBq.out).grownE (HO.out.below HBq.out) hgr)
            have HNS3 := hide (OwnN.ns8 HS3.out)
            obtain ⟨z, e', hze, hrz, g0, g1, _, _⟩ := HCN3.out.rel nn (by rw [HL.out]; exact hnL)
            rw [HXE.out] at hze
            cases hze
            have HZE : Hid (setE c e.1 = pln (setL c (z.1.toNat - 1) z.2.1)) := by unfold Hid setE; rw [hrz.1]
            have HZQ : Hid (1 ≤ z.1 ∧ z.1 ≤ 5 ∧ 1 ≤ z.2.1 ∧ z.2.1 ≤ 1048576) := by have := HZM.out; rw [hrz.1] at this; exact this
            clear ho3 hgr hbel3 hrz HCN HO HSN HBq HBA2 c0 c1 c2 c3
            go_upto_region 18 with fail
            refine wp_region_held_drew (S := fun W => Below w3.heap.size w3 W) (by kernel_rfl) ((Below.refl _ w3).drew) (fun hS0 => ?_)
            refine takeInH 0 80 ?v66 rfl rfl (by kernel_rfl) (by kernel_rfl) (by kernel_rfl) (fun _ _ _ h => h) (by kernel_rfl) hS0 ?hy66 ?_
            case hy66 => (intro W hW; clear hW; go_simp; try rfl)
            simp only [Act.put, List.setIfInBounds_toArray, List.set_cons_zero, List.set_cons_succ]
            refine takeInH 1 81 ?v67 rfl rfl (by kernel_rfl) (by kernel_rfl) (by kernel_rfl) (fun _ _ _ h => h) (by kernel_rfl) hS0 ?hy67 ?_
            case hy67 => (intro W hW; clear hW; go_simp; try rfl)
            simp only [Act.put, List.setIfInBounds_toArray, List.set_cons_zero, List.set_cons_succ]
            refine takeInH 2 82 ?v68 rfl rfl (by kernel_rfl) (by kernel_rfl) (by kernel_rfl) (fun _ _ _ h => h) (by kernel_rfl) hS0 ?hy68 ?_
            case hy68 => (intro W hW; clear hW; go_simp; try rfl)
            simp only [Act.put, List.setIfInBounds_toArray, List.set_cons_zero, List.set_cons_succ]
            refine takeInH 3 83 ?v69 rfl rfl (by kernel_rfl) (by kernel_rfl) (by kernel_rfl) (fun _ _ _ h => h) (by kernel_rfl) hS0 ?hy69 ?_
            case hy69 => (intro W hW; clear hW; go_simp; try rfl)
            simp only [Act.put, List.setIfInBounds_toArray, List.set_cons_zero, List.set_cons_succ]
            refine takeInH 4 84 ?v70 rfl rfl (by kernel_rfl) (by kernel_rfl) (by kernel_rfl) (fun _ _ _ h => h) (by kernel_rfl) hS0 ?hy70 ?_
            case hy70 => (intro W hW; clear hW; go_simp; try rfl)
            simp only [Act.put, List.setIfInBounds_toArray, List.set_cons_zero, List.set_cons_succ]
            refine takeInH 5 85 ?v71 rfl rfl (by kernel_rfl) (by kernel_rfl) (by kernel_rfl) (fun _ _ _ h => h) (by kernel_rfl) hS0 ?hy71 ?_
            case hy71 => (intro W hW; clear hW; go_simp; try rfl)
            simp only [Act.put, List.setIfInBounds_toArray, List.set_cons_zero, List.set_cons_succ]
            refine takeInH 6 86 ?v72 rfl rfl (by kernel_rfl) (by kernel_rfl) (by kernel_rfl) (fun _ _ _ h => h) (by kernel_rfl) hS0 ?hy72 ?_
            case hy72 => (intro W hW; have e0 := bcell hW g0; have e1 := bcell hW g1; clear hW; go_simp; try rfl)
            simp only [Act.put, List.setIfInBounds_toArray, List.set_cons_zero, List.set_cons_succ]
            refine takeInH 7 87 ?v73 rfl rfl (by kernel_rfl) (by kernel_rfl) (by kernel_rfl) (fun _ _ _ h => h) (by kernel_rfl) hS0 ?hy73 ?_
            case hy73 => (intro W hW; clear hW; go_simp; try rfl)
            simp only [Act.put, List.setIfInBounds_toArray, List.set_cons_zero, List.set_cons_succ]
            refine takeInH 8 88 ?v74 rfl rfl (by kernel_rfl) (by kernel_rfl) (by kernel_rfl) (fun _ _ _ h => h) (by kernel_rfl) hS0 ?hy74 ?_
            case hy74 => (intro W hW; clear hW; go_simp; try rfl)
            simp only [Act.put, List.setIfInBounds_toArray, List.set_cons_zero, List.set_cons_succ]
            refine takeInH 9 89 ?v75 rfl rfl (by kernel_rfl) (by kernel_rfl) (by kernel_rfl) (fun _ _ _ h => h) (by kernel_rfl) hS0 ?hy75 ?_
            case hy75 => (intro W hW; clear hW; go_simp; try rfl)
            simp only [Act.put, List.setIfInBounds_toArray, List.set_cons_zero, List.set_cons_succ]
            refine takeInH 10 90 ?v76 rfl rfl (by kernel_rfl) (by kernel_rfl) (by kernel_rfl) (fun _ _ _ h => h) (by kernel_rfl) hS0 ?hy76 ?_
            case hy76 => (intro W hW; clear hW; go_simp; try rfl)
            simp only [Act.put, List.setIfInBounds_toArray, List.set_cons_zero, List.set_cons_succ]
            refine takeInH 11 91 ?v77 rfl rfl (by kernel_rfl) (by kernel_rfl) (by kernel_rfl) (fun _ _ _ h => h) (by kernel_rfl) hS0 ?hy77 ?_
            case hy77 => (intro W hW; clear hW; go_simp; try rfl)
            simp only [Act.put, List.setIfInBounds_toArray, List.set_cons_zero, List.set_cons_succ]
            refine takeInH 12 92 ?v78 rfl rfl (by kernel_rfl) (by kernel_rfl) (by kernel_rfl) (fun _ _ _ h => h) (by kernel_rfl) hS0 ?hy78 ?_
            case hy78 => (intro W hW; have e0 := bcell hW g0; have e1 := bcell hW g1; clear hW; go_simp; try rfl)
            simp only [Act.put, List.setIfInBounds_toArray, List.set_cons_zero, List.set_cons_succ]
            refine wpAnyH_ready (rs := [13]) (by kernel_rfl) (by simp) ?_
            refine AllReadyH.cons rfl (fun K hK => ?_) AllReadyH.nil
            go_simp
            refine (set_ref pc nc cc c z.1 z.2.1 (z.1.toNat - 1) (by have := HZQ.out; omega) (by have := HZQ.out; omega) (by have := HZQ.out; omega) (by have := HZQ.out; omega) _ (HNS3.out.below hS0)).mono ?_
            rintro e4 w4 ⟨v4, rfl, ho4, hb⟩
            have HO4 := hide (ho4.mono (Nat.le_trans HB5.out.size hS0.size))
            clear ho4
            refine hK.out _ _ ?hs79 (fun hS1 => ?_)
            case hs79 => exact bel_next hS0 hb
            clear hK K hb
            try simp only [Act.put, List.setIfInBounds_toArray, List.set_cons_zero, List.set_cons_succ]
            refine takeInH 14 6 ?v80 rfl rfl (by kernel_rfl) (by kernel_rfl) (by kernel_rfl) (fun _ _ _ h => h) (by kernel_rfl) hS1 ?hy80 ?_
            case hy80 => (intro W hW; clear hW; go_simp; try rfl)
            simp only [Act.put, List.setIfInBounds_toArray, List.set_cons_zero, List.set_cons_succ]
            refine wpAnyH_done (by kernel_rfl) ?_ _
            go_wp2
            go_roundw
            case rel => exact ⟨i + 1, es ++ [e], setE c e.1, by omega, by go_num, by simp [HSZ.out], (show Hid _ from HO3.out.below hS1), (show Hid _ by rw [HZE.out]; exact HO4), HI2, (show Hid _ from bel_next HB5.out hS1)⟩
            case measure => simp [intOf]; omega
          · have hti1 : ¬ ((i : Int) < (nt : Int)) := by omega
            obtain ⟨nn, hnn, hnL⟩ : ∃ nn : Nat, (0 : Nat) = nn ∧ nn < L := ⟨0, rfl, hpos⟩
            subst hnn
            obtain ⟨y, e, hxe, hre, c0, c1, c2, c3⟩ := HCN.out.rel 0 (by rw [HL.out]; exact hnL)
            have hn0 : (0 : Int) ≤ ((0 : Nat) : Int) := by omega
            have hn1 : ((0 : Nat) : Int) < (L : Int) := by omega
            obtain ⟨hel, hex⟩ := HMEM.out e (List.mem_of_getElem? hxe)
            have HI2 := hide (HI.out.step HM.out HND.out hel hex)
            have HZM := hide (mayD_iff.1 (may_dot (HM.out e hel)))
            have HXE := hide hxe
            have HRE := hide hre
            clear hxe hre hel hex
            go_wp2_with (at_builtin; refine Stop.at ?_)
            unfold Stop
            have HBq := hide (bel1 wr (.cells #[.int .i64 y.1, .int .i64 y.2.1, .slice y.2.2.1.1 y.2.2.1.2.1 y.2.2.1.2.2, .slice y.2.2.2.1 y.2.2.2.2.1 y.2.2.2.2.2] 60))
            have HBA2 := hide (bel_next HBA.out HBq.out)
            refine append_ev rfl _ _ rfl w.heap.size w u5 es e rfl (HO.out.below HBq.out) (some ⟨wr.heap.size, 0, none⟩) 1 rfl (fun h => by cases h) y (RSV.one wr y _ rfl 60 (0, 0)) HRE.out (by rw [HSZ.out]; omega) HBA2.out.size ?_
            intro v3 w3 ho3 hgr hbel3
            have HO3 := hide ho3
            have HB5 := hide (hbel3 _ HBA2.out)
            have HCN3 := hide ((HCN.out.below HBq.out).grown (fun g hg => by
              simp only [Value.ownBlock, Option.some.injEq] at hg
              subst hg
              intro h
              exact Nat.lt_irrefl _ (HOB.out _ h.symm)) hgr)
            have HS3 := hide ((HSN.out.below HBq.out).grownE (HO.out.below HBq.out) hgr)
            have HNS3 := hide (OwnN.ns8 HS3.out)
            obtain ⟨z, e', hze, hrz, g0, g1, _, _⟩ := HCN3.out.rel 0 (by rw [HL.out]; exact hnL)
            rw [HXE.out] at hze
            cases hze
            have HZE : Hid (setE c e.1 = pln (setL c (z.1.toNat - 1) z.2.1)) := by unfold Hid setE; rw [hrz.1]
            have HZQ : Hid (1 ≤ z.1 ∧ z.1 ≤ 5 ∧ 1 ≤ z.2.1 ∧ z.2.1 ≤ 1048576) := by have := HZM.out; rw [hrz.1] at this; exact this
            clear ho3 hgr hbel3 hrz HCN HO HSN HBq HBA2 c0 c1 c2 c3
            go_upto_region 18 with fail
            refine wp_region_held_drew (S := fun W => Below w3.heap.size w3 W) (by kernel_rfl) ((Below.refl _ w3).drew) (fun hS0 => ?_)
            refine takeInH 0 80 ?v81 rfl rfl (by kernel_rfl) (by kernel_rfl) (by kernel_rfl) (fun _ _ _ h => h) (by kernel_rfl) hS0 ?hy81 ?_
            case hy81 => (intro W hW; clear hW; go_simp; try rfl)
            simp only [Act.put, List.setIfInBounds_toArray, List.set_cons_zero, List.set_cons_succ]
            refine takeInH 1 81 ?v82 rfl rfl (by kernel_rfl) (by kernel_rfl) (by kernel_rfl) (fun _ _ _ h => h) (by kernel_rfl) hS0 ?hy82 ?_
            case hy82 => (intro W hW; clear hW; go_simp; try rfl)
            simp only [Act.put, List.setIfInBounds_toArray, List.set_cons_zero, List.set_cons_succ]
            refine takeInH 2 82 ?v83 rfl rfl (by kernel_rfl) (by kernel_rfl) (by kernel_rfl) (fun _ _ _ h => h) (by kernel_rfl) hS0 ?hy83 ?_
            case hy83 => (intro W hW; clear hW; go_simp; try rfl)
            simp only [Act.put, List.setIfInBounds_toArray, List.set_cons_zero, List.set_cons_succ]
            refine takeInH 3 83 ?v84 rfl rfl (by kernel_rfl) (by kernel_rfl) (by kernel_rfl) (fun _ _ _ h => h) (by kernel_rfl) hS0 ?hy84 ?_
            case hy84 => (intro W hW; clear hW; go_simp; try rfl)
            simp only [Act.put, List.setIfInBounds_toArray, List.set_cons_zero, List.set_cons_succ]
            refine takeInH 4 84 ?v85 rfl rfl (by kernel_rfl) (by kernel_rfl) (by kernel_rfl) (fun _ _ _ h => h) (by kernel_rfl) hS0 ?hy85 ?_
            case hy85 => (intro W hW; clear hW; go_simp; try rfl)
            simp only [Act.put, List.setIfInBounds_toArray, List.set_cons_zero, List.set_cons_succ]
            refine takeInH 5 85 ?v86 rfl rfl (by kernel_rfl) (by kernel_rfl) (by kernel_rfl) (fun _ _ _ h => h) (by kernel_rfl) hS0 ?hy86 ?_
            case hy86 => (intro W hW; clear hW; go_simp; try rfl)
            simp only [Act.put, List.setIfInBounds_toArray, List.set_cons_zero, List.set_cons_succ]
            refine takeInH 6 86 ?v87 rfl rfl (by kernel_rfl) (by kernel_rfl) (by kernel_rfl) (fun _ _ _ h => h) (by kernel_rfl) hS0 ?hy87 ?_
            case hy87 => (intro W hW; have e0 := bcell hW g0; have e1 := bcell hW g1; clear hW; go_simp; try rfl)
            simp only [Act.put, List.setIfInBounds_toArray, List.set_cons_zero, List.set_cons_succ]
            refine takeInH 7 87 ?v88 rfl rfl (by kernel_rfl) (by kernel_rfl) (by kernel_rfl) (fun _ _ _ h => h) (by kernel_rfl) hS0 ?hy88 ?_
            case hy88 => (intro W hW; clear hW; go_simp; try rfl)
            simp only [Act.put, List.setIfInBounds_toArray, List.set_cons_zero, List.set_cons_succ]
            refine takeInH 8 88 ?v89 rfl rfl (by kernel_rfl) (by kernel_rfl) (by kernel_rfl) (fun _ _ _ h => h) (by kernel_rfl) hS0 ?hy89 ?_
            case hy89 => (intro W hW; clear hW; go_simp; try rfl)
            simp only [Act.put, List.setIfInBounds_toArray, List.set_cons_zero, List.set_cons_succ]
            refine takeInH 9 89 ?v90 rfl rfl (by kernel_rfl) (by kernel_rfl) (by kernel_rfl) (fun _ _ _ h => h) (by kernel_rfl) hS0 ?hy90 ?_
            case hy90 => (intro W hW; clear hW; go_simp; try rfl)
            simp only [Act.put, List.setIfInBounds_toArray, List.set_cons_zero, List.set_cons_succ]
            refine takeInH 10 90 ?v91 rfl rfl (by kernel_rfl) (by kernel_rfl) (by kernel_rfl) (fun _ _ _ h => h) (by kernel_rfl) hS0 ?hy91 ?_
            case hy91 => (intro W hW; clear hW; go_simp; try rfl)
            simp only [Act.put, List.setIfInBounds_toArray, List.set_cons_zero, List.set_cons_succ]
            refine takeInH 11 91 ?v92 rfl rfl (by kernel_rfl) (by kernel_rfl) (by kernel_rfl) (fun _ _ _ h => h) (by kernel_rfl) hS0 ?hy92 ?_
            case hy92 => (intro W hW; clear hW; go_simp; try rfl)
            simp only [Act.put, List.setIfInBounds_toArray, List.set_cons_zero, List.set_cons_succ]
            refine takeInH 12 92 ?v93 rfl rfl (by kernel_rfl) (by kernel_rfl) (by kernel_rfl) (fun _ _ _ h => h) (by kernel_rfl) hS0 ?hy93 ?_
            case hy93 => (intro W hW; have e0 := bcell hW g0; have e1 := bcell hW g1; clear hW; go_simp; try rfl)
            simp only [Act.put, List.setIfInBounds_toArray, List.set_cons_zero, List.set_cons_succ]
            refine wpAnyH_ready (rs := [13]) (by kernel_rfl) (by simp) ?_
            refine AllReadyH.cons rfl (fun K hK => ?_) AllReadyH.nil
            go_simp
            refine (set_ref pc nc cc c z.1 z.2.1 (z.1.toNat - 1) (by have := HZQ.out; omega) (by have := HZQ.out; omega) (by have := HZQ.out; omega) (by have := HZQ.out; omega) _ (HNS3.out.below hS0)).mono ?_
            rintro e4 w4 ⟨v4, rfl, ho4, hb⟩
            have HO4 := hide (ho4.mono (Nat.le_trans HB5.out.size hS0.size))
            clear ho4
            refine hK.out _ _ ?hs94 (fun hS1 => ?_)
            case hs94 => exact bel_next hS0 hb
            clear hK K hb
            try simp only [Act.put, List.setIfInBounds_toArray, List.set_cons_zero, List.set_cons_succ]
            refine takeInH 14 6 ?v95 rfl rfl (by kernel_rfl) (by kernel_rfl) (by kernel_rfl) (fun _ _ _ h => h) (by kernel_rfl) hS1 ?hy95 ?_
            case hy95 => (intro W hW; clear hW; go_simp; try rfl)
            simp only [Act.put, List.setIfInBounds_toArray, List.set_cons_zero, List.set_cons_succ]
            refine wpAnyH_done (by kernel_rfl) ?_ _
            go_wp2
            go_roundw
            case rel => exact ⟨i + 1, es ++ [e], setE c e.1, by omega, by go_num, by simp [HSZ.out], (show Hid _ from HO3.out.below hS1), (show Hid _ by rw [HZE.out]; exact HO4), HI2, (show Hid _ from bel_next HB5.out hS1)⟩
            case measure => simp [intOf]; omega
    · obtain rfl : i = n := by omega
      go_wp2
      go_ret
      exact ⟨_, es, c, rfl, HO.out, HI.out, hel, HB.out⟩
end Go.Proofs.Ytiodlpoeifmldaa
