/- Rows of records, one behind the other (layer 7). -/
import Derived.Test.YtofalfaiamaapaaJ4a
namespace Go.Proofs.Ytofalfaiamaapaa
open Go.RowKit
set_option linter.unusedVariables false
section
variable {α : Type} {enc : α → List Value} {k : Nat} {T : TypeId}
/-- 'append(v, x...)', 'v' the call's own, at an operation. -/
theorem append_rw {w : World} {o : Oper} {a : Act} {K : Act → World → Prop} {Q : Exit → Act → World → Prop} (s x : Operand) (t : TypeId)
    (ho : o.op = .call { callee := .builtin .append, args := #[s, x], argTypes := #[t, t] })
    (ht : Try.prog.underlying t = some (.slice T)) {z : Value} {by_ : Nat} (hi : (Try.prog.info? T).map (fun i => (i.zero, i.size, i.bytes)) = some (some z, k, by_)) (hz : z.cells.size = k) (hk0 : 0 < k) (hby : by_ ≤ 1000)
    (hk : ∀ x, (enc x).length = k) (h1 : ∀ x, ∀ v ∈ enc x, v.oneCell' = true)
    (N : Nat) (v : Value) (l m : List α) (hs : a.eval s = v) (hown : OwnR enc k T N w v l) (p : Option Addr) (len cap : Nat) (hx : a.eval x = .slice p len cap) (hp : p = none → cap = 0) (hB : RS enc k w p len m)
    (hbig : l.length + m.length ≤ 1000000) (hN : N ≤ w.heap.size)
    (h : ∀ v' w', OwnR enc k T N w' v' (l ++ m) → w.grownBy w' v.ownBlock → (∀ w0, Below N w0 w → Below N w0 w') → K (a.put o.dst v') w') : Oper.wp Try.prog o a w K Q := by
  obtain ⟨i0, hi, hz0, hz1, hz2⟩ := info_parts hi
  have g1 := hB.1
  rcases p with _ | ad
  · have hc := hp rfl
    have hl0 : len = 0 := by
      rcases hB.2.2 with h0 | ⟨b, off, hh, _⟩
      · exact h0
      · cases hh
    subst hc hl0
    obtain rfl : m = [] := List.eq_nil_of_length_eq_zero g1
    have hrun := run_append_owned_none (P := Try.prog) (w := w) N t o.type T i0 k ht hi v _ _ hown
    have hk := h v w (by rw [List.append_nil]; exact hown) ⟨rfl, rfl, rfl, Nat.le_refl _, fun _ _ _ => rfl⟩ (fun _ h => h)
    unfold Oper.wp execOp
    simp only [ho, resolve, invoke, builtin, Sem.run_bind, Sem.run_pure, Result.andThen_ok, List.map_toArray, List.map_cons, List.map_nil, hs, hx, hrun]
    exact hk
  · have hmul : (l.length + len) * by_ ≤ 1000000 * 1000 := Nat.mul_le_mul (by omega) hby
    obtain ⟨v', w', hr, q1, q2, _⟩ := run_append_own (P := Try.prog) w N t o.type T i0 z k by_ ht hi hz0 hz1 hz2 hz hk0 v _ _ hown ad len cap (m.flatMap enc) (by rw [flatR_len enc k hk, g1])
      (by
        intro j u hj
        have hjl : j < m.length * k := by rw [← flatR_len enc k hk m]; exact (List.getElem?_eq_some_iff.1 hj).1
        rcases hB.2.2 with h0 | ⟨b, off, hh, hc⟩
        · rw [g1, h0] at hjl; omega
        · cases hh
          rw [addr_add]
          exact hB.cells j u hj hk hk0)
      (flatR_one enc h1 m) (by rw [← g1]; unfold maxLen; omega) (by omega) hN
    have e : l.length + len = (l ++ m).length := by rw [List.length_append, g1]
    rw [e, ← List.flatMap_append] at q1
    have hk := h v' w' q1 q2 (fun w0 hb => hb.grown q2 hN (fun j hj => (World.ownsRow.lt hown j hj).1))
    unfold Oper.wp execOp
    simp only [ho, resolve, invoke, builtin, Sem.run_bind, Sem.run_pure, Result.andThen_ok, List.map_toArray, List.map_cons, List.map_nil, hs, hx, hr]
    exact hk
end
/-- The rows of records that lie in memory. -/
theorem RC.rows {w : World} {a : Option Addr} {n : Nat} {l : List Rc} (h : RC w a n l) : ∃ xs : List Rw, xs.map Rw.rc = l ∧ RS encW 2 w a n xs ∧ ∀ x ∈ xs, BS w x.p x.b.length x.b ∧ CP x.p x.b.length x.c := by
  obtain ⟨h1, h2, h3⟩ := h
  rcases h3 with h3 | ⟨b, off, rfl, hc⟩
  · subst h3
    obtain rfl : l = [] := List.eq_nil_of_length_eq_zero h1
    exact ⟨[], rfl, ⟨rfl, h2, .inl rfl⟩, fun x hx => by simp at hx⟩
  · have each : ∀ i, i < l.length → ∃ x : Rw, l[i]? = some x.rc ∧ (BS w x.p x.b.length x.b ∧ CP x.p x.b.length x.c) ∧ ∀ j v, (encW x)[j]? = some v → w.cell? ⟨b, off + i * 2 + j, none⟩ = some v := by
      intro i hi
      obtain ⟨r, q1, ⟨p, m, c, rfl, q2, q3⟩, q4⟩ := hc i l[i] (List.getElem?_eq_getElem hi)
      have hm : m = l[i].b.length := q2.1.symm
      subst hm
      exact ⟨⟨l[i].k, p, c, l[i].b⟩, List.getElem?_eq_getElem hi, ⟨q2, q3⟩, q4⟩
    have hf : ∃ f : Nat → Rw, ∀ i, i < l.length → l[i]? = some (f i).rc ∧ (BS w (f i).p (f i).b.length (f i).b ∧ CP (f i).p (f i).b.length (f i).c) ∧ ∀ j v, (encW (f i))[j]? = some v → w.cell? ⟨b, off + i * 2 + j, none⟩ = some v := by
      refine ⟨fun i => if h : i < l.length then Classical.choose (each i h) else ⟨0, none, 0, []⟩, fun i hi => ?_⟩
      have := Classical.choose_spec (each i hi)
      simpa only [hi, dif_pos] using this
    obtain ⟨f, hf⟩ := hf
    refine ⟨(List.range l.length).map f, ?_, ⟨by simp [h1], h2, .inr ⟨b, off, rfl, ?_⟩⟩, ?_⟩
    · apply List.ext_getElem?
      intro i
      by_cases hi : i < l.length
      · rw [(hf i hi).1]
        simp [hi]
      · rw [List.getElem?_eq_none (by simp; omega), List.getElem?_eq_none (by omega)]
    · intro i x hi j v hj
      have hil : i < l.length := by have := (List.getElem?_eq_some_iff.1 hi).1; simpa using this
      have hx : x = f i := by simpa [hil] using hi.symm
      subst hx
      exact (hf i hil).2.2 j v hj
    · intro x hx
      obtain ⟨i, hi, rfl⟩ := List.mem_map.1 hx
      exact (hf i (List.mem_range.1 hi)).2.1
/-- What a call makes of rows, told as records. -/
theorem OwnW.rc {N : Nat} {w : World} {v : Value} {xs : List Rw} (h : OwnW N w v xs) (hx : ∀ x ∈ xs, BS w x.p x.b.length x.b ∧ CP x.p x.b.length x.c) : ∃ p c, v = .slice p xs.length c ∧ RC w p xs.length (xs.map Rw.rc) ∧ CP p xs.length c := by
  obtain ⟨p, c, e, h1, h2⟩ := h.open encW_len
  exact ⟨p, c, e, RW.rc h1 hx, h2⟩
set_option maxHeartbeats 4000000 in
theorem all7_any (g : Nat) (vd vj vt : Value) (pa : Option Addr) (na ca : Nat) (A : List Rc) (pb : Option Addr) (nb cb : Nat) (B : List Rc) (u : World) (hb : BX u g #[vd, vj, .slice pa na ca, .slice pb nb cb, vt] 49) (hA : RC u pa na A) (hca : CP pa na ca) (hB : RC u pb nb B) (hcb : CP pb nb cb) (hn : na + nb ≤ 1000000) :
    Calls Try.prog 20 #[.pointer (some ⟨g, 0, none⟩)] u fun e w' => ∃ p n c, e = .returned (.slice p n c) ∧ RC w' p n (A ++ B) ∧ CP p n c ∧ Below u.heap.size u w' := by
  obtain ⟨xs, e1, hx, hbx⟩ := hA.rows
  obtain ⟨ys, e2, hy, hby⟩ := hB.rows
  have HX := hide hx
  have HY := hide hy
  have HBX := hide hbx
  have HBY := hide hby
  have HE : Hid ((xs ++ ys).map Rw.rc = A ++ B) := by unfold Hid; rw [List.map_append, e1, e2]
  have hlx : xs.length = na := hx.1
  have hly : ys.length = nb := hy.1
  replace hb := hide hb
  clear hx hy hbx hby hA hB e1 e2
  go_enter Try.func20, Try.ntmps20
  go_upto_region 1 with fail
  refine wp_region_held_drew (S := fun W => BX W g #[vd, vj, .slice pa na ca, .slice pb nb cb, vt] 49) (by kernel_rfl) (hb.out.drew) (fun hS0 => ?_)
  refine takeInH 1 4 ?v1 rfl rfl (by kernel_rfl) (by kernel_rfl) (by kernel_rfl) (fun _ _ _ h => h) (by kernel_rfl) hS0 ?hy1 ?_
  case hy1 => (intro W hW; clear hW; go_simp; try rfl)
  simp only [Act.put, List.setIfInBounds_toArray, List.set_cons_zero, List.set_cons_succ]
  refine takeInH 2 5 ?v2 rfl rfl (by kernel_rfl) (by kernel_rfl) (by kernel_rfl) (fun _ _ _ h => h) (by kernel_rfl) hS0 ?hy2 ?_
  case hy2 => (intro W hW; clear hW; go_simp; try rfl)
  simp only [Act.put, List.setIfInBounds_toArray, List.set_cons_zero, List.set_cons_succ]
  refine takeInH 3 6 ?v3 rfl rfl (by kernel_rfl) (by kernel_rfl) (by kernel_rfl) (fun _ _ _ h => h) (by kernel_rfl) hS0 ?hy3 ?_
  case hy3 => (intro W hW; clear hW; go_simp; try rfl)
  simp only [Act.put, List.setIfInBounds_toArray, List.set_cons_zero, List.set_cons_succ]
  refine takeInH 4 7 ?v4 rfl rfl (by kernel_rfl) (by kernel_rfl) (by kernel_rfl) (fun _ _ _ h => h) (by kernel_rfl) hS0 ?hy4 ?_
  case hy4 => (intro W hW; have e0 := hW.cell 2 _ rfl; have e1 := hW.cell 3 _ rfl; clear hW; go_simp; try rfl)
  simp only [Act.put, List.setIfInBounds_toArray, List.set_cons_zero, List.set_cons_succ]
  refine takeInH 6 9 ?v5 rfl rfl (by kernel_rfl) (by kernel_rfl) (by kernel_rfl) (fun _ _ _ h => h) (by kernel_rfl) hS0 ?hy5 ?_
  case hy5 => (intro W hW; clear hW; go_simp; try rfl)
  simp only [Act.put, List.setIfInBounds_toArray, List.set_cons_zero, List.set_cons_succ]
  refine takeInH 7 10 ?v6 rfl rfl (by kernel_rfl) (by kernel_rfl) (by kernel_rfl) (fun _ _ _ h => h) (by kernel_rfl) hS0 ?hy6 ?_
  case hy6 => (intro W hW; clear hW; go_simp; try rfl)
  simp only [Act.put, List.setIfInBounds_toArray, List.set_cons_zero, List.set_cons_succ]
  refine takeInH 8 11 ?v7 rfl rfl (by kernel_rfl) (by kernel_rfl) (by kernel_rfl) (fun _ _ _ h => h) (by kernel_rfl) hS0 ?hy7 ?_
  case hy7 => (intro W hW; clear hW; go_simp; try rfl)
  simp only [Act.put, List.setIfInBounds_toArray, List.set_cons_zero, List.set_cons_succ]
  refine takeInH 9 12 ?v8 rfl rfl (by kernel_rfl) (by kernel_rfl) (by kernel_rfl) (fun _ _ _ h => h) (by kernel_rfl) hS0 ?hy8 ?_
  case hy8 => (intro W hW; have e0 := hW.cell 2 _ rfl; have e1 := hW.cell 3 _ rfl; clear hW; go_simp; try rfl)
  simp only [Act.put, List.setIfInBounds_toArray, List.set_cons_zero, List.set_cons_succ]
  refine wpAnyH_ready (rs := [0]) (by kernel_rfl) (by simp) ?_
  refine AllReadyH.cons rfl (fun K hK => ?_) AllReadyH.nil
  go_simp
  have OW := hide (OwnR.made (enc := encW) (k := 2) (T := 71) u u.heap.size u.heap.size rfl (Nat.le_refl _)).drew
  have BL : Hid (Below u.heap.size u (u.alloc (.cells #[] 71)).drew) := ((Below.refl _ u).alloc (Nat.le_refl _) _).drew
  have BW := hb.out.below BL.out
  generalize (u.alloc (.cells #[] 71)).drew = wA at *
  refine hK.out _ _ ?hs9 (fun hS1 => ?_)
  case hs9 => exact BW
  clear hK K
  try simp only [Act.put, List.setIfInBounds_toArray, List.set_cons_zero, List.set_cons_succ]
  refine wpAnyH_ready (rs := [5]) (by kernel_rfl) (by simp) ?_
  refine AllReadyH.cons rfl (fun K hK => ?_) AllReadyH.nil
  rw [if_pos (by kernel_rfl)]
  refine append_rw _ _ 30 rfl Try.underlying30 Try.infoRec rfl (by decide) (by decide) encW_len oneW' u.heap.size _ [] xs rfl OW.out pa na ca rfl hca.2.2 (HX.out.below BL.out) (by simp; omega) BL.out.size ?_
  intro v1 w1 ho hgr hbel
  have O1 := hide ho
  replace BL := hide (hbel _ BL.out)
  have BW := hb.out.below BL.out
  clear ho hgr hbel
  rw [List.nil_append] at O1
  clear OW
  change K (Act.put _ (some 8) _) _
  refine hK.out _ _ ?hs10 (fun hS2 => ?_)
  case hs10 => exact BW
  clear hK K
  try simp only [Act.put, List.setIfInBounds_toArray, List.set_cons_zero, List.set_cons_succ]
  refine wpAnyH_ready (rs := [10]) (by kernel_rfl) (by simp) ?_
  refine AllReadyH.cons rfl (fun K hK => ?_) AllReadyH.nil
  rw [if_pos (by kernel_rfl)]
  refine append_rw _ _ 30 rfl Try.underlying30 Try.infoRec rfl (by decide) (by decide) encW_len oneW' u.heap.size _ xs ys rfl O1.out pb nb cb rfl hcb.2.2 (HY.out.below BL.out) (by omega) BL.out.size ?_
  intro v2 w2 ho hgr hbel
  have O2 := hide ho
  replace BL := hide (hbel _ BL.out)
  have BW := hb.out.below BL.out
  clear ho hgr hbel
  clear O1
  change K (Act.put _ (some 13) _) _
  refine hK.out _ _ ?hs11 (fun hS3 => ?_)
  case hs11 => exact BW
  clear hK K
  try simp only [Act.put, List.setIfInBounds_toArray, List.set_cons_zero, List.set_cons_succ]
  refine takeInH 11 2 ?v12 rfl rfl (by kernel_rfl) (by kernel_rfl) (by kernel_rfl) (fun _ _ _ h => h) (by kernel_rfl) hS3 ?hy12 ?_
  case hy12 => (intro W hW; clear hW; go_simp; try rfl)
  simp only [Act.put, List.setIfInBounds_toArray, List.set_cons_zero, List.set_cons_succ]
  refine wpAnyH_done (by kernel_rfl) ?_ _
  obtain ⟨p, c, hv, hrc, hcp⟩ := OwnW.rc O2.out (fun x hx => by
    have q : BS u x.p x.b.length x.b ∧ CP x.p x.b.length x.c := (List.mem_append.1 hx).elim (HBX.out x) (HBY.out x)
    exact ⟨q.1.below BL.out, q.2⟩)
  rw [HE.out] at hrc
  subst hv
  have HRC := hide hrc
  have HCP := hide hcp
  clear hrc hcp
  generalize (xs ++ ys).length = nn at *
  go_wp2
  go_ret
  exact ⟨_, _, _, rfl, HRC.out, HCP.out, BL.out⟩
end Go.Proofs.Ytofalfaiamaapaa
