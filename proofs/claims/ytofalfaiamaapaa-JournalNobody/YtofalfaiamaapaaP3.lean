/- Bytes appended to the call's own: where they lie then. What a step of a disk leaves as it was. -/
import Derived.Test.YtofalfaiamaapaaP2
namespace Go.Proofs.Ytofalfaiamaapaa
open Go.RowKit
set_option linter.unusedVariables false
theorem BS.map {w : World} {p : Option Addr} {n : Nat} {l : List Int} (h : BS w p n l) (ad : Addr) (hp : p = some ad) : ∀ j v, (l.map (Value.int .u8))[j]? = some v → w.cell? (ad.add j) = some v := by
  rcases Nat.eq_zero_or_pos n with h0 | hn
  · intro j v hj
    have hl0 : l = [] := List.eq_nil_of_length_eq_zero (by rw [h.1, h0])
    subst hl0
    simp at hj
  · obtain ⟨a, ha, hc⟩ := h.cells hn
    rw [hp] at ha
    cases ha
    exact hc
theorem oneB (m : List Int) : ∀ u ∈ m.map (Value.int .u8), u.oneCell' = true := by
  intro u hu
  rw [List.mem_map] at hu
  obtain ⟨y, _, rfl⟩ := hu
  rfl
theorem Own.cells {N : Nat} {w : World} {g n cp : Nat} {l : List Int} (h : Own N w (.slice (some ⟨g, 0, Option.none⟩) n cp) l) : ∀ j u, (l.map (Value.int .u8))[j]? = some u → w.cell? ((⟨g, 0, Option.none⟩ : Addr).add j) = some u := by
  intro j u hj
  obtain ⟨_, h2 | ⟨g', cap, cur, h1, h2, h3, h4, h5, h6, h7⟩⟩ := h
  · have := h2.1; cases this
  · cases h1
    rw [addr_add, Nat.zero_add, cell_of_row w _ _ _ _ _ h3]
    have hj2 := hj
    rw [← h7, List.getElem?_take] at hj2
    split at hj2
    · rw [← hj2]; simp
    · cases hj2
theorem append_bblk {w : World} {ty : TypeId} {N : Nat} {v v' : Value} {w' : World} {l m : List Int} {p : Addr} {len cap : Nat} (hown : Own N w v l) (hB : BS w (some p) len m) (hbig : l.length + m.length ≤ 10000000)
    (hr : (Builtin.append_ #[22, 22] ty #[v, .slice (some p) len cap]).run Try.prog w = .ok v' w') : ∀ b, v'.ownBlock = some b → v.ownBlock = some b ∨ w.heap.size ≤ b := by
  obtain ⟨i0, hi, hz0, hz1, hz2⟩ := info_parts Try.infoU8
  have h0 := hown
  obtain ⟨hxl, h2⟩ := hown
  rcases h2 with ⟨rfl, h2⟩ | ⟨g, cp, cur, rfl, hb, hg, hc1, hc2, hs, ht⟩
  · obtain ⟨v2, w2, hr2, h3, _, _⟩ := run_append_own (P := Try.prog) w w.heap.size 22 ty 5 i0 (.int .u8 0) 1 1 Try.underlying22 hi hz0 hz1 hz2 rfl (by decide) (.slice none 0 0) 0 [] (Own.none w.heap.size w) p len cap (m.map (Value.int .u8)) (by rw [List.length_map, hB.1]; omega) (hB.map p rfl) (oneB m) (by unfold maxLen; have := hB.1; omega) (by have := hB.1; omega) (Nat.le_refl _)
    rw [hr] at hr2
    cases hr2
    exact fun b hbb => .inr (World.ownsRow.lt h3 b hbb).1
  · by_cases hroom : l.length + len ≤ cp
    · have hcell : ∀ j, j < (m.map (Value.int .u8)).length → (w.cell? ⟨g, 0 + l.length * i0.size + j, none⟩).isSome = true ∧ w.frozen? ⟨g, 0 + l.length * i0.size + j, none⟩ = false := by
        intro j hj
        rw [List.length_map, hB.1] at hj
        rw [hz1]
        refine ⟨?_, by simp [World.frozen?, hg]⟩
        rw [cell_of_row w _ _ _ _ _ hg]
        have hjj : 0 + l.length * 1 + j < cur.size := by rw [hs]; omega
        rw [Array.getElem?_eq_getElem hjj]
        rfl
      have hrr := run_append_room_cells (P := Try.prog) (w := w) 22 ty 5 i0 Try.underlying22 hi g 0 l.length cp p len cap (m.map (Value.int .u8)) (by rw [List.length_map, hB.1, hz1]; omega) (hB.map p rfl) (oneB m) hroom (fun j hj => (hcell j hj).1) (fun j hj => (hcell j hj).2)
      rw [hr] at hrr
      cases hrr
      exact fun b hbb => .inl hbb
    · obtain ⟨v2, w2, hr2, h3, _⟩ := run_append_arg_grows (P := Try.prog) (w := w) 22 ty 5 i0 (.int .u8 0) 1 1 Try.underlying22 hi hz0 hz1 hz2 rfl (by decide) ⟨g, 0, none⟩ l.length cp (l.map (Value.int .u8)) (by rw [List.length_map]; omega) h0.cells p len cap (m.map (Value.int .u8)) (by rw [List.length_map, hB.1]; omega) (hB.map p rfl) (by omega) (by unfold maxLen; have := hB.1; omega) (by have := hB.1; omega)
      rw [hr] at hr2
      cases hr2
      exact fun b hbb => .inr (World.ownsRow.lt h3 b hbb).1
theorem append_bmore {w : World} {ops : Array Oper} {rest : List Oper} {o : Oper} {a : Act} {Q : Exit → Act → World → Prop} (hgd : o.guard = none) (s x : Operand)
    (ho : o.op = .call { callee := .builtin .append, args := #[s, x], argTypes := #[22, 22] })
    (N : Nat) (v : Value) (l m : List Int) (hs : a.eval s = v) (hown : Own N w v l) (p : Option Addr) (len cap : Nat) (hx : a.eval x = .slice p len cap) (hp : p = none → cap = 0) (hB : BS w p len m)
    (hbig : l.length + m.length ≤ 10000000) (hN : N ≤ w.heap.size)
    (h : ∀ v' w', Own N w' v' (l ++ m) → w.grownBy w' v.ownBlock → (∀ b, v'.ownBlock = some b → v.ownBlock = some b ∨ w.heap.size ≤ b) → wpList Try.prog ops Q rest (a.put o.dst v') w') : wpList Try.prog ops Q (o :: rest) a w := by
  obtain ⟨i0, hi, hz0, hz1, hz2⟩ := info_parts Try.infoU8
  rcases p with _ | ad
  · have hc := hp rfl
    have hl0 : len = 0 := by
      rcases hB.2.2.2 with h0 | ⟨b, off, hh, _⟩
      · exact h0
      · cases hh
    subst hc hl0
    obtain rfl : m = [] := List.eq_nil_of_length_eq_zero hB.1
    refine wpList_append_own_none hgd s x _ ho N 5 i0 1 Try.underlying22 hi v _ _ hs hown hx ?_
    exact h v w (by rw [List.append_nil]; exact hown) ⟨rfl, rfl, rfl, Nat.le_refl _, fun _ _ _ => rfl⟩ (fun _ h => .inl h)
  · refine wpList_plain hgd fun K hK => ?_
    obtain ⟨v', w', hr, h2, h3, _⟩ := run_append_own (P := Try.prog) w N 22 o.type 5 i0 (.int .u8 0) 1 1 Try.underlying22 hi hz0 hz1 hz2 rfl (by decide) v _ _ hown ad len cap (m.map (Value.int .u8)) (by rw [List.length_map, hB.1]; omega) (hB.map ad rfl) (oneB m) (by unfold maxLen; have := hB.1; omega) (by have := hB.1; omega) hN
    have e : l.length + len = (l ++ m).length := by rw [List.length_append, hB.1]
    rw [e, ← List.map_append] at h2
    have hk := hK _ _ (h v' w' h2 h3 (append_bblk hown hB hbig hr))
    unfold Oper.wp execOp
    simp only [ho, resolve, invoke, builtin, Sem.run_bind, Sem.run_pure, Result.andThen_ok, List.map_toArray, List.map_cons, List.map_nil, hs, hx, hr]
    exact hk
theorem Own.ne {N : Nat} {w : World} {v : Value} {l : List Int} {g : Nat} {C : Array Value} (h : Own N w v l) (hx : BX w g C 69) : v.ownBlock ≠ some g := by
  rcases h.2 with ⟨rfl, _⟩ | ⟨g', cap, cur, rfl, _, hg, _⟩
  · intro hh; simp [Value.ownBlock] at hh
  · intro hh
    simp [Value.ownBlock] at hh
    subst hh
    unfold BX at hx
    rw [hg] at hx
    simp at hx
theorem Own.setc {N : Nat} {w : World} {v : Value} {l : List Int} {g : Nat} (h : Own N w v l) (ho : v.ownBlock ≠ some g) (i : Nat) (x : Value) : Own N (w.setCell ⟨g, i, Option.none⟩ x) v l := by
  refine ⟨h.1, ?_⟩
  rcases h.2 with hn | ⟨g', cap, cur, rfl, hb', hgg, rest⟩
  · exact .inl hn
  · refine .inr ⟨g', cap, cur, rfl, hb', ?_, rest⟩
    have hne : g ≠ g' := fun e => ho (by simp [Value.ownBlock, e])
    rw [← hgg]
    simp [World.setCell, Array.getElem?_modify, hne]
theorem Own.lt {N : Nat} {w : World} {v : Value} {l : List Int} (h : Own N w v l) (b : Nat) (hb : v.ownBlock = some b) : N ≤ b ∧ b < w.heap.size := World.ownsRow.lt h b hb
theorem Own.grown {N : Nat} {w w' : World} {v : Value} {l : List Int} {r : Option Nat} (h : Own N w v l) (hg : w.grownBy w' r) (hr : ∀ b, v.ownBlock = some b → r ≠ some b) : Own N w' v l := by
  refine ⟨h.1, ?_⟩
  rcases h.2 with hn | ⟨g', cap, cur, rfl, hb', hgg, rest⟩
  · exact .inl hn
  · refine .inr ⟨g', cap, cur, rfl, hb', ?_, rest⟩
    rw [hg.block g' (Array.getElem?_eq_some_iff.1 hgg).1 (fun e => hr g' rfl e.symm)]
    exact hgg
/-- A slice's own bytes, cut. -/
theorem Own.cut {N : Nat} {w : World} {p : Option Addr} {n cap : Nat} {l : List Int} (h : Own N w (.slice p n cap) l) (k : Nat) (hk : k ≤ n) : Own N w (.slice p k cap) (l.take k) := by
  have hnl : n = l.length := by
    rcases h.2 with ⟨h1, h2⟩ | ⟨g', cap', cur, h1, _⟩
    · cases h1; exact h2.symm
    · cases h1; rfl
  subst hnl
  refine ⟨by simp, ?_⟩
  have hkl : (l.take k).length = k := by simp; omega
  rcases h.2 with ⟨h1, h2⟩ | ⟨g', cap', cur, h1, h2, h3, h4, h5, h6, h7⟩
  · have hk0 : k = 0 := by omega
    subst hk0
    have e1 : p = Option.none ∧ cap = 0 := by injection h1 with a b c; exact ⟨a, c⟩
    obtain ⟨rfl, rfl⟩ := e1
    exact .inl ⟨rfl, by simp⟩
  · cases h1
    refine .inr ⟨g', cap, cur, by rw [hkl], h2, h3, by omega, h5, h6, ?_⟩
    rw [Nat.mul_one] at h7 ⊢
    rw [hkl, List.map_take, ← h7, List.take_take, Nat.min_eq_left hk]
def Stp (g : Nat) (va vb va' vb' : Value) (w w' : World) : Prop := (∀ k, k < w.heap.size → ¬ Xs g va vb k → w'.heap[k]? = w.heap[k]?) ∧ (∀ b, Xs g va' vb' b → Xs g va vb b ∨ w.heap.size ≤ b) ∧ w.heap.size ≤ w'.heap.size
theorem Stp.cell {g : Nat} {va vb va' vb' : Value} {w w' : World} (s : Stp g va vb va' vb' w w') {p : Addr} {v : Value} (hp : w.cell? p = some v) (hn : ¬ Xs g va vb p.block) : w'.cell? p = some v := by
  rw [World.cell?_of_block (s.1 _ (World.block_lt_of_cell? w _ hp) hn)]
  exact hp
theorem BX.stp {g : Nat} {va vb va' vb' : Value} {w w' : World} {k : Nat} {C : Array Value} {t : TypeId} (h : BX w k C t) (s : Stp g va vb va' vb' w w') (hn : ¬ Xs g va vb k) : BX w' k C t := by
  unfold BX
  rw [s.1 k h.size hn]
  exact h
theorem Stp.refl (g : Nat) (va vb : Value) (w : World) : Stp g va vb va vb w w := ⟨fun _ _ _ => rfl, fun _ h => .inl h, Nat.le_refl _⟩
theorem Stp.below {g : Nat} {va vb : Value} {w w' : World} (h : Below w.heap.size w w') : Stp g va vb va vb w w' := ⟨fun k hk _ => h.block k hk, fun _ h => .inl h, h.size⟩
theorem Stp.trans {g : Nat} {va vb va' vb' vc vd : Value} {w w1 w2 : World} (h : Stp g va vb va' vb' w w1) (k : Stp g va' vb' vc vd w1 w2) : Stp g va vb vc vd w w2 := by
  refine ⟨fun j hj hx => ?_, fun b hb => ?_, Nat.le_trans h.2.2 k.2.2⟩
  · rw [k.1 j (Nat.lt_of_lt_of_le hj h.2.2) (fun hx' => ?_), h.1 j hj hx]
    rcases h.2.1 _ hx' with q | q
    · exact hx q
    · omega
  · rcases k.2.1 b hb with q | q
    · exact h.2.1 b q
    · exact .inr (Nat.le_trans h.2.2 q)
theorem BSX.stp {g : Nat} {va vb va' vb' : Value} {w w' : World} {p : Option Addr} {n : Nat} {l : List Int} (h : BSX (Xs g va vb) w p n l) (s : Stp g va vb va' vb' w w') : BSX (Xs g va' vb') w' p n l := by
  obtain ⟨⟨h1, h2, h3, h4⟩, h5⟩ := h
  rcases h4 with h0 | ⟨b, off, rfl, hc⟩
  · exact ⟨⟨h1, h2, h3, .inl h0⟩, .inl h0⟩
  · rcases Nat.eq_zero_or_pos n with h0 | hn
    · exact ⟨⟨h1, h2, h3, .inl h0⟩, .inl h0⟩
    · have hx : ¬ Xs g va vb b := by
        rcases h5 with h5 | h5
        · omega
        · exact h5 _ rfl
      have hlt := World.block_lt_of_cell? w _ (hc 0 hn)
      refine ⟨⟨h1, h2, h3, .inr ⟨b, off, rfl, fun i hi => s.cell (hc i hi) hx⟩⟩, .inr fun a ha hx' => ?_⟩
      cases ha
      rcases s.2.1 _ hx' with q | q
      · exact hx q
      · simp only [] at q hlt
        omega
theorem RD.stp {g : Nat} {va vb va' vb' : Value} {w w' : World} {v : Value} {d : Dk} (h : RD (Xs g va vb) w v d) (s : Stp g va vb va' vb' w w') : RD (Xs g va' vb') w' v d := by
  obtain ⟨pa, ca, pb, cb, h0, h1, h2, h3, h4⟩ := h
  exact ⟨pa, ca, pb, cb, h0, h1.stp s, h2, h3.stp s, h4⟩
theorem PD.xs {N g : Nat} {w : World} {va vb : Value} {d : Dk} (h : PD N g w va vb d) : ∀ b, Xs g va vb b → b < w.heap.size := by
  intro b hb
  rcases hb with rfl | hb | hb
  · exact h.1.size
  · exact (h.2.1.lt b hb).2
  · exact (h.2.2.1.lt b hb).2
theorem PD.ge {N g : Nat} {w : World} {va vb : Value} {d : Dk} (h : PD N g w va vb d) : ∀ b, Xs g va vb b → N ≤ b := by
  intro b hb
  rcases hb with rfl | hb | hb
  · exact h.2.2.2.2.1
  · exact (h.2.1.lt b hb).1
  · exact (h.2.2.1.lt b hb).1
/-- A cell of a disk's block is set. -/
theorem Stp.set (g : Nat) (va vb va' vb' : Value) (w : World) (i : Nat) (x : Value) (hx : ∀ b, Xs g va' vb' b → Xs g va vb b ∨ w.heap.size ≤ b) : Stp g va vb va' vb' w (w.setCell ⟨g, i, none⟩ x) := by
  refine ⟨fun k hk hn => ?_, hx, by simp [World.setCell]⟩
  have hne : g ≠ k := fun e => hn (.inl e.symm)
  simp [World.setCell, Array.getElem?_modify, hne]
end Go.Proofs.Ytofalfaiamaapaa
