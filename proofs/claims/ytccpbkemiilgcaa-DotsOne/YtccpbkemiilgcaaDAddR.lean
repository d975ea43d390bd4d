/- What the document's 'Order' and 'Add' do. -/
import Derived.Test.YtccpbkemiilgcaaDPut
namespace Go.Proofs.Ytccpbkemiilgcaa
open Go.RowKit
set_option linter.unusedVariables false

theorem put_next {l : List Dot} {k : Nat} (h : k < l.length) : (l.take (k + 1)).foldl putD [] = putD ((l.take k).foldl putD []) (l.getD k (0, 0)) := by
  rw [List.take_add_one, List.foldl_append]
  simp [List.getD_eq_getElem?_getD, h]
set_option maxHeartbeats 1000000 in
/-- The document's 'Order'. -/
theorem OrderR_any (a : Option Addr) (n cap : Nat) (l : List Dot) (w : World) (hD : DS w a n l) (hn : n ≤ 100000) :
    Calls Try.prog 16 #[.slice a n cap] w fun e w' => ∃ v, e = .returned v ∧ OwnD w.heap.size w' v (ordD l) ∧ Below w.heap.size w w' := by
  obtain ⟨hlen, hmax, hcells⟩ := hD
  unfold maxLen at hmax
  have HL := hide hlen
  have HC := hide hcells
  clear hlen hcells
  go_enter Try.func16, Try.ntmps16
  go_wp2
  go_loopw [3, 4] (fun v i wr => ∃ k : Nat, k ≤ n ∧ i = .int .i64 k ∧ Hid (OwnD w.heap.size wr v ((l.take k).foldl putD [])) ∧ Hid (Below w.heap.size w wr)) (fun _ i _ => n - (intOf i).toNat)
  case atStart => exact ⟨0, by omega, rfl, OwnD.made w w.heap.size _ rfl (Nat.le_refl _), bel1 _ _⟩
  case round =>
    obtain ⟨k, hk, rfl, HO, HB⟩ := hrel
    by_cases hlt : k < n
    · rcases HC.out with h0 | ⟨b, off, rfl, hc⟩
      · omega
      · have x0 := bcell HB.out (hc k hlt).1
        have x1 := bcell HB.out (hc k hlt).2
        have HN := hide (put_next (show k < l.length by rw [HL.out]; exact hlt))
        have hll : ((l.take k).foldl putD []).length ≤ 100000 := by
          have z := foldl_putD_len (l.take k) []
          rw [List.length_take] at z
          simp at z
          omega
        clear hc
        have HP := hide (PutR_any w.heap.size _ _ (l.getD k (0, 0)) wr HO.out HB.out.size hll)
        rw [← HN.out] at HP
        generalize l.getD k (0, 0) = x at x0 x1 HP
        obtain ⟨r, s⟩ := x
        clear HN hll
        go_wp2_with (go_at_call 41; refine HP.out.mono ?_; rintro e w' ⟨v', rfl, hO2, hb⟩)
        go_roundw
        case rel => exact ⟨k + 1, by omega, by go_num, hO2, bel_next HB.out hb⟩
        case measure => simp [intOf]; omega
    · have hkl : k = n := by omega
      subst hkl
      rw [List.take_of_length_le (by rw [HL.out]; exact Nat.le_refl _)] at HO
      go_wp2
      go_ret
      exact ⟨_, rfl, HO.out, HB.out⟩

/-- What is answered: a Seen alone. -/
def Off (p : Option Addr) (n g : Nat) : Prop := n = 0 ∨ ∀ a, p = some a → a.block ≠ g
def OutA (w : World) (pa pm : Option Addr) (na nm : Nat) (c : List Int) (m : List Dot) (e : Ending) (w' : World) : Prop :=
  (∃ p1 k1 c1 p2 k2 c2, e = .returned (.agg #[.slice p1 k1 c1, .slice p2 k2 c2]) ∧ NS w' p1 k1 c ∧ CP p1 k1 c1 ∧ DS w' p2 k2 m ∧ CP p2 k2 c2 ∧ (∀ g, g < w.heap.size → Off pa na g → Off pm nm g → Off p1 k1 g ∧ Off p2 k2 g)) ∧ Below w.heap.size w w'
theorem NS.set0 {w : World} {p : Option Addr} {n : Nat} {l : List Int} (h : NS w p n l) (q : Addr) (v : Value) (hp : n = 0 ∨ ∀ a, p = some a → a.block ≠ q.block) : NS (w.setCell q v) p n l := by
  rcases hp with h0 | hp
  · exact ⟨h.1, h.2.1, .inl h0⟩
  · exact h.set q v hp
theorem ds_cells {w : World} {q : Addr} {k : Nat} {l : List Dot} (hD : DS w (some q) k l) : ∀ j u, (flatD l)[j]? = some u → w.cell? (q.add j) = some u := by
  intro j u hj
  obtain ⟨g1, g2, g4⟩ := hD
  have hjl : j < (flatD l).length := (List.getElem?_eq_some_iff.1 hj).1
  rw [flatD_len] at hjl
  rcases g4 with h0 | ⟨b, off, hh, hc⟩
  · omega
  · cases hh
    have k := hc (j / 2) (by omega)
    have f := flatD_get l (j / 2) (by omega)
    have h3 : (⟨b, off, none⟩ : Addr).add j = ⟨b, off + j, none⟩ := by
      by_cases hj0 : j = 0
      · subst hj0; simp [Addr.add]
      · simp [Addr.add, hj0]
    rw [h3]
    rcases Nat.mod_two_eq_zero_or_one j with e | e
    · have e2 : j = j / 2 * 2 := by omega
      rw [e2, f.1] at hj
      rw [show (⟨b, off + j, none⟩ : Addr) = ⟨b, off + j / 2 * 2, none⟩ by rw [← e2], k.1]
      exact hj
    · have e2 : j = j / 2 * 2 + 1 := by omega
      rw [e2, f.2] at hj
      rw [show (⟨b, off + j, none⟩ : Addr) = ⟨b, off + j / 2 * 2 + 1, none⟩ by rw [Nat.add_assoc, ← e2], k.2]
      exact hj
/-- 'append' onto dots of the call's own: where they lie then. -/
theorem append_blk {w : World} {ty : TypeId} {N : Nat} {v v' : Value} {w' : World} {l m : List Dot} {p : Addr} {len cap : Nat} (hown : OwnD N w v l) (hB : DS w (some p) len m) (hbig : l.length + m.length ≤ 1000000)
    (hr : (Builtin.append_ #[24, 24] ty #[v, .slice (some p) len cap]).run Try.prog w = .ok v' w') : ∀ b, v'.ownBlock = some b → v.ownBlock = some b ∨ w.heap.size ≤ b := by
  obtain ⟨i0, hi, hz0, hz1, hz2⟩ := info_parts Try.infoDot
  have h0 := hown
  obtain ⟨hxl, h2⟩ := hown
  rcases h2 with ⟨rfl, h2⟩ | ⟨g, cp, cur, rfl, hb, hg, hc1, hc2, hs, ht⟩
  · obtain ⟨v2, w2, hr2, h3, _, _⟩ := run_append_own (P := Try.prog) w w.heap.size 24 ty 28 i0 (.agg #[.int .i64 0, .int .i64 0]) 2 16 Try.underlying24 hi hz0 hz1 hz2 rfl (by decide) (.slice none 0 0) 0 [] (OwnD.nil w.heap.size w) p len cap (flatD m) (by rw [flatD_len, hB.1]) (ds_cells hB) (flatD_one m) (by unfold maxLen; have := hB.1; omega) (by have := hB.1; omega) (Nat.le_refl _)
    rw [hr] at hr2
    cases hr2
    exact fun b hbb => .inr (World.ownsRow.lt h3 b hbb).1
  · by_cases hroom : l.length + len ≤ cp
    · have hcell : ∀ j, j < (flatD m).length → (w.cell? ⟨g, 0 + l.length * i0.size + j, none⟩).isSome = true ∧ w.frozen? ⟨g, 0 + l.length * i0.size + j, none⟩ = false := by
        intro j hj
        rw [flatD_len, hB.1] at hj
        rw [hz1]
        refine ⟨?_, by simp [World.frozen?, hg]⟩
        rw [cell_of_row w _ _ _ _ _ hg]
        have hjj : 0 + l.length * 2 + j < cur.size := by rw [hs]; omega
        rw [Array.getElem?_eq_getElem hjj]
        rfl
      have hrr := run_append_room_cells (P := Try.prog) (w := w) 24 ty 28 i0 Try.underlying24 hi g 0 l.length cp p len cap (flatD m) (by rw [flatD_len, hB.1, hz1]) (ds_cells hB) (flatD_one m) hroom (fun j hj => (hcell j hj).1) (fun j hj => (hcell j hj).2)
      rw [hr] at hrr
      cases hrr
      exact fun b hbb => .inl hbb
    · obtain ⟨v2, w2, hr2, h3, _⟩ := run_append_arg_grows (P := Try.prog) (w := w) 24 ty 28 i0 (.agg #[.int .i64 0, .int .i64 0]) 2 16 Try.underlying24 hi hz0 hz1 hz2 rfl (by decide) ⟨g, 0, none⟩ l.length cp (flatD l) (by rw [flatD_len]) (ds_cells h0.ds.1) p len cap (flatD m) (by rw [flatD_len, hB.1]) (ds_cells hB) (by omega) (by unfold maxLen; have := hB.1; omega) (by have := hB.1; omega)
      rw [hr] at hr2
      cases hr2
      exact fun b hbb => .inr (World.ownsRow.lt h3 b hbb).1
theorem append_more {w : World} {ops : Array Oper} {rest : List Oper} {o : Oper} {a : Act} {Q : Exit → Act → World → Prop} (hgd : o.guard = none) (s x : Operand)
    (ho : o.op = .call { callee := .builtin .append, args := #[s, x], argTypes := #[24, 24] })
    (N : Nat) (v : Value) (l m : List Dot) (hs : a.eval s = v) (hown : OwnD N w v l) (p : Addr) (len cap : Nat) (hx : a.eval x = .slice (some p) len cap) (hB : DS w (some p) len m)
    (hbig : l.length + m.length ≤ 1000000) (hN : N ≤ w.heap.size)
    (h : ∀ v' w', OwnD N w' v' (l ++ m) → w.grownBy w' v.ownBlock → (∀ b, v'.ownBlock = some b → v.ownBlock = some b ∨ w.heap.size ≤ b) → wpList Try.prog ops Q rest (a.put o.dst v') w') : wpList Try.prog ops Q (o :: rest) a w := by
  refine wpList_plain hgd fun K hK => ?_
  obtain ⟨i0, hi, hz0, hz1, hz2⟩ := info_parts Try.infoDot
  obtain ⟨v', w', hr, h2, h3, _⟩ := run_append_own (P := Try.prog) w N 24 o.type 28 i0 (.agg #[.int .i64 0, .int .i64 0]) 2 16 Try.underlying24 hi hz0 hz1 hz2 rfl (by decide) v _ _ hown p len cap (flatD m) (by rw [flatD_len, hB.1]) (ds_cells hB) (flatD_one m) (by unfold maxLen; have := hB.1; omega) (by have := hB.1; omega) hN
  have e : l.length + len = (l ++ m).length := by rw [List.length_append, hB.1]
  rw [e, ← flatD_app] at h2
  have hk := hK _ _ (h v' w' h2 h3 (append_blk hown hB hbig hr))
  unfold Oper.wp execOp
  simp only [ho, resolve, invoke, builtin, Sem.run_bind, Sem.run_pure, Result.andThen_ok, List.map_toArray, List.map_cons, List.map_nil, hs, hx, hr]
  exact hk
theorem NS.far {w : World} {p : Option Addr} {n : Nat} {l : List Int} (h : NS w p n l) : n = 0 ∨ ∀ a, p = some a → a.block < w.heap.size := by
  rcases Nat.eq_zero_or_pos n with h0 | hp
  · exact .inl h0
  · rcases h.2.2 with h0 | ⟨b, off, rfl, hc⟩
    · exact .inl h0
    · refine .inr fun a ha => ?_
      cases ha
      have := World.block_lt_of_cell? w _ (hc 0 hp)
      exact this
theorem NS.grown {w w' : World} {p : Option Addr} {n : Nat} {l : List Int} {row : Option Nat} (h : NS w p n l) (hg : w.grownBy w' row) (hp : n = 0 ∨ ∀ a, p = some a → row ≠ some a.block) : NS w' p n l := by
  rcases Nat.eq_zero_or_pos n with h0 | hpos
  · exact ⟨h.1, h.2.1, .inl h0⟩
  · rcases hp with h0 | hp
    · omega
    · obtain ⟨h1, h2, h4⟩ := h
      refine ⟨h1, h2, ?_⟩
      rcases h4 with h0 | ⟨b, off, rfl, hc⟩
      · exact .inl h0
      · refine .inr ⟨b, off, rfl, fun i hi => ?_⟩
        have hlt := World.block_lt_of_cell? w _ (hc i hi)
        rw [World.cell?_of_block (w := w) (hg.block b hlt (fun e => hp _ rfl e.symm))]
        exact hc i hi
/-- 'out' in the document's 'Add'. -/
def AS (pa : Option Addr) (na : Nat) (w u : World) (X : List Int) (more : List Dot) (wr : World) : Prop :=
  Below u.heap.size u wr ∧ ∃ p1 k1 c1 p2 k2 c2, wr.heap[u.heap.size]? = some (.cells #[.slice p1 k1 c1, .slice p2 k2 c2] 26 (0, 0)) ∧ NS wr p1 k1 (pln X) ∧ CP p1 k1 c1 ∧ (k1 = 0 ∨ ∀ a, p1 = some a → ((pa = some a ∧ na ≠ 0 ∧ a.block < w.heap.size) ∨ u.heap.size < a.block) ∧ ∀ b, p2 = some b → a.block ≠ b.block) ∧ OwnD (u.heap.size + 1) wr (.slice p2 k2 c2) more
theorem AS.below {pa : Option Addr} {na : Nat} {w u wr w' : World} {X : List Int} {more : List Dot} (h : AS pa na w u X more wr) (hb : Below wr.heap.size wr w') : AS pa na w u X more w' := by
  obtain ⟨h1, p1, k1, c1, p2, k2, c2, h2, h3, h4, h5, h6⟩ := h
  exact ⟨bel_next h1 hb, p1, k1, c1, p2, k2, c2, by rw [hb.block _ (Array.getElem?_eq_some_iff.1 h2).1]; exact h2, h3.below hb, h4, h5, h6.below hb⟩
theorem stepR_next {l : List Dot} {k : Nat} (h : k < l.length) (s : Sn) : (l.take (k + 1)).foldl stepR s = stepR ((l.take k).foldl stepR s) (l.getD k (0, 0)) := by
  rw [List.take_add_one, List.foldl_append]
  simp [List.getD_eq_getElem?_getD, h]
theorem foldR_bd (l : List Dot) (hl : ∀ x ∈ l, mayD x = true) : ∀ s : Sn, BdX s.1 → BdX (l.foldl stepR s).1 := by
  induction l with
  | nil => exact fun s h => h
  | cons d r ih =>
    intro s h
    refine ih (fun x hx => hl x (List.mem_cons_of_mem _ hx)) _ ?_
    unfold stepR
    split
    · exact h.set (hl d (by simp)) _
    · exact h
theorem foldR_len (l : List Dot) : ∀ s : Sn, (l.foldl stepR s).2.length ≤ s.2.length + l.length := by
  induction l with
  | nil => intro s; simp
  | cons d r ih =>
    intro s
    have h1 := ih (stepR s d)
    have h2 : (stepR s d).2.length ≤ s.2.length + 1 := by unfold stepR; split <;> simp
    simp; omega
theorem getZ_pln {X : List Int} (h : BdX X) (q : Nat) (hq : q < 5) : getZ (pln X) ((q : Int) + 1) = X.getD q 0 := by
  unfold getZ
  rw [if_pos (by omega), show ((q : Int) + 1).toNat - 1 = q by omega, at5_pln X h.1 h.2]
theorem setL_pln {X : List Int} (h : BdX X) (q : Nat) (n : Int) : setL (pln X) q n = X.set q n := by
  unfold setL; rw [vec_pln X h.1 h.2]

set_option maxHeartbeats 8000000 in
set_option maxRecDepth 100000 in
/-- The document's 'Add'. -/
theorem AddR_any (pa pm : Option Addr) (na ca nm cm : Nat) (c : List Int) (m : List Dot) (d : Dot) (w : World) (hN : NS w pa na c) (hcp : CP pa na ca) (hD : DS w pm nm m) (hcq : CP pm nm cm) (hG : GoodX (vec c, m)) (hpl : pln (vec c) = c) (hd : mayD d = true) (hnm : nm ≤ 10000) :
    Calls Try.prog 21 #[.agg #[.slice pa na ca, .slice pm nm cm], .agg #[.int .i64 d.1, .int .i64 d.2]] w (OutA w pa pm na nm (pln (addR (vec c, m) d).1) (addR (vec c, m) d).2) := by
  have HH := hide (fun W h k => HasR_any pa pm na ca nm cm c m d W h k)
  have hhb : hasB c m d = decide (hasX (vec c, m) d) := by
    rw [Bool.eq_iff_iff, hasB_iff, decide_eq_true_iff]; exact ⟨fun h => h.2, fun h => ⟨hd, h⟩⟩
  rw [hhb] at HH
  have HN := hide hN
  have HD := hide hD
  have HCp := hide hcp
  have HCq := hide hcq
  have HG := hide hG
  have Hpl := hide hpl
  have Hmd := hide hd
  clear hhb hN hD hcp hcq hG hpl hd
  obtain ⟨r0, s0⟩ := d
  have c0 : (((w.alloc (bxS pa pm na ca nm cm)).alloc (bxD r0 s0)).alloc bxZ).cell? ⟨w.heap.size, 0, none⟩ = some (.slice pa na ca) := cell_old _ (cell_old _ (cell_new w _ _ _ rfl 0 _ rfl))
  have c1 : (((w.alloc (bxS pa pm na ca nm cm)).alloc (bxD r0 s0)).alloc bxZ).cell? ⟨w.heap.size, 1, none⟩ = some (.slice pm nm cm) := cell_old _ (cell_old _ (cell_new w _ _ _ rfl 1 _ rfl))
  have c2 : (((w.alloc (bxS pa pm na ca nm cm)).alloc (bxD r0 s0)).alloc bxZ).cell? ⟨w.heap.size + 1, 0, none⟩ = some (.int .i64 r0) := cell_old _ (cell_new _ _ _ _ (by simp) 0 _ rfl)
  have c3 : (((w.alloc (bxS pa pm na ca nm cm)).alloc (bxD r0 s0)).alloc bxZ).cell? ⟨w.heap.size + 1, 1, none⟩ = some (.int .i64 s0) := cell_old _ (cell_new _ _ _ _ (by simp) 1 _ rfl)
  have hR : RC (((w.alloc (bxS pa pm na ca nm cm)).alloc (bxD r0 s0)).alloc bxZ) (w.heap.size + 1 + 1) := by
    unfold RC
    rw [show w.heap.size + 1 + 1 = ((w.alloc (bxS pa pm na ca nm cm)).alloc (bxD r0 s0)).heap.size by simp, heap_alloc_new]
  have HR := hide hR
  have HU := hide (bel3 w (bxS pa pm na ca nm cm) (bxD r0 s0) bxZ)
  clear hR
  by_cases hh : hasX (vec c, m) (r0, s0)
  · rw [decide_eq_true hh] at HH
    have HE : Hid (addR (vec c, m) (r0, s0) = (vec c, m)) := by unfold Hid addR; rw [if_pos hh]
    clear hh
    go_enter Try.func21, Try.ntmps21
    go_wp2_with (go_at_call 19; refine (HH.out _ (HN.out.below HU.out) (HD.out.below HU.out)).mono ?_; rintro e u ⟨rfl, hb⟩; replace c0 := bcell hb c0; replace c1 := bcell hb c1; replace c2 := bcell hb c2; replace c3 := bcell hb c3; replace HU := hide (bel_next HU.out hb); replace HR := hide (HR.out.below hb); clear hb; have e0 := HR.out.cells.1; have e1 := HR.out.cells.2.1; have z0 := HR.out.cells.2.2.1; have z1 := HR.out.cells.2.2.2)
    refine bodyPost_ret (results_cell_row rfl _ _ _ _ _ _ _ rfl (HR.out.put _ _) Try.underlying26 rfl Try.infoSeen) rfl ?_
    rw [HE.out]
    have hbf := bel_put HU.out (show w.heap.size ≤ w.heap.size + 1 + 1 by omega) (.slice pa na ca) (.slice pm nm cm)
    refine ⟨⟨_, _, _, _, _, _, rfl, ?_, HCp.out, HD.out.below hbf, HCq.out, fun g _ h1 h2 => ⟨h1, h2⟩⟩, hbf⟩
    show NS _ pa na (pln (vec c))
    rw [Hpl.out]
    exact HN.out.below hbf
  · rw [decide_eq_false hh] at HH
    have HE := hide (addR_as HG.out Hmd.out hh)
    have HAll : Hid (∀ x ∈ putD m (r0, s0), mayD x = true) := fun x hx => by
      rcases mem_putD.1 hx with z | z
      · rw [z]; exact Hmd.out
      · exact (HG.out.2.2 x z).1
    have HLn : Hid ((putD m (r0, s0)).length ≤ 10001) := by
      have z := putD_len (l := m) (d := (r0, s0)); have := HD.out.1; unfold Hid; omega
    clear hh
    go_enter Try.func21, Try.ntmps21
    go_wp2_with (go_at_call 19; refine (HH.out _ (HN.out.below HU.out) (HD.out.below HU.out)).mono ?_; rintro e u ⟨rfl, hb⟩; replace c0 := bcell hb c0; replace c1 := bcell hb c1; replace c2 := bcell hb c2; replace c3 := bcell hb c3; replace HU := hide (bel_next HU.out hb); replace HR := hide (HR.out.below hb); clear hb)
    refine wp_region_held_drew (S := fun W => Below u.heap.size u W) (by kernel_rfl) ((Below.refl _ u).drew) (fun hS0 => ?_)
    refine takeInH 1 14 ?v1 rfl rfl (by kernel_rfl) (by kernel_rfl) (by kernel_rfl) (fun _ _ _ h => h) (by kernel_rfl) hS0 ?hy1 ?_
    case hy1 => (intro W hW; clear hW; go_simp; try rfl)
    simp only [Act.put, List.setIfInBounds_toArray, List.set_cons_zero, List.set_cons_succ]
    refine takeInH 2 15 ?v2 rfl rfl (by kernel_rfl) (by kernel_rfl) (by kernel_rfl) (fun _ _ _ h => h) (by kernel_rfl) hS0 ?hy2 ?_
    case hy2 => (intro W hW; have e0 := bcell hW c0; have e1 := bcell hW c1; have e2 := bcell hW c2; have e3 := bcell hW c3; clear hW; go_simp; try rfl)
    simp only [Act.put, List.setIfInBounds_toArray, List.set_cons_zero, List.set_cons_succ]
    refine takeInH 4 17 ?v3 rfl rfl (by kernel_rfl) (by kernel_rfl) (by kernel_rfl) (fun _ _ _ h => h) (by kernel_rfl) hS0 ?hy3 ?_
    case hy3 => (intro W hW; have e0 := bcell hW c0; have e1 := bcell hW c1; have e2 := bcell hW c2; have e3 := bcell hW c3; clear hW; go_simp; try rfl)
    simp only [Act.put, List.setIfInBounds_toArray, List.set_cons_zero, List.set_cons_succ]
    refine wpAnyH_ready (rs := [0]) (by kernel_rfl) (by simp) ?_
    refine AllReadyH.cons rfl (fun K hK => ?_) AllReadyH.nil
    go_simp
    have b0 := OwnD.made u u.heap.size u.heap.size rfl (Nat.le_refl _)
    have hSn : Below u.heap.size u (u.alloc (.cells #[] 28)).drew := ((Below.refl _ u).alloc (Nat.le_refl _) _).drew
    have HO0 := hide b0.drew
    clear b0
    generalize (u.alloc (.cells #[] 28)).drew = W1 at *
    refine hK.out _ _ ?hs4 (fun hS1 => ?_)
    case hs4 => exact hSn
    clear hK K
    try simp only [Act.put, List.setIfInBounds_toArray, List.set_cons_zero, List.set_cons_succ]
    refine wpAnyH_ready (rs := [3]) (by kernel_rfl) (by simp) ?_
    refine AllReadyH.cons rfl (fun K hK => ?_) AllReadyH.nil
    rw [if_pos (by kernel_rfl)]
    refine append_wp _ _ rfl u.heap.size _ [] m rfl HO0.out pm nm cm rfl HCq.out.2.2 (HD.out.below (bel_next HU.out hS1)) (by have := HD.out.1; simp; omega) hS1.size ?_
    intro v1 W2 ho1 hb1
    rw [List.nil_append] at ho1
    have HO1 := hide ho1
    have hSm := hb1 _ hS1
    clear ho1 hb1 HO0
    change K (Act.put _ (some 16) _) _
    refine hK.out _ _ ?hs5 (fun hS2 => ?_)
    case hs5 => exact hSm
    clear hK K
    try simp only [Act.put, List.setIfInBounds_toArray, List.set_cons_zero, List.set_cons_succ]
    refine wpAnyH_ready (rs := [5]) (by kernel_rfl) (by simp) ?_
    refine AllReadyH.cons rfl (fun K hK => ?_) AllReadyH.nil
    go_simp
    refine (PutR_any u.heap.size _ m (r0, s0) _ HO1.out hS2.size (by have := HD.out.1; omega)).mono ?_
    rintro e W3 ⟨v2, rfl, hO2, hb⟩
    have HO2 := hide hO2
    clear hO2
    try go_wp2_with fail
    refine hK.out _ _ ?hs6 (fun hS3 => ?_)
    case hs6 => exact bel_next hS2 hb
    clear hK K hb
    try simp only [Act.put, List.setIfInBounds_toArray, List.set_cons_zero, List.set_cons_succ]
    refine takeInH 6 5 ?v7 rfl rfl (by kernel_rfl) (by kernel_rfl) (by kernel_rfl) (fun _ _ _ h => h) (by kernel_rfl) hS3 ?hy7 ?_
    case hy7 => (intro W hW; clear hW; go_simp; try rfl)
    simp only [Act.put, List.setIfInBounds_toArray, List.set_cons_zero, List.set_cons_succ]
    refine wpAnyH_done (by kernel_rfl) ?_ _
    replace c0 := bcell hS3 c0
    replace HR := hide (HR.out.below hS3)
    replace HU := hide (bel_next HU.out hS3)
    obtain ⟨pl, cl, hvl, hdl, _⟩ := HO2.out.open
    obtain ⟨n, hln⟩ : ∃ n, n = (putD m (r0, s0)).length := ⟨_, rfl⟩
    rw [← hln] at hvl hdl
    subst hvl
    have HDl := hide hdl
    have Hln := hide hln
    have hn1 : n ≤ 10001 := by rw [hln]; exact HLn.out
    clear hdl hln HO1 HO2 c1 c2 c3 hS0 hS1 hS2 hS3
    generalize W3 = u4 at *
    go_wp2
    go_loopw [7] (fun i wr => ∃ (k : Nat) (X : List Int) (more : List Dot), k ≤ n ∧ i = .int .i64 k ∧ Hid (AS pa na w u4 X more wr) ∧ Hid (((putD m (r0, s0)).take k).foldl stepR (vec c, []) = (X, more))) (fun i _ => n - (intOf i).toNat)
    case atStart =>
      refine ⟨0, vec c, [], by omega, rfl, ⟨bel1 _ _, pa, na, ca, none, 0, 0, heap_alloc_new _ _, ?_, HCp.out, ?_, OwnD.nil _ _⟩, rfl⟩
      · rw [Hpl.out]; exact (HN.out.below HU.out).alloc _
      · rcases HN.out.far with h0 | h0
        · exact .inl h0
        · rcases Nat.eq_zero_or_pos na with hz | hz
          · exact .inl hz
          · exact .inr fun a ha => ⟨.inl ⟨ha, by omega, h0 a ha⟩, fun b hb => by cases hb⟩
    case round =>
      clear c0
      obtain ⟨k, X, more, hk, rfl, HA, HX⟩ := hrel
      by_cases hlt : k < n
      · have HLt := hide (show k < (putD m (r0, s0)).length by rw [← Hln.out]; exact hlt)
        obtain ⟨hB, p1, k1, c1, p2, k2, c2, hgo, hns, hcp1, hfar, hown⟩ := HA.out
        have hbd : BdX X := by
          have z := foldR_bd ((putD m (r0, s0)).take k) (fun x hx => HAll.out x (List.mem_of_mem_take hx)) (vec c, []) (vec_bdX c)
          rw [HX.out] at z
          exact z
        have hml : more.length ≤ 20000 := by
          have z := foldR_len ((putD m (r0, s0)).take k) (vec c, [])
          rw [HX.out, List.length_take] at z
          simp at z
          omega
        have hst := stepR_next HLt.out (vec c, [])
        rw [HX.out] at hst
        have hmx := HAll.out _ (getDot_mem HLt.out)
        have hxc : wr.cell? ⟨u4.heap.size, 0, none⟩ = some (.slice p1 k1 c1) := by rw [cell_of_row wr _ _ _ _ _ hgo]; rfl
        have hxd : wr.cell? ⟨u4.heap.size, 1, none⟩ = some (.slice p2 k2 c2) := by rw [cell_of_row wr _ _ _ _ _ hgo]; rfl
        have hsz : u4.heap.size < wr.heap.size := (Array.getElem?_eq_some_iff.1 hgo).1
        rcases HDl.out.2.2 with h0 | ⟨b, off, hpl, hc⟩
        · omega
        · subst hpl
          have y0 := bcell hB (hc k hlt).1
          have y1 := bcell hB (hc k hlt).2
          obtain ⟨x, hx⟩ : ∃ x, (putD m (r0, s0)).getD k (0, 0) = x := ⟨_, rfl⟩
          rw [hx] at y0 y1 hst hmx
          obtain ⟨r, s⟩ := x
          have hr := mayD_iff.1 hmx
          simp only at hr
          obtain ⟨q, hq⟩ : ∃ q : Nat, r = q + 1 := ⟨(r - 1).toNat, by omega⟩
          subst hq
          have hq5 : q < 5 := by omega
          have HGt := hide (fun W h => getR_any p1 k1 c1 (pln X) ((q : Int) + 1) (by omega) W h)
          rw [getZ_pln hbd q hq5] at HGt
          have en : numX X ((q : Int) + 1, s) = X.getD q 0 := by unfold numX; congr 1; show ((q : Int) + 1 - 1).toNat = q; omega
          have hnb := numX_bd hbd ((q : Int) + 1, s)
          rw [en] at hnb
          obtain ⟨z, hz⟩ : ∃ z, X.getD q 0 = z := ⟨_, rfl⟩
          rw [hz] at hnb HGt en
          have hwz := wrap1 hnb.1 hnb.2
          have HEn := hide en
          have Hst := hide hst
          have HB := hide hB
          have Hgo := hide hgo
          have HNs := hide hns
          have HCp1 := hide hcp1
          have Hfar := hide hfar
          have HOw := hide hown
          have HBd := hide hbd
          have NU2 := hide (hns.alloc (bxD ((q : Int) + 1) s))
          have o0 := cell_old (bxD ((q : Int) + 1) s) hxc
          have o1 := cell_old (bxD ((q : Int) + 1) s) hxd
          have hs1 : 0 ≤ s := by omega
          have hs2 : s ≤ 1048576 := by omega
          clear hB hgo hns hcp1 hfar hown hbd hst hmx hxc hxd hx hc hr en hz HX HA
          by_cases h1 : s = z + 1
          · have HX2 : Hid (((putD m (r0, s0)).take (k + 1)).foldl stepR (vec c, []) = (X.set q s, more)) := by
              unfold Hid
              rw [Hst.out]
              unfold stepR
              rw [if_pos (by show s = numX X ((q : Int) + 1, s) + 1; rw [HEn.out]; exact h1)]
              show (X.set ((q : Int) + 1 - 1).toNat s, more) = _
              rw [show ((q : Int) + 1 - 1).toNat = q by omega]
            have HSe := hide (fun W h => set_ref p1 k1 c1 (pln X) ((q : Int) + 1) s q rfl hq5 hs1 hs2 W h)
            rw [setL_pln HBd.out] at HSe
            subst h1
            go_wp2
            have x0 : (wr.alloc (bxD ((q : Int) + 1) (z + 1))).cell? ⟨wr.heap.size, 0, none⟩ = some (.int .i64 ((q : Int) + 1)) := cell_new wr _ _ _ rfl 0 _ rfl
            have x1 : (wr.alloc (bxD ((q : Int) + 1) (z + 1))).cell? ⟨wr.heap.size, 1, none⟩ = some (.int .i64 (z + 1)) := cell_new wr _ _ _ rfl 1 _ rfl
            have HB2 := hide (bel_next HB.out (bel1 wr (bxD ((q : Int) + 1) (z + 1))))
            have Hgo2 : Hid ((wr.alloc (bxD ((q : Int) + 1) (z + 1))).heap[u4.heap.size]? = some (.cells #[.slice p1 k1 c1, .slice p2 k2 c2] 26 (0, 0))) := by unfold Hid; rw [Below.heap_alloc _ _ _ hsz]; exact Hgo.out
            have HOw2 := hide (HOw.out.alloc (bxD ((q : Int) + 1) (z + 1)))
            have hsz2 : u4.heap.size < (wr.alloc (bxD ((q : Int) + 1) (z + 1))).heap.size := by simp; omega
            generalize wr.alloc (bxD ((q : Int) + 1) (z + 1)) = u2 at *
            refine wp_region_held_drew (S := fun W => Below u2.heap.size u2 W) (by kernel_rfl) ((Below.refl _ u2).drew) (fun hS0 => ?_)
            refine takeInH 0 32 ?v8 rfl rfl (by kernel_rfl) (by kernel_rfl) (by kernel_rfl) (fun _ _ _ h => h) (by kernel_rfl) hS0 ?hy8 ?_
            case hy8 => (intro W hW; clear hW; go_simp; try rfl)
            simp only [Act.put, List.setIfInBounds_toArray, List.set_cons_zero, List.set_cons_succ]
            refine takeInH 1 33 ?v9 rfl rfl (by kernel_rfl) (by kernel_rfl) (by kernel_rfl) (fun _ _ _ h => h) (by kernel_rfl) hS0 ?hy9 ?_
            case hy9 => (intro W hW; have e0 := bcell hW o0; have e1 := bcell hW x0; have e2 := bcell hW x1; clear hW; go_simp; try rfl)
            simp only [Act.put, List.setIfInBounds_toArray, List.set_cons_zero, List.set_cons_succ]
            refine takeInH 2 34 ?v10 rfl rfl (by kernel_rfl) (by kernel_rfl) (by kernel_rfl) (fun _ _ _ h => h) (by kernel_rfl) hS0 ?hy10 ?_
            case hy10 => (intro W hW; clear hW; go_simp; try rfl)
            simp only [Act.put, List.setIfInBounds_toArray, List.set_cons_zero, List.set_cons_succ]
            refine takeInH 3 35 ?v11 rfl rfl (by kernel_rfl) (by kernel_rfl) (by kernel_rfl) (fun _ _ _ h => h) (by kernel_rfl) hS0 ?hy11 ?_
            case hy11 => (intro W hW; have e0 := bcell hW o0; have e1 := bcell hW x0; have e2 := bcell hW x1; clear hW; go_simp; try rfl)
            simp only [Act.put, List.setIfInBounds_toArray, List.set_cons_zero, List.set_cons_succ]
            refine takeInH 4 36 ?v12 rfl rfl (by kernel_rfl) (by kernel_rfl) (by kernel_rfl) (fun _ _ _ h => h) (by kernel_rfl) hS0 ?hy12 ?_
            case hy12 => (intro W hW; clear hW; go_simp; try rfl)
            simp only [Act.put, List.setIfInBounds_toArray, List.set_cons_zero, List.set_cons_succ]
            refine takeInH 5 37 ?v13 rfl rfl (by kernel_rfl) (by kernel_rfl) (by kernel_rfl) (fun _ _ _ h => h) (by kernel_rfl) hS0 ?hy13 ?_
            case hy13 => (intro W hW; have e0 := bcell hW o0; have e1 := bcell hW x0; have e2 := bcell hW x1; clear hW; go_simp; try rfl)
            simp only [Act.put, List.setIfInBounds_toArray, List.set_cons_zero, List.set_cons_succ]
            refine wpAnyH_ready (rs := [6]) (by kernel_rfl) (by simp) ?_
            refine AllReadyH.cons rfl (fun K hK => ?_) AllReadyH.nil
            go_simp
            refine (HGt.out _ (NU2.out.below hS0)).mono ?_
            rintro e w' ⟨rfl, hw⟩
            replace hw := hw.symm
            subst hw
            try go_wp2_with fail
            refine hK.out _ _ ?hs14 (fun hS1 => ?_)
            case hs14 => exact hS0
            clear hK K
            try simp only [Act.put, List.setIfInBounds_toArray, List.set_cons_zero, List.set_cons_succ]
            refine takeInH 7 39 ?v15 rfl rfl (by kernel_rfl) (by kernel_rfl) (by kernel_rfl) (fun _ _ _ h => h) (by kernel_rfl) hS1 ?hy15 ?_
            case hy15 => (intro W hW; clear hW; go_simp; try rfl)
            simp only [Act.put, List.setIfInBounds_toArray, List.set_cons_zero, List.set_cons_succ]
            refine takeInH 8 40 ?v16 rfl rfl (by kernel_rfl) (by kernel_rfl) (by kernel_rfl) (fun _ _ _ h => h) (by kernel_rfl) hS1 ?hy16 ?_
            case hy16 => (intro W hW; clear hW; go_simp; try rfl)
            simp only [Act.put, List.setIfInBounds_toArray, List.set_cons_zero, List.set_cons_succ]
            refine wpAnyH_done (by kernel_rfl) ?_ _
            replace o0 := bcell hS0 o0
            replace x0 := bcell hS0 x0
            replace x1 := bcell hS0 x1
            replace HB2 := hide (bel_next HB2.out hS0)
            replace NU2 := hide (NU2.out.below hS0)
            replace HOw2 := hide (HOw2.out.below hS0)
            replace Hgo2 : Hid (u2.drew.heap[u4.heap.size]? = some (.cells #[.slice p1 k1 c1, .slice p2 k2 c2] 26 (0, 0))) := Hgo2
            replace hsz2 : u4.heap.size < u2.drew.heap.size := hsz2
            clear hS0 o1 Hgo HOw HB
            try clear hS1
            generalize u2.drew = u5 at *
            go_wp2_with fail
            refine (HSe.out _ NU2.out).mono ?_
            rintro e w5 ⟨v5, rfl, hO5, hb5⟩
            obtain ⟨p5, c5, hv5, hns5, hcp5⟩ := hO5.open
            subst hv5
            have g5 : w5.heap[u4.heap.size]? = some (.cells #[.slice p1 k1 c1, .slice p2 k2 c2] 26 (0, 0)) := by rw [hb5.block _ hsz2]; exact Hgo2.out
            have e0 : w5.cell? ⟨u4.heap.size, 0, none⟩ = some (.slice p1 k1 c1) := by rw [cell_of_row w5 _ _ _ _ _ g5]; rfl
            have z0 : w5.frozen? ⟨u4.heap.size, 0, none⟩ = false := by simp [World.frozen?, g5]
            have hA2 : AS pa na w u4 (X.set q (z + 1)) more (w5.setCell ⟨u4.heap.size, 0, none⟩ (.slice p5 (pln (X.set q (z + 1))).length c5)) := by
              have q1 := set1 g5 (bel_next HB2.out hb5) (Nat.le_refl _) 0 (.slice p5 (pln (X.set q (z + 1))).length c5)
              refine ⟨q1.2, p5, _, c5, p2, k2, c2, q1.1, ?_, hcp5, ?_, ?_⟩
              · exact hns5.set _ _ (fun a ha => by have y := hO5.blk a ha; show a.block ≠ u4.heap.size; omega)
              · refine .inr fun a ha => ?_
                have y := hO5.blk a ha
                refine ⟨.inr (by omega), fun b hb => ?_⟩
                subst hb
                have y2 := (World.ownsRow.lt HOw2.out b.block rfl).2
                omega
              · exact ownsRow_setCell_below (HOw2.out.below hb5) (by show u4.heap.size < u4.heap.size + 1; omega) _
            have HA2 := hide hA2
            clear hA2 hO5 hb5 hns5 hcp5 g5 HB2 Hgo2 HOw2 HSe HGt NU2 Hfar HCp1 HNs
            go_wp2
            go_roundw
            case rel => exact ⟨k + 1, _, more, by omega, by go_num, HA2, HX2⟩
            case measure => simp [intOf]; omega
          · have HX2 : Hid (((putD m (r0, s0)).take (k + 1)).foldl stepR (vec c, []) = (X, more ++ [((q : Int) + 1, s)])) := by
              unfold Hid
              rw [Hst.out]
              unfold stepR
              rw [if_neg (by show ¬ s = numX X ((q : Int) + 1, s) + 1; rw [HEn.out]; exact h1)]
            have h1' : (s == z + 1) = false := by simpa using h1
            have h1'' : decide (s = z + 1) = false := decide_eq_false h1
            go_wp2
            have x0 : (wr.alloc (bxD ((q : Int) + 1) s)).cell? ⟨wr.heap.size, 0, none⟩ = some (.int .i64 ((q : Int) + 1)) := cell_new wr _ _ _ rfl 0 _ rfl
            have x1 : (wr.alloc (bxD ((q : Int) + 1) s)).cell? ⟨wr.heap.size, 1, none⟩ = some (.int .i64 s) := cell_new wr _ _ _ rfl 1 _ rfl
            have HB2 := hide (bel_next HB.out (bel1 wr (bxD ((q : Int) + 1) s)))
            have Hgo2 : Hid ((wr.alloc (bxD ((q : Int) + 1) s)).heap[u4.heap.size]? = some (.cells #[.slice p1 k1 c1, .slice p2 k2 c2] 26 (0, 0))) := by unfold Hid; rw [Below.heap_alloc _ _ _ hsz]; exact Hgo.out
            have HOw2 := hide (HOw.out.alloc (bxD ((q : Int) + 1) s))
            have hsz2 : u4.heap.size < (wr.alloc (bxD ((q : Int) + 1) s)).heap.size := by simp; omega
            generalize wr.alloc (bxD ((q : Int) + 1) s) = u2 at *
            refine wp_region_held_drew (S := fun W => Below u2.heap.size u2 W) (by kernel_rfl) ((Below.refl _ u2).drew) (fun hS0 => ?_)
            refine takeInH 0 32 ?v17 rfl rfl (by kernel_rfl) (by kernel_rfl) (by kernel_rfl) (fun _ _ _ h => h) (by kernel_rfl) hS0 ?hy17 ?_
            case hy17 => (intro W hW; clear hW; go_simp; try rfl)
            simp only [Act.put, List.setIfInBounds_toArray, List.set_cons_zero, List.set_cons_succ]
            refine takeInH 1 33 ?v18 rfl rfl (by kernel_rfl) (by kernel_rfl) (by kernel_rfl) (fun _ _ _ h => h) (by kernel_rfl) hS0 ?hy18 ?_
            case hy18 => (intro W hW; have e0 := bcell hW o0; have e1 := bcell hW x0; have e2 := bcell hW x1; clear hW; go_simp; try rfl)
            simp only [Act.put, List.setIfInBounds_toArray, List.set_cons_zero, List.set_cons_succ]
            refine takeInH 2 34 ?v19 rfl rfl (by kernel_rfl) (by kernel_rfl) (by kernel_rfl) (fun _ _ _ h => h) (by kernel_rfl) hS0 ?hy19 ?_
            case hy19 => (intro W hW; clear hW; go_simp; try rfl)
            simp only [Act.put, List.setIfInBounds_toArray, List.set_cons_zero, List.set_cons_succ]
            refine takeInH 3 35 ?v20 rfl rfl (by kernel_rfl) (by kernel_rfl) (by kernel_rfl) (fun _ _ _ h => h) (by kernel_rfl) hS0 ?hy20 ?_
            case hy20 => (intro W hW; have e0 := bcell hW o0; have e1 := bcell hW x0; have e2 := bcell hW x1; clear hW; go_simp; try rfl)
            simp only [Act.put, List.setIfInBounds_toArray, List.set_cons_zero, List.set_cons_succ]
            refine takeInH 4 36 ?v21 rfl rfl (by kernel_rfl) (by kernel_rfl) (by kernel_rfl) (fun _ _ _ h => h) (by kernel_rfl) hS0 ?hy21 ?_
            case hy21 => (intro W hW; clear hW; go_simp; try rfl)
            simp only [Act.put, List.setIfInBounds_toArray, List.set_cons_zero, List.set_cons_succ]
            refine takeInH 5 37 ?v22 rfl rfl (by kernel_rfl) (by kernel_rfl) (by kernel_rfl) (fun _ _ _ h => h) (by kernel_rfl) hS0 ?hy22 ?_
            case hy22 => (intro W hW; have e0 := bcell hW o0; have e1 := bcell hW x0; have e2 := bcell hW x1; clear hW; go_simp; try rfl)
            simp only [Act.put, List.setIfInBounds_toArray, List.set_cons_zero, List.set_cons_succ]
            refine wpAnyH_ready (rs := [6]) (by kernel_rfl) (by simp) ?_
            refine AllReadyH.cons rfl (fun K hK => ?_) AllReadyH.nil
            go_simp
            refine (HGt.out _ (NU2.out.below hS0)).mono ?_
            rintro e w' ⟨rfl, hw⟩
            replace hw := hw.symm
            subst hw
            try go_wp2_with fail
            refine hK.out _ _ ?hs23 (fun hS1 => ?_)
            case hs23 => exact hS0
            clear hK K
            try simp only [Act.put, List.setIfInBounds_toArray, List.set_cons_zero, List.set_cons_succ]
            refine takeInH 7 39 ?v24 rfl rfl (by kernel_rfl) (by kernel_rfl) (by kernel_rfl) (fun _ _ _ h => h) (by kernel_rfl) hS1 ?hy24 ?_
            case hy24 => (intro W hW; clear hW; go_simp; try rfl)
            simp only [Act.put, List.setIfInBounds_toArray, List.set_cons_zero, List.set_cons_succ]
            refine takeInH 8 40 ?v25 rfl rfl (by kernel_rfl) (by kernel_rfl) (by kernel_rfl) (fun _ _ _ h => h) (by kernel_rfl) hS1 ?hy25 ?_
            case hy25 => (intro W hW; clear hW; go_simp; try rfl)
            simp only [Act.put, List.setIfInBounds_toArray, List.set_cons_zero, List.set_cons_succ]
            refine wpAnyH_done (by kernel_rfl) ?_ _
            replace o1 := bcell hS0 o1
            replace x0 := bcell hS0 x0
            replace x1 := bcell hS0 x1
            replace HB2 := hide (bel_next HB2.out hS0)
            replace NU2 := hide (NU2.out.below hS0)
            replace HOw2 := hide (HOw2.out.below hS0)
            replace Hgo2 : Hid (u2.drew.heap[u4.heap.size]? = some (.cells #[.slice p1 k1 c1, .slice p2 k2 c2] 26 (0, 0))) := Hgo2
            replace hsz2 : u4.heap.size < u2.drew.heap.size := hsz2
            clear hS0 o0 Hgo HOw HB
            try clear hS1
            generalize u2.drew = u5 at *
            go_wp2_with (at_builtin; refine Stop.at ?_)
            unfold Stop
            refine append_more rfl _ _ rfl (u4.heap.size + 1) (.slice p2 k2 c2) more [((q : Int) + 1, s)] rfl (HOw2.out.alloc _) ⟨u5.heap.size, 0, none⟩ 1 1 rfl (DS.new u5 _ rfl [((q : Int) + 1, s)] _ rfl _ _ 1 rfl (by decide)) (by simp; omega) (by simp; omega) ?_
            intro v6 w6 hO6 hg6 hblk
            have hb6 : Below (u4.heap.size + 1) u5 w6 := ((Below.refl _ u5).alloc (by omega) _).grown hg6 (by simp; omega) (fun j hj => (World.ownsRow.lt HOw2.out j hj).1)
            have g6 : w6.heap[u4.heap.size]? = some (.cells #[.slice p1 k1 c1, .slice p2 k2 c2] 26 (0, 0)) := by rw [hb6.block _ (by omega)]; exact Hgo2.out
            have e1 : w6.cell? ⟨u4.heap.size, 1, none⟩ = some (.slice p2 k2 c2) := by rw [cell_of_row w6 _ _ _ _ _ g6]; rfl
            have z1 : w6.frozen? ⟨u4.heap.size, 1, none⟩ = false := by simp [World.frozen?, g6]
            obtain ⟨p6, c6, hv6, _, _⟩ := hO6.open
            subst hv6
            have hA2 : AS pa na w u4 X (more ++ [((q : Int) + 1, s)]) (w6.setCell ⟨u4.heap.size, 1, none⟩ (.slice p6 (more ++ [((q : Int) + 1, s)]).length c6)) := by
              have hB6 : Below u4.heap.size u4 w6 := HB2.out.trans (hb6.mono (by omega))
              have q1 := set1 g6 hB6 (Nat.le_refl _) 1 (.slice p6 (more ++ [((q : Int) + 1, s)]).length c6)
              have hn6 : NS w6 p1 k1 (pln X) := by
                refine (NU2.out.alloc _).grown hg6 ?_
                rcases Hfar.out with h0 | h0
                · exact .inl h0
                · refine .inr fun a ha e => ?_
                  rcases p2 with _ | b
                  · cases e
                  · have y := (h0 a ha).2 b rfl
                    exact y (Option.some.inj e).symm
              refine ⟨q1.2, p1, k1, c1, p6, _, c6, q1.1, hn6.set0 _ _ ?_, HCp1.out, ?_, ?_⟩
              · rcases Hfar.out with h0 | h0
                · exact .inl h0
                · refine .inr fun a ha => ?_
                  have hbz := HU.out.size
                  have hrz := HR.out.size
                  show a.block ≠ u4.heap.size
                  rcases (h0 a ha).1 with y | y <;> omega
              · rcases NU2.out.far with h0 | hlt5
                · exact .inl h0
                · rcases Hfar.out with h0 | h0
                  · exact .inl h0
                  · refine .inr fun a ha => ⟨(h0 a ha).1, fun b hb => ?_⟩
                    subst hb
                    rcases hblk b.block rfl with y | y
                    · rcases p2 with _ | b2
                      · cases y
                      · have y' : b2.block = b.block := Option.some.inj y
                        have t := (h0 a ha).2 b2 rfl
                        rw [← y']
                        exact t
                    · have t := hlt5 a ha
                      simp at y
                      omega
              · exact ownsRow_setCell_below hO6 (by show u4.heap.size < u4.heap.size + 1; omega) _
            have hl6 : (more ++ [((q : Int) + 1, s)]).length = more.length + 1 := by simp
            rw [hl6] at hA2
            have HA2 := hide hA2
            clear hA2 hl6 hO6 hg6 hb6 hblk g6 HB2 Hgo2 HOw2 HGt NU2 Hfar HCp1 HNs
            go_wp2
            go_roundw
            case rel => exact ⟨k + 1, X, _, by omega, by go_num, HA2, HX2⟩
            case measure => simp [intOf]; omega
      · have hkl : k = n := by omega
        subst hkl
        have hfx : addR (vec c, m) (r0, s0) = (X, more) := by
          have h := HX.out
          rw [List.take_of_length_le (by rw [← Hln.out]; exact Nat.le_refl _)] at h
          rw [HE.out]
          exact h
        obtain ⟨hB, p1, k1, c1, p2, k2, c2, hgo, hns, hcp1, hfar, hown⟩ := HA.out
        have o0 : wr.cell? ⟨u4.heap.size, 0, none⟩ = some (.slice p1 k1 c1) := by rw [cell_of_row wr _ _ _ _ _ hgo]; rfl
        have o1 : wr.cell? ⟨u4.heap.size, 1, none⟩ = some (.slice p2 k2 c2) := by rw [cell_of_row wr _ _ _ _ _ hgo]; rfl
        have HR5 := hide (HR.out.below hB)
        have e0 := HR5.out.cells.1
        have e1 := HR5.out.cells.2.1
        have z0 := HR5.out.cells.2.2.1
        have z1 := HR5.out.cells.2.2.2
        have HU5 := hide (bel_next HU.out hB)
        have hRs := HR.out.size
        have HE2 : Hid (OutA w pa pm na nm (pln X) more (.returned (.agg #[.slice p1 k1 c1, .slice p2 k2 c2])) ((wr.setCell ⟨w.heap.size + 1 + 1, 0, none⟩ (.slice p1 k1 c1)).setCell ⟨w.heap.size + 1 + 1, 1, none⟩ (.slice p2 k2 c2))) := by
          have far : k1 = 0 ∨ ∀ a, p1 = some a → a.block ≠ w.heap.size + 1 + 1 := by
            rcases hfar with h0 | h0
            · exact .inl h0
            · exact .inr fun a ha => by rcases (h0 a ha).1 with y | y <;> omega
          have far2 : ∀ a, p2 = some a → a.block ≠ w.heap.size + 1 + 1 := fun a ha => by have y := hown.blk a ha; omega
          refine ⟨⟨p1, k1, c1, p2, k2, c2, rfl, (hns.set0 _ _ far).set0 _ _ far, hcp1, (hown.ds.1.set _ _ far2).set _ _ far2, hown.ds.2, fun g hg h1 h2 => ⟨?_, .inr fun a ha => by have y := hown.blk a ha; have := HU5.out.size; have := HU.out.size; omega⟩⟩, bel_put HU5.out (by omega) _ _⟩
          rcases hfar with h0 | h0
          · exact .inl h0
          · refine .inr fun a ha => ?_
            rcases (h0 a ha).1 with ⟨y1, y2, y3⟩ | y
            · rcases h1 with h1 | h1
              · omega
              · exact h1 a y1
            · have := HU.out.size; omega
        have Hfx := hide hfx
        clear hB hgo hns hcp1 hfar hown hfx HA HX HU5
        go_wp2
        refine bodyPost_ret (results_cell_row rfl _ _ _ _ _ _ _ rfl (HR5.out.put _ _) Try.underlying26 rfl Try.infoSeen) rfl ?_
        rw [Hfx.out]
        exact HE2.out
end Go.Proofs.Ytccpbkemiilgcaa
