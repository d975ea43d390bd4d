/- What 'fold' does. -/
import Derived.Test.YtccpbkemiilgcaaDFun7
import Derived.Test.YtccpbkemiilgcaaDFun5
namespace Go.Proofs.Ytccpbkemiilgcaa
open Go.RowKit Go.Lib Go.Sort
set_option linter.unusedVariables false

/-- 'copy(x[:], c)', 'x' five noughts. -/
theorem run_copy_arr (w : World) (g : Nat) (hg : g = w.heap.size) (p : Option Addr) (n cap : Nat) (c : List Int) (hN : NS w p n c) (hm : mayC c = true) :
    (Builtin.copy_ #[22, 23] 3 #[.slice (some ⟨g, 0, none⟩) 5 5, .slice p n cap]).run Try.prog (w.alloc (.cells #[.int .i64 0, .int .i64 0, .int .i64 0, .int .i64 0, .int .i64 0] 63)) =
      .ok (goInt n) (w.alloc (.cells #[.int .i64 (at5 c 0), .int .i64 (at5 c 1), .int .i64 (at5 c 2), .int .i64 (at5 c 3), .int .i64 (at5 c 4)] 63)) := by
  subst hg
  have hN' := hN.alloc (.cells #[.int .i64 0, .int .i64 0, .int .i64 0, .int .i64 0, .int .i64 0] 63)
  obtain ⟨hl, _, hc⟩ := hN'
  have h5 : c.length ≤ 5 := (mayC_iff.1 hm).1
  rcases hc with h0 | ⟨b, off, rfl, hc⟩
  · subst h0
    obtain rfl : c = [] := List.eq_nil_of_length_eq_zero hl
    exact run_copy_none _ _ _ _ _ _ _ _ _ _ _ Try.underlying22 Try.infoI1 (by rfl)
  · rw [run_copy_row (P := Try.prog) _ _ _ _ 3 w.heap.size 0 5 5 ⟨b, off, none⟩ n cap _ _ (c.map (Value.int .i64)) Try.underlying22 Try.infoI1 (heap_alloc_new w _) (by rw [List.length_map, hl]; exact (Nat.min_eq_left (by omega)).symm) ?_ (by simp; omega) ?_]
    · rw [World.setRow_alloc_new]
      have e := five_row hm (.int .i64 0) rfl
      simp only [List.length_map, List.take_zero, List.nil_append, Nat.zero_add, hl]
      rw [hl] at e
      rw [e]
    · intro j v hj
      rw [List.getElem?_map, Option.map_eq_some_iff] at hj
      obtain ⟨y, hy, rfl⟩ := hj
      obtain ⟨hj1, hx2⟩ := List.getElem?_eq_some_iff.1 hy
      have h1 := hc j (by omega)
      have h2 : c.getD j 0 = y := by simp [List.getD_eq_getElem?_getD, hy]
      rw [h2] at h1
      have h3 : (⟨b, off, none⟩ : Addr).add j = ⟨b, off + j, none⟩ := by
        by_cases hj0 : j = 0
        · subst hj0; simp [Addr.add]
        · simp [Addr.add, hj0]
      rw [h3]
      exact h1
    · intro v hv
      rw [List.mem_map] at hv
      obtain ⟨y, _, rfl⟩ := hv
      rfl

theorem Try.infoSeen : (Try.prog.info? 26).map (·.size) = some 2 := by kernel_rfl
theorem results_cell_tmp {P : Program} {fn : Func} {p q : Tmp} {ty : TypeId} (h : fn.results = #[.cell p ty, .tmp q]) (tmps : Array Value) (w : World) (g : Nat) (t : TypeId) (cs : Array Value) (fr : Nat × Nat) (d : TypeDesc) (v : Value)
    (hp : tmps.getD p undef = .pointer (some ⟨g, 0, none⟩)) (hq : tmps.getD q undef = v) (hg : w.heap[g]? = some (.cells cs t fr))
    (hu : P.underlying ty = some d) (hd : (match d with | .struct _ | .array _ _ => true | _ => false) = true) (hi : (P.info? ty).map (·.size) = some cs.size) :
    (results fn tmps).run P w = .ok (.tuple #[.agg cs, v]) w := by
  have hp' : tmps[p]?.getD undef = .pointer (some ⟨g, 0, none⟩) := by simpa using hp
  have hq' : tmps[q]?.getD undef = v := by simpa using hq
  simp [results, h, hp', hq', asAddr, run_loadVar_row w g t ty cs fr d hg hu hd hi]

theorem foldD_bd (l : List Dot) (hl : ∀ x ∈ l, mayD x = true) : ∀ s : Sn, BdX s.1 → BdX (l.foldl stepX s).1 := by
  induction l with
  | nil => exact fun s h => h
  | cons d r ih =>
    intro s h
    refine ih (fun x hx => hl x (List.mem_cons_of_mem _ hx)) _ ?_
    unfold stepX
    split
    · exact h.set (hl d (by simp)) _
    · split <;> exact h
theorem take_next {l : List Dot} {k : Nat} (h : k < l.length) (s : Sn) : (l.take (k + 1)).foldl stepX s = stepX ((l.take k).foldl stepX s) (l.getD k (0, 0)) := by
  rw [List.take_add_one, List.foldl_append]
  simp [List.getD_eq_getElem?_getD, h]

/-- The state of 'fold': the result's cell, the numbers, the dots. -/
def FS (w : World) (X : List Int) (more : List Dot) (v : Value) (wr : World) : Prop :=
  Below w.heap.size w wr ∧ wr.heap[w.heap.size]? = some (.cells #[.slice none 0 0, .slice none 0 0] 26 (0, 0)) ∧ wr.heap[w.heap.size + 1]? = some (.cells (X.map (Value.int .i64)).toArray 63 (0, 0)) ∧ OwnD (w.heap.size + 2) wr v more ∧ X.length = 5
theorem FS.below {w wr w' : World} {X : List Int} {more : List Dot} {v : Value} (h : FS w X more v wr) (hb : Below wr.heap.size wr w') : FS w X more v w' := by
  obtain ⟨h1, h2, h3, h4, h5⟩ := h
  exact ⟨bel_next h1 hb, by rw [hb.block _ (Array.getElem?_eq_some_iff.1 h2).1]; exact h2, by rw [hb.block _ (Array.getElem?_eq_some_iff.1 h3).1]; exact h3, h4.below hb, h5⟩
theorem FS.cell {w wr : World} {X : List Int} {more : List Dot} {v : Value} (h : FS w X more v wr) (k : Nat) (hk : k < 5) : wr.cell? ⟨w.heap.size + 1, k, none⟩ = some (.int .i64 (X.getD k 0)) ∧ wr.frozen? ⟨w.heap.size + 1, k, none⟩ = false := by
  obtain ⟨h1, h2, h3, h4, h5⟩ := h
  constructor
  · rw [cell_of_row wr _ _ _ _ _ h3]
    simp [List.getD_eq_getElem?_getD, show k < X.length by omega]
  · simp [World.frozen?, h3]
theorem FS.set {w wr : World} {X : List Int} {more : List Dot} {v : Value} (h : FS w X more v wr) (k : Nat) (n : Int) : FS w (X.set k n) more v (wr.setCell ⟨w.heap.size + 1, k, none⟩ (.int .i64 n)) := by
  obtain ⟨h1, h2, h3, h4, h5⟩ := h
  have q := set1 h3 h1 (by omega) k (.int .i64 n)
  refine ⟨q.2, ?_, ?_, ownsRow_setCell_below h4 (by show w.heap.size + 1 < w.heap.size + 2; omega) _, by rw [List.length_set]; exact h5⟩
  · rw [Below.heap_setCell _ _ _ _ (by show w.heap.size ≠ w.heap.size + 1; omega)]; exact h2
  · rw [q.1]
    congr 2
    simp [List.map_set]
theorem FS.size {w wr : World} {X : List Int} {more : List Dot} {v : Value} (h : FS w X more v wr) : w.heap.size + 2 ≤ wr.heap.size := by
  have := (Array.getElem?_eq_some_iff.1 h.2.2.1).1
  omega
theorem FS.app {w wr w' : World} {X : List Int} {more more' : List Dot} {v v' : Value} (h : FS w X more v wr) (ho : OwnD (w.heap.size + 2) w' v' more') (hb : Below (w.heap.size + 2) wr w') : FS w X more' v' w' := by
  obtain ⟨h1, h2, h3, h4, h5⟩ := h
  exact ⟨h1.trans (hb.mono (by omega)), by rw [hb.block _ (by omega)]; exact h2, by rw [hb.block _ (by omega)]; exact h3, ho, h5⟩
theorem FS.start (w : World) (c : List Int) : FS w (vec c) [] (.slice none 0 0) ((w.alloc (.cells #[.slice none 0 0, .slice none 0 0] 26)).alloc (.cells #[.int .i64 (at5 c 0), .int .i64 (at5 c 1), .int .i64 (at5 c 2), .int .i64 (at5 c 3), .int .i64 (at5 c 4)] 63)) := by
  refine ⟨bel2 _ _ _, heap_alloc2_old _ _ _, ?_, OwnD.nil _ _, rfl⟩
  have e : w.heap.size + 1 = (w.alloc (.cells #[.slice none 0 0, .slice none 0 0] 26)).heap.size := by simp
  rw [e, heap_alloc_new]
  rfl
theorem OwnN.ns {N : Nat} {w : World} {p : Option Addr} {n cap : Nat} {l : List Int} (h : OwnN N w (.slice p n cap) l) : NS w p n l ∧ CP p n cap := by
  obtain ⟨p', c', he, h1, h2⟩ := h.open
  cases he
  exact ⟨h1, h2⟩
theorem OwnD.ds {N : Nat} {w : World} {p : Option Addr} {n cap : Nat} {l : List Dot} (h : OwnD N w (.slice p n cap) l) : DS w p n l ∧ CP p n cap := by
  obtain ⟨p', c', he, h1, h2⟩ := h.open
  cases he
  exact ⟨h1, h2⟩
theorem OwnN.blk {N : Nat} {w : World} {p : Option Addr} {n cap : Nat} {l : List Int} (h : OwnN N w (.slice p n cap) l) (a : Addr) (ha : p = some a) : N ≤ a.block := by
  subst ha; exact (World.ownsRow.lt h a.block rfl).1
theorem OwnD.blk {N : Nat} {w : World} {p : Option Addr} {n cap : Nat} {l : List Dot} (h : OwnD N w (.slice p n cap) l) (a : Addr) (ha : p = some a) : N ≤ a.block := by
  subst ha; exact (World.ownsRow.lt h a.block rfl).1
theorem NS.set {w : World} {p : Option Addr} {n : Nat} {l : List Int} (h : NS w p n l) (q : Addr) (v : Value) (hp : ∀ a, p = some a → a.block ≠ q.block) : NS (w.setCell q v) p n l := by
  obtain ⟨h1, h2, h4⟩ := h
  refine ⟨h1, h2, ?_⟩
  rcases h4 with h0 | ⟨b, off, rfl, hc⟩
  · exact .inl h0
  · have hb : b ≠ q.block := hp _ rfl
    exact .inr ⟨b, off, rfl, fun i hi => by rw [World.cell?_setCell_far _ _ _ _ (fun e => hb e.symm)]; exact hc i hi⟩
theorem DS.set {w : World} {p : Option Addr} {n : Nat} {l : List Dot} (h : DS w p n l) (q : Addr) (v : Value) (hp : ∀ a, p = some a → a.block ≠ q.block) : DS (w.setCell q v) p n l := by
  obtain ⟨h1, h2, h4⟩ := h
  refine ⟨h1, h2, ?_⟩
  rcases h4 with h0 | ⟨b, off, rfl, hc⟩
  · exact .inl h0
  · have hb : b ≠ q.block := hp _ rfl
    exact .inr ⟨b, off, rfl, fun i hi => ⟨by rw [World.cell?_setCell_far _ _ _ _ (fun e => hb e.symm)]; exact (hc i hi).1, by rw [World.cell?_setCell_far _ _ _ _ (fun e => hb e.symm)]; exact (hc i hi).2⟩⟩
/-- What is answered: a Seen. -/
def OutS (w : World) (c : List Int) (m : List Dot) (err : Int) (e : Ending) (w' : World) : Prop :=
  (∃ p1 k1 c1 p2 k2 c2, e = .returned (.tuple #[.agg #[.slice p1 k1 c1, .slice p2 k2 c2], .int .i64 err]) ∧ NS w' p1 k1 c ∧ CP p1 k1 c1 ∧ DS w' p2 k2 m ∧ CP p2 k2 c2 ∧ (∀ a, p1 = some a → w.heap.size ≤ a.block) ∧ (∀ a, p2 = some a → w.heap.size ≤ a.block)) ∧ Below w.heap.size w w'

set_option maxHeartbeats 4000000 in
set_option maxRecDepth 100000 in
theorem fold_any (pa : Option Addr) (na ca : Nat) (c : List Int) (pl : Option Addr) (n cap : Nat) (l : List Dot) (w : World) (hN : NS w pa na c) (hm : mayC c = true) (hD : DS w pl n l) (hl : ∀ x ∈ l, mayD x = true) (hn : n ≤ 1000) :
    Calls Try.prog 30 #[.slice pa na ca, .slice pl n cap] w (OutS w (pln (foldX (vec c) l).1) (foldX (vec c) l).2 0) := by
  have hcp := run_copy_arr (w.alloc (.cells #[.slice none 0 0, .slice none 0 0] 26)) (w.heap.size + 1) (by simp) pa na ca c (hN.alloc _) hm
  have hlen := hD.1
  have HC := hide hD.2.2
  have HL := hide hlen
  have HLm := hide hl
  have HBd := hide (fun k => foldD_bd (l.take k) (fun x hx => hl x (List.mem_of_mem_take hx)) (vec c, []) (vec_bdX c))
  clear hN hD hm hl hlen
  go_enter Try.func30, Try.ntmps30
  go_wp2
  go_loopw [7, 16] (fun v i wr => ∃ (k : Nat) (X : List Int) (more : List Dot), k ≤ n ∧ i = .int .i64 k ∧ Hid (FS w X more v wr) ∧ Hid ((l.take k).foldl stepX (vec c, []) = (X, more))) (fun _ i _ => n - (intOf i).toNat)
  case atStart => exact ⟨0, vec c, [], by omega, rfl, FS.start w c, rfl⟩
  case round =>
    clear hcp
    obtain ⟨k, X, more, hk, rfl, HF, HX⟩ := hrel
    by_cases hlt : k < n
    · rcases HC.out with h0 | ⟨b, off, rfl, hc⟩
      · omega
      · have x0 := bcell HF.out.1 (hc k hlt).1
        have x1 := bcell HF.out.1 (hc k hlt).2
        have hst := take_next (by rw [HL.out]; exact hlt) (vec c, [])
        rw [HX.out] at hst
        have hmx := HLm.out _ (getDot_mem (show k < l.length by rw [HL.out]; exact hlt))
        have hbd := HBd.out k
        rw [HX.out] at hbd
        obtain ⟨x, hx⟩ : ∃ x, l.getD k (0, 0) = x := ⟨_, rfl⟩
        rw [hx] at x0 x1 hst hmx
        have hnb := numX_bd hbd x
        obtain ⟨r, s⟩ := x
        have hr := mayD_iff.1 hmx
        simp only at hr
        obtain ⟨q, hq⟩ : ∃ q : Nat, r = q + 1 := ⟨(r - 1).toNat, by omega⟩
        subst hq
        have hq5 : q < 5 := by omega
        have eqq : (((q : Int) + 1 - 1).toNat) = q := by omega
        have cn := HF.out.cell q hq5
        have en : numX X ((q : Int) + 1, s) = X.getD q 0 := by unfold numX; rw [show (((q : Int) + 1, s) : Dot).1 = (q : Int) + 1 from rfl, eqq]
        rw [en] at hnb
        have HLt := hide (show k < l.length by rw [HL.out]; exact hlt)
        have HB0 := hide HF.out.1
        have HF1 := hide (HF.out.below (bel1 wr (bxD ((q : Int) + 1) s)))
        have cu := cell_old (bxD ((q : Int) + 1) s) cn.1
        have fu : (wr.alloc (bxD ((q : Int) + 1) s)).frozen? ⟨w.heap.size + 1, q, none⟩ = false := (HF1.out.cell q hq5).2
        have cn0 := cn.1
        clear hx hbd hmx hc cn hr
        obtain ⟨z, hz⟩ : ∃ z, X.getD q 0 = z := ⟨_, rfl⟩
        rw [hz] at hnb cn0 cu en
        have hwz := wrap1 hnb.1 hnb.2
        have hwq := wrapJ (show q ≤ 1000000000 by omega)
        have hw2 : ((q : Int) + 1 - 1) = (q : Int) := by omega
        have hq0 : (0 : Int) ≤ (q : Int) := by omega
        have hq1 : (q : Int) < 5 := by omega
        have HEn := hide en
        have Hst := hide hst
        clear en hst hz eqq
        by_cases h1 : s = z + 1
        · have HX2 : Hid ((l.take (k + 1)).foldl stepX (vec c, []) = (X.set q (z + 1), more)) := by
            unfold Hid
            rw [Hst.out]
            unfold stepX
            rw [if_pos (by show s = numX X ((q : Int) + 1, s) + 1; rw [HEn.out]; exact h1)]
            show (X.set ((q : Int) + 1 - 1).toNat s, more) = _
            rw [h1, show ((q : Int) + 1 - 1).toNat = q by omega]
          have HF2 := hide (HF1.out.set q (z + 1))
          subst h1
          clear HF HF1 HB0
          go_wp2
          go_roundw
          case rel => exact ⟨k + 1, _, more, by omega, by go_num, HF2, HX2⟩
          case measure => simp [intOf]; omega
        · by_cases h2 : s > z + 1
          · have HX2 : Hid ((l.take (k + 1)).foldl stepX (vec c, []) = (X, more ++ [((q : Int) + 1, s)])) := by
              unfold Hid
              rw [Hst.out]
              unfold stepX
              rw [if_neg (by show ¬ s = numX X ((q : Int) + 1, s) + 1; rw [HEn.out]; exact h1), if_pos (by show s > numX X ((q : Int) + 1, s) + 1; rw [HEn.out]; exact h2)]
            have hml : more.length ≤ 1000 := by
              have z1 := foldl_step_len (l.take k) (vec c, [])
              rw [HX.out] at z1
              have z2 : (l.take k).length ≤ k := by rw [List.length_take]; omega
              simp at z1
              omega
            have h1' : decide (s = z + 1) = false := decide_eq_false h1
            go_wp2_with (at_builtin; refine Stop.at ?_)
            unfold Stop
            refine append_dots rfl _ _ rfl (w.heap.size + 2) _ more [((q : Int) + 1, s)] rfl (HF1.out.2.2.2.1.alloc _) (some ⟨wr.heap.size + 1, 0, none⟩) 1 1 rfl (fun h => by cases h) (DS.new _ _ (by simp) [((q : Int) + 1, s)] _ rfl _ _ 1 rfl (by decide)) (by simp; omega) (by have := HF.out.size; simp; omega) ?_
            intro v' w' ho hb
            have HF2 := hide ((HF1.out.below (bel1 _ (bxD ((q : Int) + 1) s))).app ho (hb _ (Below.refl _ _)))
            clear ho hb HF HF1 HB0
            go_wp2
            go_roundw
            case rel => exact ⟨k + 1, X, _, by omega, by go_num, HF2, HX2⟩
            case measure => simp [intOf]; omega
          · have HX2 : Hid ((l.take (k + 1)).foldl stepX (vec c, []) = (X, more)) := by
              unfold Hid
              rw [Hst.out]
              unfold stepX
              rw [if_neg (by show ¬ s = numX X ((q : Int) + 1, s) + 1; rw [HEn.out]; exact h1), if_neg (by show ¬ s > numX X ((q : Int) + 1, s) + 1; rw [HEn.out]; exact h2)]
            have h1' : decide (s = z + 1) = false := decide_eq_false h1
            go_wp2
            go_roundw
            case rel => exact ⟨k + 1, X, more, by omega, by go_num, HF1, HX2⟩
            case measure => simp [intOf]; omega
    · have hkl : k = n := by omega
      subst hkl
      have hfx : foldX (vec c) l = (X, more) := by
        have h := HX.out
        rw [List.take_of_length_le (by rw [HL.out]; exact Nat.le_refl _)] at h
        exact h
      have hml : more.length ≤ 1000 := by
        have z1 := foldX_len (vec c) l
        rw [hfx] at z1
        have := HL.out
        simp at z1
        omega
      have hbd := HBd.out k
      rw [HX.out] at hbd
      have hvx : vec X = X := vec_five X hbd.1 hbd.2
      have HNS : Hid (NS wr (some ⟨w.heap.size + 1, 0, none⟩) 5 X) := ⟨hbd.1, by decide, .inr ⟨_, 0, rfl, fun i hi => by rw [Nat.zero_add]; exact (HF.out.cell i hi).1⟩⟩
      have HP := hide (Plain_any (some ⟨w.heap.size + 1, 0, none⟩) 5 5 X wr HNS.out)
      rw [hvx] at HP
      obtain ⟨p2, c2, hv2, _, _⟩ := HF.out.2.2.2.1.open
      subst hv2
      have Hfx := hide hfx
      clear hfx hbd hvx HX HNS
      go_wp2_with (go_at_call 51; refine Stop.at ?_)
      unfold Stop
      refine HP.out.mono ?_
      rintro e w1 ⟨v1, rfl, hO, hB⟩
      obtain ⟨p1, c1, hv1, _, _⟩ := hO.open
      subst hv1
      have hsz := HF.out.size
      have HF1 := hide (HF.out.below hB)
      have g0 := HF1.out.2.1
      have e0 : w1.cell? ⟨w.heap.size, 0, none⟩ = some (.slice none 0 0) := by rw [cell_of_row w1 _ _ _ _ _ g0]; rfl
      have e1 : w1.cell? ⟨w.heap.size, 1, none⟩ = some (.slice none 0 0) := by rw [cell_of_row w1 _ _ _ _ _ g0]; rfl
      have z0 : w1.frozen? ⟨w.heap.size, 0, none⟩ = false := by simp [World.frozen?, g0]
      have z1 : w1.frozen? ⟨w.heap.size, 1, none⟩ = false := by simp [World.frozen?, g0]
      have q1 := set1 g0 HF1.out.1 (Nat.le_refl _) 0 (.slice p1 (pln X).length c1)
      have q2 := set1 q1.1 q1.2 (Nat.le_refl _) 1 (.slice p2 more.length c2)
      have HG := hide q2.1
      have hO2 : OwnN wr.heap.size ((w1.setCell ⟨w.heap.size, 0, none⟩ (.slice p1 (pln X).length c1)).setCell ⟨w.heap.size, 1, none⟩ (.slice p2 more.length c2)) _ _ := ownsRow_setCell_below (ownsRow_setCell_below hO (by show w.heap.size < wr.heap.size; omega) _) (by show w.heap.size < wr.heap.size; omega) _
      have hD2 : OwnD (w.heap.size + 2) ((w1.setCell ⟨w.heap.size, 0, none⟩ (.slice p1 (pln X).length c1)).setCell ⟨w.heap.size, 1, none⟩ (.slice p2 more.length c2)) _ _ := ownsRow_setCell_below (ownsRow_setCell_below HF1.out.2.2.2.1 (by show w.heap.size < w.heap.size + 2; omega) _) (by show w.heap.size < w.heap.size + 2; omega) _
      have HE : Hid (OutS w (pln X) more 0 (.returned (.tuple #[.agg #[.slice p1 (pln X).length c1, .slice p2 more.length c2], .int .i64 0])) ((w1.setCell ⟨w.heap.size, 0, none⟩ (.slice p1 (pln X).length c1)).setCell ⟨w.heap.size, 1, none⟩ (.slice p2 more.length c2))) :=
        ⟨⟨p1, _, c1, p2, _, c2, rfl, hO2.ns.1, hO2.ns.2, hD2.ds.1, hD2.ds.2, fun a h => by have := hO2.blk a h; omega, fun a h => by have := hD2.blk a h; omega⟩, q2.2⟩
      clear hO hB g0 q1 q2 HF HF1 HP hO2 hD2
      go_wp2
      refine bodyPost_ret (results_cell_tmp rfl _ _ _ _ _ _ _ _ rfl rfl HG.out Try.underlying26 rfl Try.infoSeen) rfl ?_
      rw [Hfx.out]
      exact HE.out
end Go.Proofs.Ytccpbkemiilgcaa
