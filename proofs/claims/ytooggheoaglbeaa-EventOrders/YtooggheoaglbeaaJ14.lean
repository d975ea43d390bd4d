/- Texts of this claim, joined: SRef2, SClo. -/
import Derived.Test.YtooggheoaglbeaaJ13
import Derived.Test.YtooggheoaglbeaaJ10
import Derived.Test.YtooggheoaglbeaaJ8
import Derived.Test.YtooggheoaglbeaaJ6
/- The document's 'Order'. -/
namespace Go.Proofs.Ytooggheoaglbeaa
open Go.RowKit
set_option linter.unusedVariables false
theorem addr_addV (b off k : Nat) : (⟨b, off, none⟩ : Addr).add k = ⟨b, off + k, none⟩ := by
  by_cases hk : k = 0
  · subst hk; simp [Addr.add]
  · simp [Addr.add, hk]
theorem rs_add {w : World} {p : Addr} {n : Nat} {l : List Rv} (h : RS encV 4 w (some p) n l) : ∀ j u, (l.flatMap encV)[j]? = some u → w.cell? (p.add j) = some u := by
  intro j u hj
  have hjl : j < l.length * 4 := by rw [← flatR_len encV 4 encV_len l]; exact (List.getElem?_eq_some_iff.1 hj).1
  rcases h.2.2 with h0 | ⟨b, off, hh, hc⟩
  · rw [h.1, h0] at hjl; omega
  · cases hh
    rw [addr_addV]
    exact h.cells j u hj encV_len (by decide)
/-- 'append(v, x...)' of events at an operation, 'v' the call's own. -/
theorem append_evw {w : World} {o : Oper} {a : Act} {K : Act → World → Prop} {Q : Exit → Act → World → Prop} (s x : Operand)
    (ho : o.op = .call { callee := .builtin .append, args := #[s, x], argTypes := #[30, 30] })
    (N : Nat) (v : Value) (l m : List Rv) (hs : a.eval s = v) (hown : OwnR encV 4 28 N w v l) (p : Option Addr) (len cap : Nat) (hx : a.eval x = .slice p len cap) (hp : p = none → cap = 0) (hB : RS encV 4 w p len m)
    (hbig : l.length + m.length ≤ 1000000) (hN : N ≤ w.heap.size)
    (h : ∀ v' w', OwnR encV 4 28 N w' v' (l ++ m) → (∀ w0, Below N w0 w → Below N w0 w') → K (a.put o.dst v') w') : Oper.wp Try.prog o a w K Q := by
  obtain ⟨i0, hi, hz0, hz1, hz2⟩ := info_parts Try.infoEvt
  have g1 := hB.1
  rcases p with _ | p
  · have hc := hp rfl
    have hl0 : len = 0 := by
      rcases hB.2.2 with h0 | ⟨b, off, hh, _⟩
      · exact h0
      · cases hh
    subst hc hl0
    obtain rfl : m = [] := List.eq_nil_of_length_eq_zero g1
    have hrun := run_append_owned_none (P := Try.prog) (w := w) N 30 o.type 28 i0 4 Try.underlying30 hi v _ _ hown
    have hk := h v w (by rw [List.append_nil]; exact hown) (fun _ h => h)
    unfold Oper.wp execOp
    simp only [ho, resolve, invoke, builtin, Sem.run_bind, Sem.run_pure, Result.andThen_ok, List.map_toArray, List.map_cons, List.map_nil, hs, hx, hrun]
    exact hk
  · obtain ⟨v', w', hr, h2, h3, _⟩ := run_append_own (P := Try.prog) w N 30 o.type 28 i0 (.agg #[.int .i64 0, .int .i64 0, .slice none 0 0, .slice none 0 0]) 4 64 Try.underlying30 hi hz0 hz1 hz2 rfl (by decide) v _ _ hown p len cap (m.flatMap encV) (by rw [flatR_len encV 4 encV_len, g1]) (rs_add hB) (flatR_one encV encV_one m) (by unfold maxLen; rw [← g1]; omega) (by rw [← g1]; omega) hN
    have e : l.length + len = (l ++ m).length := by rw [List.length_append, g1]
    rw [e, ← List.flatMap_append] at h2
    have hk := h v' w' h2 (fun w0 hb => hb.grown h3 hN (fun j hj => (World.ownsRow.lt hown j hj).1))
    unfold Oper.wp execOp
    simp only [ho, resolve, invoke, builtin, Sem.run_bind, Sem.run_pure, Result.andThen_ok, List.map_toArray, List.map_cons, List.map_nil, hs, hx, hr]
    exact hk
/-- 'append' of events onto a full slice: in new memory. -/
theorem append_evf {w : World} {o : Oper} {a : Act} {K : Act → World → Prop} {Q : Exit → Act → World → Prop} (s x : Operand)
    (ho : o.op = .call { callee := .builtin .append, args := #[s, x], argTypes := #[30, 30] })
    (g n : Nat) (l m : List Rv) (hs : a.eval s = .slice (some ⟨g, 0, none⟩) n n) (hS : RS encV 4 w (some ⟨g, 0, none⟩) n l) (p : Addr) (len cap : Nat) (hx : a.eval x = .slice (some p) len cap) (hB : RS encV 4 w (some p) len m) (hlen : 0 < len)
    (hbig : l.length + m.length ≤ 1000000)
    (h : ∀ v' w', OwnR encV 4 28 w.heap.size w' v' (l ++ m) → Below w.heap.size w w' → K (a.put o.dst v') w') : Oper.wp Try.prog o a w K Q := by
  obtain ⟨i0, hi, hz0, hz1, hz2⟩ := info_parts Try.infoEvt
  obtain ⟨v', w', hr, h2, h3⟩ := run_append_arg_grows (P := Try.prog) (w := w) 30 o.type 28 i0 (.agg #[.int .i64 0, .int .i64 0, .slice none 0 0, .slice none 0 0]) 4 64 Try.underlying30 hi hz0 hz1 hz2 rfl (by decide) ⟨g, 0, none⟩ n n (l.flatMap encV) (by rw [flatR_len encV 4 encV_len, hS.1]) (rs_add hS) p len cap (m.flatMap encV) (by rw [flatR_len encV 4 encV_len, hB.1]) (rs_add hB) (by omega) (by unfold maxLen; have := hS.1; have := hB.1; omega) (by have := hS.1; have := hB.1; omega)
  have e : n + len = (l ++ m).length := by rw [List.length_append, hS.1, hB.1]
  rw [e, ← List.flatMap_append] at h2
  have hk := h v' w' h2 ((Below.refl _ w).grown h3 (Nat.le_refl _) (fun j hj => by cases hj))
  unfold Oper.wp execOp
  simp only [ho, resolve, invoke, builtin, Sem.run_bind, Sem.run_pure, Result.andThen_ok, List.map_toArray, List.map_cons, List.map_nil, hs, hx, hr]
  exact hk
theorem RS.head {w : World} {g n : Nat} {l : List Rv} (h : RS encV 4 w (some ⟨g, 0, none⟩) n l) (k : Nat) (hk : k ≤ n) : RS encV 4 w (some ⟨g, 0, none⟩) k (l.take k) := by
  refine ⟨by rw [List.length_take, h.1]; omega, by have := h.2.1; omega, ?_⟩
  rcases h.2.2 with h0 | ⟨b, off, hh, hc⟩
  · exact .inl (by omega)
  · refine .inr ⟨b, off, hh, fun i x hx j v hj => ?_⟩
    rw [List.getElem?_take] at hx
    split at hx
    · exact hc i x hx j v hj
    · cases hx
theorem RS.tail4 {w : World} {g n : Nat} {l : List Rv} (h : RS encV 4 w (some ⟨g, 0, none⟩) n l) (k : Nat) (hk : k ≤ n) : RS encV 4 w (some ⟨g, k * 4, none⟩) (n - k) (l.drop k) := by
  have q := h.mid k hk
  rwa [Nat.zero_add] at q
theorem RS.none0 {w : World} (a : Option Addr) {l : List Rv} (h : l = []) : RS encV 4 w a 0 l := by rw [h]; exact RS.nil w a
/-- Does one of a row stand ahead of another one? -/
def ltP (p q : Rv × Evt) : Bool := ltE p.2 q.2
theorem ordP : Ord ltP := ⟨fun x y z => ordE.1 x.2 y.2 z.2, fun x y z => ordE.2.1 x.2 y.2 z.2, fun x => ordE.2.2 x.2⟩
theorem srt_snoc {α : Type} {lt : α → α → Bool} (l : List α) (x : α) : srt lt (l ++ [x]) = mrg lt (srt lt l) [x] := by
  unfold srt
  rw [List.foldl_append]
  rfl
theorem take_snocA {α : Type} {l : List α} {k : Nat} {x : α} (h : l[k]? = some x) : l.take (k + 1) = l.take k ++ [x] := by
  obtain ⟨hk, rfl⟩ := List.getElem?_eq_some_iff.1 h
  simp
/-- Put in at the place that was looked for. -/
theorem put_at {ys : List (Rv × Evt)} (hs : Srt ltP ys) (x : Rv × Evt) (j : Nat) (hj : j ≤ ys.length) (h1 : ∀ y ∈ ys.drop j, ltP x y = true) (h2 : j = 0 ∨ ∃ y, ys[j - 1]? = some y ∧ ltP x y = false) : mrg ltP ys [x] = ys.take j ++ x :: ys.drop j := by
  have e := List.take_append_drop j ys
  have q := mrg_one (lt := ltP) (ys.take j) (ys.drop j) x ?_ h1
  · rw [e] at q
    exact q
  · intro y hy
    rcases h2 with h0 | ⟨z, hz, hl⟩
    · rw [h0] at hy; simp at hy
    · have hl2 : (ys.take j).getLast? = some z := by
        rw [List.getLast?_eq_getElem?, List.getElem?_take, List.length_take, Nat.min_eq_left hj]
        rcases Nat.eq_zero_or_pos j with h0 | h0
        · subst h0; simp at hy
        · rw [if_pos (by omega)]; exact hz
      have ht : Srt ltP (ys.take j) := by
        rw [← e] at hs
        exact (List.pairwise_append.1 hs).1
      exact ordP.2.1 x z y hl (srt_last ordP ht hl2 y hy)
set_option maxHeartbeats 8000000 in
set_option maxRecDepth 100000 in
/-- The document's 'Order'. -/
theorem OrderR_evt (a : Option Addr) (n cap : Nat) (es : List Evt) (w : World) (hE : EVS w a n es) (hn : n ≤ 1000) :
    Calls Try.prog 26 #[.slice a n cap] w fun e w' => ∃ p c, e = .returned (.slice p n c) ∧ EVS w' p n (srt ltE es) ∧ Below w.heap.size w w' := by
  obtain ⟨xs, hRS, hel, hrel0⟩ := hE
  obtain ⟨ps, hps⟩ : ∃ ps : List (Rv × Evt), ps = xs.zip es := ⟨_, rfl⟩
  have hpl : ps.length = n := by rw [hps, List.length_zip, hRS.1, hel, Nat.min_self]
  have HREL : Hid (∀ p ∈ ps, Rel w p.1 p.2) := by
    intro p hp
    obtain ⟨i, hi⟩ := List.getElem?_of_mem hp
    rw [hps, List.getElem?_zip_eq_some] at hi
    exact hrel0 i p.1 p.2 hi.1 hi.2
  have HSND : Hid (ps.map Prod.snd = es) := by unfold Hid; rw [hps]; exact List.map_snd_zip (by rw [hel, hRS.1]; exact Nat.le_refl _)
  have HAT : Hid (∀ i, i < n → ∃ (r s : Int) (pa : Option Addr) (na ca : Nat) (pe : Option Addr) (ne ce : Nat) (c : List Int) (fs : List Eff) (b off : Nat), a = some ⟨b, off, none⟩ ∧ ps[i]? = some ((r, s, (pa, na, ca), (pe, ne, ce)), ((r, s), c, fs)) ∧ w.cell? ⟨b, off + i * 4, none⟩ = some (.int .i64 r) ∧ w.cell? ⟨b, off + i * 4 + 1, none⟩ = some (.int .i64 s) ∧ w.cell? ⟨b, off + i * 4 + 2, none⟩ = some (.slice pa na ca) ∧ w.cell? ⟨b, off + i * 4 + 3, none⟩ = some (.slice pe ne ce) ∧ NS w pa na c) := by
    intro i hi
    obtain ⟨x, hx⟩ : ∃ x, xs[i]? = some x := ⟨_, List.getElem?_eq_getElem (by rw [hRS.1]; exact hi)⟩
    obtain ⟨e, he⟩ : ∃ e, es[i]? = some e := ⟨_, List.getElem?_eq_getElem (by rw [hel]; exact hi)⟩
    rcases hRS.2.2 with hz | ⟨b, off, ha, hc⟩
    · omega
    · have q := hc i _ hx
      have hr := hrel0 i _ _ hx he
      have hz : ps[i]? = some (x, e) := by rw [hps, List.getElem?_zip_eq_some]; exact ⟨hx, he⟩
      obtain ⟨r, s, ⟨pa, na, ca⟩, pe, ne, ce⟩ := x
      obtain ⟨d, c, l⟩ := e
      obtain ⟨hd, ⟨k1, k2⟩, k3, k4⟩ := hr
      simp only at hd k1 k2 k3 k4
      subst hd
      exact ⟨r, s, pa, na, ca, pe, ne, ce, c, l, b, off, ha, hz, q 0 _ rfl, q 1 _ rfl, q 2 _ rfl, q 3 _ rfl, k1⟩
  have HPL := hide hpl
  clear hRS hel hrel0 hps hpl
  go_enter Try.func26, Try.ntmps26
  go_wp2
  go_loopw [3, 4] (fun v i wr => ∃ (k g cp : Nat) (ys : List (Rv × Evt)), k ≤ n ∧ i = .int .i64 k ∧ v = .slice (some ⟨g, 0, none⟩) k cp ∧ Hid (k ≤ cp ∧ cp ≤ maxLen) ∧ Hid (ys = srt ltP (ps.take k)) ∧ Hid (RS encV 4 wr (some ⟨g, 0, none⟩) k (ys.map Prod.fst)) ∧ Hid (Below w.heap.size w wr)) (fun _ i _ => n - (intOf i).toNat)
  case atStart => exact ⟨0, _, 0, [], by omega, rfl, rfl, ⟨by omega, by decide⟩, rfl, RS.nil _ _, bel1 _ _⟩
  case round =>
    obtain ⟨k, g, cp, ys, hk, rfl, rfl, HCP, HYS, HRS, hB⟩ := hrel
    have hcp := HCP.out
    unfold maxLen at hcp
    have hyl : ys.length = k := by rw [HYS.out, srt_len ordP, List.length_take, HPL.out]; omega
    have HYL := hide hyl
    clear hyl
    by_cases hlt : k < n
    · obtain ⟨r, s, pa, na, ca, pe, ne, ce, c, fs, b, off, rfl, hz, x0, x1, x2, x3, hns⟩ := HAT.out k hlt
      replace x0 := bcell hB.out x0
      replace x1 := bcell hB.out x1
      replace x2 := bcell hB.out x2
      replace x3 := bcell hB.out x3
      have NX0 := hide (hns.below hB.out)
      have HZ := hide hz
      have C0 := hide x0
      have C1 := hide x1
      have C2_ := hide x2
      have C3 := hide x3
      have kz : (k : Int) < (n : Int) := by omega
      clear hns hz x0 x1 x2 x3
      go_wp2
      obtain ⟨w1, hw1⟩ : ∃ w1, w1 = wr := ⟨_, rfl⟩
      subst hw1
      go_loopw [5] (fun j wr => ∃ j' : Nat, j' ≤ k ∧ j = .int .i64 j' ∧ Hid (∀ y ∈ ys.drop j', ltP ((r, s, (pa, na, ca), (pe, ne, ce)), ((r, s), c, fs)) y = true) ∧ Hid (Below w1.heap.size w1 wr)) (fun j _ => (intOf j).toNat)
      case atStart => exact ⟨k, Nat.le_refl _, rfl, (fun y hy => by rw [List.drop_eq_nil_of_le (by rw [HYL.out]; exact Nat.le_refl _)] at hy; cases hy), Below.refl _ _⟩
      case round =>
        obtain ⟨j, hj, rfl, HJ, hB2⟩ := hrel
        have x0 := bcell hB2.out C0.out
        have x1 := bcell hB2.out C1.out
        have x2 := bcell hB2.out C2_.out
        have x3 := bcell hB2.out C3.out
        have NX := hide (NX0.out.below hB2.out)
        have hBw := hide (bel_next hB.out hB2.out)
        by_cases hj0 : 0 < j
        · have hj0z : (0 : Int) < (j : Int) := by omega
          obtain ⟨q, hq⟩ : ∃ q : Nat, q + 1 = j := ⟨j - 1, by omega⟩
          have HQ : Hid (j - 1 = q) := by unfold Hid; omega
          have hq1 : q + 1 ≤ j ∧ j ≤ q + 1 := by omega
          have eq : (j : Int) - 1 = (q : Int) := by omega
          have qk : (0 : Int) ≤ (q : Int) ∧ (q : Int) < (k : Int) := by omega
          have rq : IntKind.i64.wrap (q : Int) = (q : Int) := by rw [IntKind.wrap_i64]; omega
          clear hq
          obtain ⟨y, hy⟩ : ∃ y, ys[q]? = some y := ⟨_, List.getElem?_eq_getElem (by rw [HYL.out]; omega)⟩
          have hym : y ∈ ps := by
            have := List.mem_of_getElem? hy
            rw [HYS.out] at this
            exact List.mem_of_mem_take ((srt_mem ordP _ _).1 this)
          have hry := HREL.out y hym
          have hcells : ∀ (t : Nat) (v : Value), (encV y.1)[t]? = some v → wr.cell? ⟨g, q * 4 + t, none⟩ = some v := fun t v ht => by
            rcases HRS.out.2.2 with h0 | ⟨bb, oo, hh, hc⟩
            · omega
            · cases hh
              have q5 := hc q y.1 (by rw [List.getElem?_map, hy]; rfl) t v ht
              rw [Nat.zero_add] at q5
              exact bcell hB2.out q5
          have HY := hide hy
          clear hym hy
          obtain ⟨⟨r', s', ⟨pb, nb, cb⟩, pf, nf, cf⟩, ⟨d', c', fs'⟩⟩ := y
          obtain ⟨hd, ⟨k1, k2⟩, k3, k4⟩ := hry
          simp only at hd k1 k2 k3 k4
          subst hd
          have y0 := hcells 0 _ rfl
          have y1 := hcells 1 _ rfl
          have y2 := hcells 2 _ rfl
          have y3 := hcells 3 _ rfl
          simp only [Nat.add_zero] at y0
          have NY := hide (k1.below hBw.out)
          clear hcells k1 k2 k3 k4
          rcases hlv : ltE ((r, s), c, fs) ((r', s'), c', fs') with _ | _
          · have HLE := hide (fun W (h1 : NS W pa na c) (h2 : NS W pb nb c') => lessR_any r s pa na ca pe ne ce r' s' pb nb cb pf nf cf c c' fs fs' W h1 h2 false hlv.symm)
            have HSTOP : Hid (j = 0 ∨ ∃ y, ys[j - 1]? = some y ∧ ltP ((r, s, (pa, na, ca), (pe, ne, ce)), ((r, s), c, fs)) y = false) := .inr ⟨((r', s', (pb, nb, cb), (pf, nf, cf)), ((r', s'), c', fs')), by rw [HQ.out]; exact HY.out, (show ltE ((r, s), c, fs) ((r', s'), c', fs') = false from hlv)⟩
            clear hlv
            go_wp2
            refine wp_region_held_drew (S := fun W => Below wr.heap.size wr W) (by kernel_rfl) ((Below.refl _ wr).drew) (fun hS0 => ?_)
            refine takeInH 0 16 ?v15 rfl rfl (by kernel_rfl) (by kernel_rfl) (by kernel_rfl) (fun _ _ _ h => h) (by kernel_rfl) hS0 ?hy15 ?_
            case hy15 => (intro W hW; clear hW; go_simp; try rfl)
            simp only [Act.put, List.setIfInBounds_toArray, List.set_cons_zero, List.set_cons_succ]
            refine takeInH 1 17 ?v16 rfl rfl (by kernel_rfl) (by kernel_rfl) (by kernel_rfl) (fun _ _ _ h => h) (by kernel_rfl) hS0 ?hy16 ?_
            case hy16 => (intro W hW; clear hW; go_simp; try rfl)
            simp only [Act.put, List.setIfInBounds_toArray, List.set_cons_zero, List.set_cons_succ]
            refine takeInH 2 18 ?v17 rfl rfl (by kernel_rfl) (by kernel_rfl) (by kernel_rfl) (fun _ _ _ h => h) (by kernel_rfl) hS0 ?hy17 ?_
            case hy17 => (intro W hW; clear hW; go_simp; try rfl)
            simp only [Act.put, List.setIfInBounds_toArray, List.set_cons_zero, List.set_cons_succ]
            refine takeInH 3 19 ?v18 rfl rfl (by kernel_rfl) (by kernel_rfl) (by kernel_rfl) (fun _ _ _ h => h) (by kernel_rfl) hS0 ?hy18 ?_
            case hy18 => (intro W hW; clear hW; go_simp; try rfl)
            simp only [Act.put, List.setIfInBounds_toArray, List.set_cons_zero, List.set_cons_succ]
            refine takeInH 4 20 ?v19 rfl rfl (by kernel_rfl) (by kernel_rfl) (by kernel_rfl) (fun _ _ _ h => h) (by kernel_rfl) hS0 ?hy19 ?_
            case hy19 => (intro W hW; clear hW; go_simp; try rfl)
            simp only [Act.put, List.setIfInBounds_toArray, List.set_cons_zero, List.set_cons_succ]
            refine takeInH 5 21 ?v20 rfl rfl (by kernel_rfl) (by kernel_rfl) (by kernel_rfl) (fun _ _ _ h => h) (by kernel_rfl) hS0 ?hy20 ?_
            case hy20 => (intro W hW; clear hW; go_simp; try rfl)
            simp only [Act.put, List.setIfInBounds_toArray, List.set_cons_zero, List.set_cons_succ]
            refine takeInH 6 22 ?v21 rfl rfl (by kernel_rfl) (by kernel_rfl) (by kernel_rfl) (fun _ _ _ h => h) (by kernel_rfl) hS0 ?hy21 ?_
            case hy21 => (intro W hW; have e0 := bcell hW x0; have e1 := bcell hW x1; have e2 := bcell hW x2; have e3 := bcell hW x3; have e4 := bcell hW y0; have e5 := bcell hW y1; have e6 := bcell hW y2; have e7 := bcell hW y3; clear hW; go_simp; try rfl)
            simp only [Act.put, List.setIfInBounds_toArray, List.set_cons_zero, List.set_cons_succ]
            refine takeInH 7 23 ?v22 rfl rfl (by kernel_rfl) (by kernel_rfl) (by kernel_rfl) (fun _ _ _ h => h) (by kernel_rfl) hS0 ?hy22 ?_
            case hy22 => (intro W hW; clear hW; go_simp; try rfl)
            simp only [Act.put, List.setIfInBounds_toArray, List.set_cons_zero, List.set_cons_succ]
            refine takeInH 8 24 ?v23 rfl rfl (by kernel_rfl) (by kernel_rfl) (by kernel_rfl) (fun _ _ _ h => h) (by kernel_rfl) hS0 ?hy23 ?_
            case hy23 => (intro W hW; clear hW; go_simp; try rfl)
            simp only [Act.put, List.setIfInBounds_toArray, List.set_cons_zero, List.set_cons_succ]
            refine takeInH 9 25 ?v24 rfl rfl (by kernel_rfl) (by kernel_rfl) (by kernel_rfl) (fun _ _ _ h => h) (by kernel_rfl) hS0 ?hy24 ?_
            case hy24 => (intro W hW; clear hW; go_simp; try rfl)
            simp only [Act.put, List.setIfInBounds_toArray, List.set_cons_zero, List.set_cons_succ]
            refine takeInH 10 26 ?v25 rfl rfl (by kernel_rfl) (by kernel_rfl) (by kernel_rfl) (fun _ _ _ h => h) (by kernel_rfl) hS0 ?hy25 ?_
            case hy25 => (intro W hW; clear hW; go_simp; try rfl)
            simp only [Act.put, List.setIfInBounds_toArray, List.set_cons_zero, List.set_cons_succ]
            refine takeInH 11 27 ?v26 rfl rfl (by kernel_rfl) (by kernel_rfl) (by kernel_rfl) (fun _ _ _ h => h) (by kernel_rfl) hS0 ?hy26 ?_
            case hy26 => (intro W hW; have e0 := bcell hW x0; have e1 := bcell hW x1; have e2 := bcell hW x2; have e3 := bcell hW x3; have e4 := bcell hW y0; have e5 := bcell hW y1; have e6 := bcell hW y2; have e7 := bcell hW y3; clear hW; go_simp; try rfl)
            simp only [Act.put, List.setIfInBounds_toArray, List.set_cons_zero, List.set_cons_succ]
            refine wpAnyH_ready (rs := [12]) (by kernel_rfl) (by simp) ?_
            refine AllReadyH.cons rfl (fun K hK => ?_) AllReadyH.nil
            go_simp
            refine (HLE.out _ (NX.out.below hS0) (NY.out.below hS0)).mono ?_
            rintro e w' ⟨rfl, hb⟩
            try go_wp2_with fail
            refine hK.out _ _ ?hs27 (fun hS1 => ?_)
            case hs27 => exact bel_next hS0 hb
            clear hK K
            try simp only [Act.put, List.setIfInBounds_toArray, List.set_cons_zero, List.set_cons_succ]
            refine takeInH 13 29 ?v28 rfl rfl (by kernel_rfl) (by kernel_rfl) (by kernel_rfl) (fun _ _ _ h => h) (by kernel_rfl) hS1 ?hy28 ?_
            case hy28 => (intro W hW; clear hW; go_simp; try rfl)
            simp only [Act.put, List.setIfInBounds_toArray, List.set_cons_zero, List.set_cons_succ]
            refine wpAnyH_done (by kernel_rfl) ?_ _
            replace x0 := bcell hS1 x0
            replace x1 := bcell hS1 x1
            replace x2 := bcell hS1 x2
            replace x3 := bcell hS1 x3
            have hBB := bel_next hB2.out hS1
            have hB3' := bel_next hB.out hBB
            have HLk : Hid ((ys.map Prod.fst).length ≤ 1000 ∧ (ys.map Prod.fst).length = k ∧ j ≤ k ∧ k < n ∧ n ≤ 1000) := by unfold Hid; rw [List.length_map, HYL.out]; exact ⟨by omega, rfl, hj, hlt, hn⟩
            have HPUT : Hid (ys.take j ++ ((r, s, (pa, na, ca), (pe, ne, ce)), ((r, s), c, fs)) :: ys.drop j = srt ltP (ps.take (k + 1))) := by
              unfold Hid
              rw [take_snocA HZ.out, srt_snoc, ← HYS.out]
              exact (put_at (by rw [HYS.out]; exact srt_srt ordP _) _ j (by rw [HYL.out]; exact hj) HJ.out HSTOP.out).symm
            rcases Nat.lt_or_ge j k with hjk | hjk
            · have hjz : (j : Int) < (k : Int) := by omega
              have hjc : ¬ cp = j := by omega
              have hjc2 : ¬ j = cp := by omega
              have hjcp : j ≤ cp := by omega
              go_wp2_with (at_builtin; refine Stop.at ?_)
              unfold Stop
              refine append_rows (enc := encV) (k := 4) rfl _ _ 30 rfl Try.underlying30 Try.infoEvt rfl (by decide) (by decide) encV_len encV_one w'.heap.size _ [] ((ys.map Prod.fst).drop j) rfl (OwnR.made w' w'.heap.size _ rfl (Nat.le_refl _)) (some ⟨g, j * 4, none⟩) (k - j) (cp - j) rfl (fun h => by cases h) (((HRS.out.below hBB).tail4 j (by omega)).alloc _) (by have := HLk.out; rw [List.length_drop, List.length_nil]; omega) (by simp) ?_
              intro vr u3 hor _ hbr
              have hB3 := hbr _ (bel1 w' _)
              rw [List.nil_append] at hor
              obtain ⟨pr, cr, hvr, hdr, hcr⟩ := hor.open encV_len
              obtain ⟨nr, hnr⟩ : ∃ nr, nr = ((ys.map Prod.fst).drop j).length := ⟨_, rfl⟩
              rw [← hnr] at hvr hdr
              subst hvr
              have HDr := hide hdr
              have hpr := hcr.2.2
              replace x0 := bcell hB3 x0
              replace x1 := bcell hB3 x1
              replace x2 := bcell hB3 x2
              replace x3 := bcell hB3 x3
              have HB := hide (bel_next hB3' hB3)
              have HDk := hide ((HRS.out.below (bel_next hBB hB3)).head j (by omega))
              clear hor hbr hB3 hdr hcr hnr
              go_wp2
              refine wp_region_held_drew (S := fun W => Below u3.heap.size u3 W) (by kernel_rfl) ((Below.refl _ u3).drew) (fun hS0 => ?_)
              refine takeInH 0 37 ?v29 rfl rfl (by kernel_rfl) (by kernel_rfl) (by kernel_rfl) (fun _ _ _ h => h) (by kernel_rfl) hS0 ?hy29 ?_
              case hy29 => (intro W hW; clear hW; go_simp; try rfl)
              simp only [Act.put, List.setIfInBounds_toArray, List.set_cons_zero, List.set_cons_succ]
              refine takeInH 1 38 ?v30 rfl rfl (by kernel_rfl) (by kernel_rfl) (by kernel_rfl) (fun _ _ _ h => h) (by kernel_rfl) hS0 ?hy30 ?_
              case hy30 => (intro W hW; clear hW; go_simp; try rfl)
              simp only [Act.put, List.setIfInBounds_toArray, List.set_cons_zero, List.set_cons_succ]
              refine takeInH 2 39 ?v31 rfl rfl (by kernel_rfl) (by kernel_rfl) (by kernel_rfl) (fun _ _ _ h => h) (by kernel_rfl) hS0 ?hy31 ?_
              case hy31 => (intro W hW; clear hW; go_simp; try rfl)
              simp only [Act.put, List.setIfInBounds_toArray, List.set_cons_zero, List.set_cons_succ]
              refine takeInH 3 40 ?v32 rfl rfl (by kernel_rfl) (by kernel_rfl) (by kernel_rfl) (fun _ _ _ h => h) (by kernel_rfl) hS0 ?hy32 ?_
              case hy32 => (intro W hW; clear hW; go_simp; try rfl)
              simp only [Act.put, List.setIfInBounds_toArray, List.set_cons_zero, List.set_cons_succ]
              refine takeInH 4 41 ?v33 rfl rfl (by kernel_rfl) (by kernel_rfl) (by kernel_rfl) (fun _ _ _ h => h) (by kernel_rfl) hS0 ?hy33 ?_
              case hy33 => (intro W hW; clear hW; go_simp; try rfl)
              simp only [Act.put, List.setIfInBounds_toArray, List.set_cons_zero, List.set_cons_succ]
              refine takeInH 5 42 ?v34 rfl rfl (by kernel_rfl) (by kernel_rfl) (by kernel_rfl) (fun _ _ _ h => h) (by kernel_rfl) hS0 ?hy34 ?_
              case hy34 => (intro W hW; clear hW; go_simp; try rfl)
              simp only [Act.put, List.setIfInBounds_toArray, List.set_cons_zero, List.set_cons_succ]
              refine takeInH 6 43 ?v35 rfl rfl (by kernel_rfl) (by kernel_rfl) (by kernel_rfl) (fun _ _ _ h => h) (by kernel_rfl) hS0 ?hy35 ?_
              case hy35 => (intro W hW; clear hW; go_simp; try rfl)
              simp only [Act.put, List.setIfInBounds_toArray, List.set_cons_zero, List.set_cons_succ]
              refine takeInH 7 44 ?v36 rfl rfl (by kernel_rfl) (by kernel_rfl) (by kernel_rfl) (fun _ _ _ h => h) (by kernel_rfl) hS0 ?hy36 ?_
              case hy36 => (intro W hW; have e0 := bcell hW x0; have e1 := bcell hW x1; have e2 := bcell hW x2; have e3 := bcell hW x3; clear hW; go_simp; try rfl)
              simp only [Act.put, List.setIfInBounds_toArray, List.set_cons_zero, List.set_cons_succ]
              refine takeInH 10 47 ?v37 rfl rfl (by kernel_rfl) (by kernel_rfl) (by kernel_rfl) (fun _ _ _ h => h) (by kernel_rfl) hS0 ?hy37 ?_
              case hy37 => (intro W hW; clear hW; go_simp; try rfl)
              simp only [Act.put, List.setIfInBounds_toArray, List.set_cons_zero, List.set_cons_succ]
              refine wpAnyH_ready (rs := [8]) (by kernel_rfl) (by simp) ?_
              refine AllReadyH.cons rfl (fun K hK => ?_) AllReadyH.nil
              go_simp
              have b0 := RS.new (enc := encV) (k := 4) encV_len u3 u3.heap.size rfl [(r, s, (pa, na, ca), (pe, ne, ce))] #[.int .i64 r, .int .i64 s, .slice pa na ca, .slice pe ne ce] rfl 28 (0, 0) 1 rfl (by decide)
              have hSn : Below u3.heap.size u3 (u3.alloc (.cells #[.int .i64 r, .int .i64 s, .slice pa na ca, .slice pe ne ce] 28)).drew := ((Below.refl _ u3).alloc (Nat.le_refl _) _).drew
              have b1 : RS encV 4 (u3.alloc (.cells #[.int .i64 r, .int .i64 s, .slice pa na ca, .slice pe ne ce] 28)).drew (some ⟨u3.heap.size, 0, none⟩) 1 [(r, s, (pa, na, ca), (pe, ne, ce))] := b0
              clear b0
              generalize (u3.alloc (.cells #[.int .i64 r, .int .i64 s, .slice pa na ca, .slice pe ne ce] 28)).drew = W1 at *
              refine hK.out _ _ ?hs38 (fun hS1 => ?_)
              case hs38 => exact hSn
              clear hK K
              try simp only [Act.put, List.setIfInBounds_toArray, List.set_cons_zero, List.set_cons_succ]
              refine wpAnyH_ready (rs := [9]) (by kernel_rfl) (by simp) ?_
              refine AllReadyH.cons rfl (fun K hK => ?_) AllReadyH.nil
              rw [if_pos (by kernel_rfl)]
              refine append_evf _ _ rfl g j ((ys.map Prod.fst).take j) [(r, s, (pa, na, ca), (pe, ne, ce))] rfl (HDk.out.below hS1) ⟨u3.heap.size, 0, none⟩ 1 1 rfl b1 (by decide) (by have := HLk.out; rw [List.length_take, List.length_singleton]; omega) ?_
              intro v1 w1 ho1 hb1
              have HO1 := hide (ho1.mono hS1.size)
              have hSk := bel_next hS1 hb1
              clear ho1 hb1 b1
              change K (Act.put _ (some 46) _) _
              refine hK.out _ _ ?hs39 (fun hS2 => ?_)
              case hs39 => exact hSk
              clear hK K
              try simp only [Act.put, List.setIfInBounds_toArray, List.set_cons_zero, List.set_cons_succ]
              refine wpAnyH_ready (rs := [11]) (by kernel_rfl) (by simp) ?_
              refine AllReadyH.cons rfl (fun K hK => ?_) AllReadyH.nil
              rw [if_pos (by kernel_rfl)]
              refine append_evw _ _ rfl u3.heap.size _ ((ys.map Prod.fst).take j ++ [(r, s, (pa, na, ca), (pe, ne, ce))]) ((ys.map Prod.fst).drop j) rfl HO1.out pr nr cr rfl hpr (HDr.out.below hS2) (by have := HLk.out; rw [List.length_append, List.length_take, List.length_drop, List.length_singleton]; omega) hS2.size ?_
              intro v2 w2 ho2 hb2
              have HO2 := hide ho2
              have hSm := hb2 _ hS2
              clear ho2 hb2
              change K (Act.put _ (some 48) _) _
              refine hK.out _ _ ?hs40 (fun hS3 => ?_)
              case hs40 => exact hSm
              clear hK K
              try simp only [Act.put, List.setIfInBounds_toArray, List.set_cons_zero, List.set_cons_succ]
              refine takeInH 12 3 ?v41 rfl rfl (by kernel_rfl) (by kernel_rfl) (by kernel_rfl) (fun _ _ _ h => h) (by kernel_rfl) hS3 ?hy41 ?_
              case hy41 => (intro W hW; clear hW; go_simp; try rfl)
              simp only [Act.put, List.setIfInBounds_toArray, List.set_cons_zero, List.set_cons_succ]
              refine wpAnyH_done (by kernel_rfl) ?_ _
              have HB5 := hide (bel_next HB.out hS3)
              rcases HO2.out.rowE with ⟨hx0, _⟩ | ⟨g5, cap5, hv5, _, _, hc51, hc52, hC5, _, _⟩
              · simp at hx0
              · have HM5 : Hid ((ys.take j ++ ((r, s, (pa, na, ca), (pe, ne, ce)), ((r, s), c, fs)) :: ys.drop j).map Prod.fst = (ys.map Prod.fst).take j ++ [(r, s, (pa, na, ca), (pe, ne, ce))] ++ (ys.map Prod.fst).drop j) := by unfold Hid; simp [List.map_take, List.map_drop]
                have hl5 : ((ys.map Prod.fst).take j ++ [(r, s, (pa, na, ca), (pe, ne, ce))] ++ (ys.map Prod.fst).drop j).length = k + 1 := by
                  have := HLk.out
                  rw [List.length_append, List.length_append, List.length_take, List.length_drop, List.length_singleton]
                  omega
                obtain ⟨p6, c6, hv6, hr6, _⟩ := HO2.out.open encV_len
                rw [hl5] at hv5 hc51 hv6 hr6
                rw [hv5] at hv6
                have hp6 : p6 = some ⟨g5, 0, none⟩ := by cases hv6; rfl
                subst hp6
                subst hv5
                have HR5 : Hid (RS encV 4 w2 (some ⟨g5, 0, none⟩) (k + 1) ((ys.take j ++ ((r, s, (pa, na, ca), (pe, ne, ce)), ((r, s), c, fs)) :: ys.drop j).map Prod.fst)) := by unfold Hid; rw [HM5.out]; exact hr6
                have HC5 : Hid (k + 1 ≤ cap5 ∧ cap5 ≤ maxLen) := ⟨hc51, hc52⟩
                clear hC5 hr6 hv6 hl5 hc51 hc52
                go_wp2
                go_roundw
                case rel => exact ⟨k + 1, g5, cap5, _, by omega, by go_num, by first | rfl | (congr 1; omega), HC5, HPUT, HR5, HB5⟩
                case measure => simp [intOf]; omega
            · have hjk2 : j = k := by omega
              have HDl : Hid ((ys.map Prod.fst).drop j = []) := List.drop_eq_nil_of_le (by have := HLk.out; omega)
              subst hjk2
              by_cases hcj : j = cp
              · subst hcj
                go_wp2_with (at_builtin; refine Stop.at ?_)
                unfold Stop
                refine append_rows (enc := encV) (k := 4) rfl _ _ 30 rfl Try.underlying30 Try.infoEvt rfl (by decide) (by decide) encV_len encV_one w'.heap.size _ [] ((ys.map Prod.fst).drop j) rfl (OwnR.made w' w'.heap.size _ rfl (Nat.le_refl _)) (some ⟨g, 0, none⟩) _ _ rfl (fun h => by cases h) (RS.none0 _ HDl.out) (by have := HLk.out; rw [List.length_drop, List.length_nil]; omega) (by simp) ?_
                intro vr u3 hor _ hbr
                have hB3 := hbr _ (bel1 w' _)
                rw [List.nil_append] at hor
                obtain ⟨pr, cr, hvr, hdr, hcr⟩ := hor.open encV_len
                obtain ⟨nr, hnr⟩ : ∃ nr, nr = ((ys.map Prod.fst).drop j).length := ⟨_, rfl⟩
                rw [← hnr] at hvr hdr
                subst hvr
                have HDr := hide hdr
                have hpr := hcr.2.2
                replace x0 := bcell hB3 x0
                replace x1 := bcell hB3 x1
                replace x2 := bcell hB3 x2
                replace x3 := bcell hB3 x3
                have HB := hide (bel_next hB3' hB3)
                have HDk := hide ((HRS.out.below (bel_next hBB hB3)).head j (by omega))
                clear hor hbr hB3 hdr hcr hnr
                go_wp2
                refine wp_region_held_drew (S := fun W => Below u3.heap.size u3 W) (by kernel_rfl) ((Below.refl _ u3).drew) (fun hS0 => ?_)
                refine takeInH 0 37 ?v42 rfl rfl (by kernel_rfl) (by kernel_rfl) (by kernel_rfl) (fun _ _ _ h => h) (by kernel_rfl) hS0 ?hy42 ?_
                case hy42 => (intro W hW; clear hW; go_simp; try rfl)
                simp only [Act.put, List.setIfInBounds_toArray, List.set_cons_zero, List.set_cons_succ]
                refine takeInH 1 38 ?v43 rfl rfl (by kernel_rfl) (by kernel_rfl) (by kernel_rfl) (fun _ _ _ h => h) (by kernel_rfl) hS0 ?hy43 ?_
                case hy43 => (intro W hW; clear hW; go_simp; try rfl)
                simp only [Act.put, List.setIfInBounds_toArray, List.set_cons_zero, List.set_cons_succ]
                refine takeInH 2 39 ?v44 rfl rfl (by kernel_rfl) (by kernel_rfl) (by kernel_rfl) (fun _ _ _ h => h) (by kernel_rfl) hS0 ?hy44 ?_
                case hy44 => (intro W hW; clear hW; go_simp; try rfl)
                simp only [Act.put, List.setIfInBounds_toArray, List.set_cons_zero, List.set_cons_succ]
                refine takeInH 3 40 ?v45 rfl rfl (by kernel_rfl) (by kernel_rfl) (by kernel_rfl) (fun _ _ _ h => h) (by kernel_rfl) hS0 ?hy45 ?_
                case hy45 => (intro W hW; clear hW; go_simp; try rfl)
                simp only [Act.put, List.setIfInBounds_toArray, List.set_cons_zero, List.set_cons_succ]
                refine takeInH 4 41 ?v46 rfl rfl (by kernel_rfl) (by kernel_rfl) (by kernel_rfl) (fun _ _ _ h => h) (by kernel_rfl) hS0 ?hy46 ?_
                case hy46 => (intro W hW; clear hW; go_simp; try rfl)
                simp only [Act.put, List.setIfInBounds_toArray, List.set_cons_zero, List.set_cons_succ]
                refine takeInH 5 42 ?v47 rfl rfl (by kernel_rfl) (by kernel_rfl) (by kernel_rfl) (fun _ _ _ h => h) (by kernel_rfl) hS0 ?hy47 ?_
                case hy47 => (intro W hW; clear hW; go_simp; try rfl)
                simp only [Act.put, List.setIfInBounds_toArray, List.set_cons_zero, List.set_cons_succ]
                refine takeInH 6 43 ?v48 rfl rfl (by kernel_rfl) (by kernel_rfl) (by kernel_rfl) (fun _ _ _ h => h) (by kernel_rfl) hS0 ?hy48 ?_
                case hy48 => (intro W hW; clear hW; go_simp; try rfl)
                simp only [Act.put, List.setIfInBounds_toArray, List.set_cons_zero, List.set_cons_succ]
                refine takeInH 7 44 ?v49 rfl rfl (by kernel_rfl) (by kernel_rfl) (by kernel_rfl) (fun _ _ _ h => h) (by kernel_rfl) hS0 ?hy49 ?_
                case hy49 => (intro W hW; have e0 := bcell hW x0; have e1 := bcell hW x1; have e2 := bcell hW x2; have e3 := bcell hW x3; clear hW; go_simp; try rfl)
                simp only [Act.put, List.setIfInBounds_toArray, List.set_cons_zero, List.set_cons_succ]
                refine takeInH 10 47 ?v50 rfl rfl (by kernel_rfl) (by kernel_rfl) (by kernel_rfl) (fun _ _ _ h => h) (by kernel_rfl) hS0 ?hy50 ?_
                case hy50 => (intro W hW; clear hW; go_simp; try rfl)
                simp only [Act.put, List.setIfInBounds_toArray, List.set_cons_zero, List.set_cons_succ]
                refine wpAnyH_ready (rs := [8]) (by kernel_rfl) (by simp) ?_
                refine AllReadyH.cons rfl (fun K hK => ?_) AllReadyH.nil
                go_simp
                have b0 := RS.new (enc := encV) (k := 4) encV_len u3 u3.heap.size rfl [(r, s, (pa, na, ca), (pe, ne, ce))] #[.int .i64 r, .int .i64 s, .slice pa na ca, .slice pe ne ce] rfl 28 (0, 0) 1 rfl (by decide)
                have hSn : Below u3.heap.size u3 (u3.alloc (.cells #[.int .i64 r, .int .i64 s, .slice pa na ca, .slice pe ne ce] 28)).drew := ((Below.refl _ u3).alloc (Nat.le_refl _) _).drew
                have b1 : RS encV 4 (u3.alloc (.cells #[.int .i64 r, .int .i64 s, .slice pa na ca, .slice pe ne ce] 28)).drew (some ⟨u3.heap.size, 0, none⟩) 1 [(r, s, (pa, na, ca), (pe, ne, ce))] := b0
                clear b0
                generalize (u3.alloc (.cells #[.int .i64 r, .int .i64 s, .slice pa na ca, .slice pe ne ce] 28)).drew = W1 at *
                refine hK.out _ _ ?hs51 (fun hS1 => ?_)
                case hs51 => exact hSn
                clear hK K
                try simp only [Act.put, List.setIfInBounds_toArray, List.set_cons_zero, List.set_cons_succ]
                refine wpAnyH_ready (rs := [9]) (by kernel_rfl) (by simp) ?_
                refine AllReadyH.cons rfl (fun K hK => ?_) AllReadyH.nil
                rw [if_pos (by kernel_rfl)]
                refine append_evf _ _ rfl g j ((ys.map Prod.fst).take j) [(r, s, (pa, na, ca), (pe, ne, ce))] rfl (HDk.out.below hS1) ⟨u3.heap.size, 0, none⟩ 1 1 rfl b1 (by decide) (by have := HLk.out; rw [List.length_take, List.length_singleton]; omega) ?_
                intro v1 w1 ho1 hb1
                have HO1 := hide (ho1.mono hS1.size)
                have hSk := bel_next hS1 hb1
                clear ho1 hb1 b1
                change K (Act.put _ (some 46) _) _
                refine hK.out _ _ ?hs52 (fun hS2 => ?_)
                case hs52 => exact hSk
                clear hK K
                try simp only [Act.put, List.setIfInBounds_toArray, List.set_cons_zero, List.set_cons_succ]
                refine wpAnyH_ready (rs := [11]) (by kernel_rfl) (by simp) ?_
                refine AllReadyH.cons rfl (fun K hK => ?_) AllReadyH.nil
                rw [if_pos (by kernel_rfl)]
                refine append_evw _ _ rfl u3.heap.size _ ((ys.map Prod.fst).take j ++ [(r, s, (pa, na, ca), (pe, ne, ce))]) ((ys.map Prod.fst).drop j) rfl HO1.out pr nr cr rfl hpr (HDr.out.below hS2) (by have := HLk.out; rw [List.length_append, List.length_take, List.length_drop, List.length_singleton]; omega) hS2.size ?_
                intro v2 w2 ho2 hb2
                have HO2 := hide ho2
                have hSm := hb2 _ hS2
                clear ho2 hb2
                change K (Act.put _ (some 48) _) _
                refine hK.out _ _ ?hs53 (fun hS3 => ?_)
                case hs53 => exact hSm
                clear hK K
                try simp only [Act.put, List.setIfInBounds_toArray, List.set_cons_zero, List.set_cons_succ]
                refine takeInH 12 3 ?v54 rfl rfl (by kernel_rfl) (by kernel_rfl) (by kernel_rfl) (fun _ _ _ h => h) (by kernel_rfl) hS3 ?hy54 ?_
                case hy54 => (intro W hW; clear hW; go_simp; try rfl)
                simp only [Act.put, List.setIfInBounds_toArray, List.set_cons_zero, List.set_cons_succ]
                refine wpAnyH_done (by kernel_rfl) ?_ _
                have HB5 := hide (bel_next HB.out hS3)
                rcases HO2.out.rowE with ⟨hx0, _⟩ | ⟨g5, cap5, hv5, _, _, hc51, hc52, hC5, _, _⟩
                · simp at hx0
                · have HM5 : Hid ((ys.take j ++ ((r, s, (pa, na, ca), (pe, ne, ce)), ((r, s), c, fs)) :: ys.drop j).map Prod.fst = (ys.map Prod.fst).take j ++ [(r, s, (pa, na, ca), (pe, ne, ce))] ++ (ys.map Prod.fst).drop j) := by unfold Hid; simp [List.map_take, List.map_drop]
                  have hl5 : ((ys.map Prod.fst).take j ++ [(r, s, (pa, na, ca), (pe, ne, ce))] ++ (ys.map Prod.fst).drop j).length = j + 1 := by
                    have := HLk.out
                    rw [List.length_append, List.length_append, List.length_take, List.length_drop, List.length_singleton]
                    omega
                  obtain ⟨p6, c6, hv6, hr6, _⟩ := HO2.out.open encV_len
                  rw [hl5] at hv5 hc51 hv6 hr6
                  rw [hv5] at hv6
                  have hp6 : p6 = some ⟨g5, 0, none⟩ := by cases hv6; rfl
                  subst hp6
                  subst hv5
                  have HR5 : Hid (RS encV 4 w2 (some ⟨g5, 0, none⟩) (j + 1) ((ys.take j ++ ((r, s, (pa, na, ca), (pe, ne, ce)), ((r, s), c, fs)) :: ys.drop j).map Prod.fst)) := by unfold Hid; rw [HM5.out]; exact hr6
                  have HC5 : Hid (j + 1 ≤ cap5 ∧ cap5 ≤ maxLen) := ⟨hc51, hc52⟩
                  clear hC5 hr6 hv6 hl5 hc51 hc52
                  go_wp2
                  go_roundw
                  case rel => exact ⟨j + 1, g5, cap5, _, by omega, by go_num, by first | rfl | (congr 1; omega), HC5, HPUT, HR5, HB5⟩
                  case measure => simp [intOf]; omega
              · have hjc : ¬ cp = j := by omega
                have hjcp : j ≤ cp := by omega
                go_wp2_with (at_builtin; refine Stop.at ?_)
                unfold Stop
                refine append_rows (enc := encV) (k := 4) rfl _ _ 30 rfl Try.underlying30 Try.infoEvt rfl (by decide) (by decide) encV_len encV_one w'.heap.size _ [] ((ys.map Prod.fst).drop j) rfl (OwnR.made w' w'.heap.size _ rfl (Nat.le_refl _)) (some ⟨g, j * 4, none⟩) _ _ rfl (fun h => by cases h) (RS.none0 _ HDl.out) (by have := HLk.out; rw [List.length_drop, List.length_nil]; omega) (by simp) ?_
                intro vr u3 hor _ hbr
                have hB3 := hbr _ (bel1 w' _)
                rw [List.nil_append] at hor
                obtain ⟨pr, cr, hvr, hdr, hcr⟩ := hor.open encV_len
                obtain ⟨nr, hnr⟩ : ∃ nr, nr = ((ys.map Prod.fst).drop j).length := ⟨_, rfl⟩
                rw [← hnr] at hvr hdr
                subst hvr
                have HDr := hide hdr
                have hpr := hcr.2.2
                replace x0 := bcell hB3 x0
                replace x1 := bcell hB3 x1
                replace x2 := bcell hB3 x2
                replace x3 := bcell hB3 x3
                have HB := hide (bel_next hB3' hB3)
                have HDk := hide ((HRS.out.below (bel_next hBB hB3)).head j (by omega))
                clear hor hbr hB3 hdr hcr hnr
                go_wp2
                refine wp_region_held_drew (S := fun W => Below u3.heap.size u3 W) (by kernel_rfl) ((Below.refl _ u3).drew) (fun hS0 => ?_)
                refine takeInH 0 37 ?v55 rfl rfl (by kernel_rfl) (by kernel_rfl) (by kernel_rfl) (fun _ _ _ h => h) (by kernel_rfl) hS0 ?hy55 ?_
                case hy55 => (intro W hW; clear hW; go_simp; try rfl)
                simp only [Act.put, List.setIfInBounds_toArray, List.set_cons_zero, List.set_cons_succ]
                refine takeInH 1 38 ?v56 rfl rfl (by kernel_rfl) (by kernel_rfl) (by kernel_rfl) (fun _ _ _ h => h) (by kernel_rfl) hS0 ?hy56 ?_
                case hy56 => (intro W hW; clear hW; go_simp; try rfl)
                simp only [Act.put, List.setIfInBounds_toArray, List.set_cons_zero, List.set_cons_succ]
                refine takeInH 2 39 ?v57 rfl rfl (by kernel_rfl) (by kernel_rfl) (by kernel_rfl) (fun _ _ _ h => h) (by kernel_rfl) hS0 ?hy57 ?_
                case hy57 => (intro W hW; clear hW; go_simp; try rfl)
                simp only [Act.put, List.setIfInBounds_toArray, List.set_cons_zero, List.set_cons_succ]
                refine takeInH 3 40 ?v58 rfl rfl (by kernel_rfl) (by kernel_rfl) (by kernel_rfl) (fun _ _ _ h => h) (by kernel_rfl) hS0 ?hy58 ?_
                case hy58 => (intro W hW; clear hW; go_simp; try rfl)
                simp only [Act.put, List.setIfInBounds_toArray, List.set_cons_zero, List.set_cons_succ]
                refine takeInH 4 41 ?v59 rfl rfl (by kernel_rfl) (by kernel_rfl) (by kernel_rfl) (fun _ _ _ h => h) (by kernel_rfl) hS0 ?hy59 ?_
                case hy59 => (intro W hW; clear hW; go_simp; try rfl)
                simp only [Act.put, List.setIfInBounds_toArray, List.set_cons_zero, List.set_cons_succ]
                refine takeInH 5 42 ?v60 rfl rfl (by kernel_rfl) (by kernel_rfl) (by kernel_rfl) (fun _ _ _ h => h) (by kernel_rfl) hS0 ?hy60 ?_
                case hy60 => (intro W hW; clear hW; go_simp; try rfl)
                simp only [Act.put, List.setIfInBounds_toArray, List.set_cons_zero, List.set_cons_succ]
                refine takeInH 6 43 ?v61 rfl rfl (by kernel_rfl) (by kernel_rfl) (by kernel_rfl) (fun _ _ _ h => h) (by kernel_rfl) hS0 ?hy61 ?_
                case hy61 => (intro W hW; clear hW; go_simp; try rfl)
                simp only [Act.put, List.setIfInBounds_toArray, List.set_cons_zero, List.set_cons_succ]
                refine takeInH 7 44 ?v62 rfl rfl (by kernel_rfl) (by kernel_rfl) (by kernel_rfl) (fun _ _ _ h => h) (by kernel_rfl) hS0 ?hy62 ?_
                case hy62 => (intro W hW; have e0 := bcell hW x0; have e1 := bcell hW x1; have e2 := bcell hW x2; have e3 := bcell hW x3; clear hW; go_simp; try rfl)
                simp only [Act.put, List.setIfInBounds_toArray, List.set_cons_zero, List.set_cons_succ]
                refine takeInH 10 47 ?v63 rfl rfl (by kernel_rfl) (by kernel_rfl) (by kernel_rfl) (fun _ _ _ h => h) (by kernel_rfl) hS0 ?hy63 ?_
                case hy63 => (intro W hW; clear hW; go_simp; try rfl)
                simp only [Act.put, List.setIfInBounds_toArray, List.set_cons_zero, List.set_cons_succ]
                refine wpAnyH_ready (rs := [8]) (by kernel_rfl) (by simp) ?_
                refine AllReadyH.cons rfl (fun K hK => ?_) AllReadyH.nil
                go_simp
                have b0 := RS.new (enc := encV) (k := 4) encV_len u3 u3.heap.size rfl [(r, s, (pa, na, ca), (pe, ne, ce))] #[.int .i64 r, .int .i64 s, .slice pa na ca, .slice pe ne ce] rfl 28 (0, 0) 1 rfl (by decide)
                have hSn : Below u3.heap.size u3 (u3.alloc (.cells #[.int .i64 r, .int .i64 s, .slice pa na ca, .slice pe ne ce] 28)).drew := ((Below.refl _ u3).alloc (Nat.le_refl _) _).drew
                have b1 : RS encV 4 (u3.alloc (.cells #[.int .i64 r, .int .i64 s, .slice pa na ca, .slice pe ne ce] 28)).drew (some ⟨u3.heap.size, 0, none⟩) 1 [(r, s, (pa, na, ca), (pe, ne, ce))] := b0
                clear b0
                generalize (u3.alloc (.cells #[.int .i64 r, .int .i64 s, .slice pa na ca, .slice pe ne ce] 28)).drew = W1 at *
                refine hK.out _ _ ?hs64 (fun hS1 => ?_)
                case hs64 => exact hSn
                clear hK K
                try simp only [Act.put, List.setIfInBounds_toArray, List.set_cons_zero, List.set_cons_succ]
                refine wpAnyH_ready (rs := [9]) (by kernel_rfl) (by simp) ?_
                refine AllReadyH.cons rfl (fun K hK => ?_) AllReadyH.nil
                rw [if_pos (by kernel_rfl)]
                refine append_evf _ _ rfl g j ((ys.map Prod.fst).take j) [(r, s, (pa, na, ca), (pe, ne, ce))] rfl (HDk.out.below hS1) ⟨u3.heap.size, 0, none⟩ 1 1 rfl b1 (by decide) (by have := HLk.out; rw [List.length_take, List.length_singleton]; omega) ?_
                intro v1 w1 ho1 hb1
                have HO1 := hide (ho1.mono hS1.size)
                have hSk := bel_next hS1 hb1
                clear ho1 hb1 b1
                change K (Act.put _ (some 46) _) _
                refine hK.out _ _ ?hs65 (fun hS2 => ?_)
                case hs65 => exact hSk
                clear hK K
                try simp only [Act.put, List.setIfInBounds_toArray, List.set_cons_zero, List.set_cons_succ]
                refine wpAnyH_ready (rs := [11]) (by kernel_rfl) (by simp) ?_
                refine AllReadyH.cons rfl (fun K hK => ?_) AllReadyH.nil
                rw [if_pos (by kernel_rfl)]
                refine append_evw _ _ rfl u3.heap.size _ ((ys.map Prod.fst).take j ++ [(r, s, (pa, na, ca), (pe, ne, ce))]) ((ys.map Prod.fst).drop j) rfl HO1.out pr nr cr rfl hpr (HDr.out.below hS2) (by have := HLk.out; rw [List.length_append, List.length_take, List.length_drop, List.length_singleton]; omega) hS2.size ?_
                intro v2 w2 ho2 hb2
                have HO2 := hide ho2
                have hSm := hb2 _ hS2
                clear ho2 hb2
                change K (Act.put _ (some 48) _) _
                refine hK.out _ _ ?hs66 (fun hS3 => ?_)
                case hs66 => exact hSm
                clear hK K
                try simp only [Act.put, List.setIfInBounds_toArray, List.set_cons_zero, List.set_cons_succ]
                refine takeInH 12 3 ?v67 rfl rfl (by kernel_rfl) (by kernel_rfl) (by kernel_rfl) (fun _ _ _ h => h) (by kernel_rfl) hS3 ?hy67 ?_
                case hy67 => (intro W hW; clear hW; go_simp; try rfl)
                simp only [Act.put, List.setIfInBounds_toArray, List.set_cons_zero, List.set_cons_succ]
                refine wpAnyH_done (by kernel_rfl) ?_ _
                have HB5 := hide (bel_next HB.out hS3)
                rcases HO2.out.rowE with ⟨hx0, _⟩ | ⟨g5, cap5, hv5, _, _, hc51, hc52, hC5, _, _⟩
                · simp at hx0
                · have HM5 : Hid ((ys.take j ++ ((r, s, (pa, na, ca), (pe, ne, ce)), ((r, s), c, fs)) :: ys.drop j).map Prod.fst = (ys.map Prod.fst).take j ++ [(r, s, (pa, na, ca), (pe, ne, ce))] ++ (ys.map Prod.fst).drop j) := by unfold Hid; simp [List.map_take, List.map_drop]
                  have hl5 : ((ys.map Prod.fst).take j ++ [(r, s, (pa, na, ca), (pe, ne, ce))] ++ (ys.map Prod.fst).drop j).length = j + 1 := by
                    have := HLk.out
                    rw [List.length_append, List.length_append, List.length_take, List.length_drop, List.length_singleton]
                    omega
                  obtain ⟨p6, c6, hv6, hr6, _⟩ := HO2.out.open encV_len
                  rw [hl5] at hv5 hc51 hv6 hr6
                  rw [hv5] at hv6
                  have hp6 : p6 = some ⟨g5, 0, none⟩ := by cases hv6; rfl
                  subst hp6
                  subst hv5
                  have HR5 : Hid (RS encV 4 w2 (some ⟨g5, 0, none⟩) (j + 1) ((ys.take j ++ ((r, s, (pa, na, ca), (pe, ne, ce)), ((r, s), c, fs)) :: ys.drop j).map Prod.fst)) := by unfold Hid; rw [HM5.out]; exact hr6
                  have HC5 : Hid (j + 1 ≤ cap5 ∧ cap5 ≤ maxLen) := ⟨hc51, hc52⟩
                  clear hC5 hr6 hv6 hl5 hc51 hc52
                  go_wp2
                  go_roundw
                  case rel => exact ⟨j + 1, g5, cap5, _, by omega, by go_num, by first | rfl | (congr 1; omega), HC5, HPUT, HR5, HB5⟩
                  case measure => simp [intOf]; omega
          · have HLE := hide (fun W (h1 : NS W pa na c) (h2 : NS W pb nb c') => lessR_any r s pa na ca pe ne ce r' s' pb nb cb pf nf cf c c' fs fs' W h1 h2 true hlv.symm)
            have HJ2 : Hid (∀ y ∈ ys.drop q, ltP ((r, s, (pa, na, ca), (pe, ne, ce)), ((r, s), c, fs)) y = true) := by
              intro y hy
              obtain ⟨hh, hh2⟩ := List.getElem?_eq_some_iff.1 HY.out
              rw [List.drop_eq_getElem_cons hh, show q + 1 = j by omega] at hy
              rcases List.mem_cons.1 hy with q6 | q6
              · rw [q6, hh2]; exact (show ltE ((r, s), c, fs) ((r', s'), c', fs') = true from hlv)
              · exact HJ.out y q6
            clear hlv
            go_wp2
            refine wp_region_held_drew (S := fun W => Below wr.heap.size wr W) (by kernel_rfl) ((Below.refl _ wr).drew) (fun hS0 => ?_)
            refine takeInH 0 16 ?v1 rfl rfl (by kernel_rfl) (by kernel_rfl) (by kernel_rfl) (fun _ _ _ h => h) (by kernel_rfl) hS0 ?hy1 ?_
            case hy1 => (intro W hW; clear hW; go_simp; try rfl)
            simp only [Act.put, List.setIfInBounds_toArray, List.set_cons_zero, List.set_cons_succ]
            refine takeInH 1 17 ?v2 rfl rfl (by kernel_rfl) (by kernel_rfl) (by kernel_rfl) (fun _ _ _ h => h) (by kernel_rfl) hS0 ?hy2 ?_
            case hy2 => (intro W hW; clear hW; go_simp; try rfl)
            simp only [Act.put, List.setIfInBounds_toArray, List.set_cons_zero, List.set_cons_succ]
            refine takeInH 2 18 ?v3 rfl rfl (by kernel_rfl) (by kernel_rfl) (by kernel_rfl) (fun _ _ _ h => h) (by kernel_rfl) hS0 ?hy3 ?_
            case hy3 => (intro W hW; clear hW; go_simp; try rfl)
            simp only [Act.put, List.setIfInBounds_toArray, List.set_cons_zero, List.set_cons_succ]
            refine takeInH 3 19 ?v4 rfl rfl (by kernel_rfl) (by kernel_rfl) (by kernel_rfl) (fun _ _ _ h => h) (by kernel_rfl) hS0 ?hy4 ?_
            case hy4 => (intro W hW; clear hW; go_simp; try rfl)
            simp only [Act.put, List.setIfInBounds_toArray, List.set_cons_zero, List.set_cons_succ]
            refine takeInH 4 20 ?v5 rfl rfl (by kernel_rfl) (by kernel_rfl) (by kernel_rfl) (fun _ _ _ h => h) (by kernel_rfl) hS0 ?hy5 ?_
            case hy5 => (intro W hW; clear hW; go_simp; try rfl)
            simp only [Act.put, List.setIfInBounds_toArray, List.set_cons_zero, List.set_cons_succ]
            refine takeInH 5 21 ?v6 rfl rfl (by kernel_rfl) (by kernel_rfl) (by kernel_rfl) (fun _ _ _ h => h) (by kernel_rfl) hS0 ?hy6 ?_
            case hy6 => (intro W hW; clear hW; go_simp; try rfl)
            simp only [Act.put, List.setIfInBounds_toArray, List.set_cons_zero, List.set_cons_succ]
            refine takeInH 6 22 ?v7 rfl rfl (by kernel_rfl) (by kernel_rfl) (by kernel_rfl) (fun _ _ _ h => h) (by kernel_rfl) hS0 ?hy7 ?_
            case hy7 => (intro W hW; have e0 := bcell hW x0; have e1 := bcell hW x1; have e2 := bcell hW x2; have e3 := bcell hW x3; have e4 := bcell hW y0; have e5 := bcell hW y1; have e6 := bcell hW y2; have e7 := bcell hW y3; clear hW; go_simp; try rfl)
            simp only [Act.put, List.setIfInBounds_toArray, List.set_cons_zero, List.set_cons_succ]
            refine takeInH 7 23 ?v8 rfl rfl (by kernel_rfl) (by kernel_rfl) (by kernel_rfl) (fun _ _ _ h => h) (by kernel_rfl) hS0 ?hy8 ?_
            case hy8 => (intro W hW; clear hW; go_simp; try rfl)
            simp only [Act.put, List.setIfInBounds_toArray, List.set_cons_zero, List.set_cons_succ]
            refine takeInH 8 24 ?v9 rfl rfl (by kernel_rfl) (by kernel_rfl) (by kernel_rfl) (fun _ _ _ h => h) (by kernel_rfl) hS0 ?hy9 ?_
            case hy9 => (intro W hW; clear hW; go_simp; try rfl)
            simp only [Act.put, List.setIfInBounds_toArray, List.set_cons_zero, List.set_cons_succ]
            refine takeInH 9 25 ?v10 rfl rfl (by kernel_rfl) (by kernel_rfl) (by kernel_rfl) (fun _ _ _ h => h) (by kernel_rfl) hS0 ?hy10 ?_
            case hy10 => (intro W hW; clear hW; go_simp; try rfl)
            simp only [Act.put, List.setIfInBounds_toArray, List.set_cons_zero, List.set_cons_succ]
            refine takeInH 10 26 ?v11 rfl rfl (by kernel_rfl) (by kernel_rfl) (by kernel_rfl) (fun _ _ _ h => h) (by kernel_rfl) hS0 ?hy11 ?_
            case hy11 => (intro W hW; clear hW; go_simp; try rfl)
            simp only [Act.put, List.setIfInBounds_toArray, List.set_cons_zero, List.set_cons_succ]
            refine takeInH 11 27 ?v12 rfl rfl (by kernel_rfl) (by kernel_rfl) (by kernel_rfl) (fun _ _ _ h => h) (by kernel_rfl) hS0 ?hy12 ?_
            case hy12 => (intro W hW; have e0 := bcell hW x0; have e1 := bcell hW x1; have e2 := bcell hW x2; have e3 := bcell hW x3; have e4 := bcell hW y0; have e5 := bcell hW y1; have e6 := bcell hW y2; have e7 := bcell hW y3; clear hW; go_simp; try rfl)
            simp only [Act.put, List.setIfInBounds_toArray, List.set_cons_zero, List.set_cons_succ]
            refine wpAnyH_ready (rs := [12]) (by kernel_rfl) (by simp) ?_
            refine AllReadyH.cons rfl (fun K hK => ?_) AllReadyH.nil
            go_simp
            refine (HLE.out _ (NX.out.below hS0) (NY.out.below hS0)).mono ?_
            rintro e w' ⟨rfl, hb⟩
            try go_wp2_with fail
            refine hK.out _ _ ?hs13 (fun hS1 => ?_)
            case hs13 => exact bel_next hS0 hb
            clear hK K
            try simp only [Act.put, List.setIfInBounds_toArray, List.set_cons_zero, List.set_cons_succ]
            refine takeInH 13 29 ?v14 rfl rfl (by kernel_rfl) (by kernel_rfl) (by kernel_rfl) (fun _ _ _ h => h) (by kernel_rfl) hS1 ?hy14 ?_
            case hy14 => (intro W hW; clear hW; go_simp; try rfl)
            simp only [Act.put, List.setIfInBounds_toArray, List.set_cons_zero, List.set_cons_succ]
            refine wpAnyH_done (by kernel_rfl) ?_ _
            go_wp2
            go_roundw
            case rel => exact ⟨q, by omega, rfl, HJ2, (show Hid _ from bel_next hB2.out hS1)⟩
            case measure => simp [intOf]; omega
        · have hj1 : ¬ (0 : Int) < (j : Int) := by omega
          have hj2 : decide ((j : Int) > 0) = false := decide_eq_false (by omega)
          have HSTOP : Hid (j = 0 ∨ ∃ y, ys[j - 1]? = some y ∧ ltP ((r, s, (pa, na, ca), (pe, ne, ce)), ((r, s), c, fs)) y = false) := .inl (by omega)
          go_wp2
          refine wp_region_held_drew (S := fun W => Below wr.heap.size wr W) (by kernel_rfl) ((Below.refl _ wr).drew) (fun hS0 => ?_)
          refine takeInH 0 16 ?v68 rfl rfl (by kernel_rfl) (by kernel_rfl) (by kernel_rfl) (fun _ _ _ h => h) (by kernel_rfl) hS0 ?hy68 ?_
          case hy68 => (intro W hW; clear hW; go_simp; try rfl)
          simp only [Act.put, List.setIfInBounds_toArray, List.set_cons_zero, List.set_cons_succ]
          refine takeInH 1 17 ?v69 rfl rfl (by kernel_rfl) (by kernel_rfl) (by kernel_rfl) (fun _ _ _ h => h) (by kernel_rfl) hS0 ?hy69 ?_
          case hy69 => (intro W hW; clear hW; go_simp; try rfl)
          simp only [Act.put, List.setIfInBounds_toArray, List.set_cons_zero, List.set_cons_succ]
          refine takeInH 2 18 ?v70 rfl rfl (by kernel_rfl) (by kernel_rfl) (by kernel_rfl) (fun _ _ _ h => h) (by kernel_rfl) hS0 ?hy70 ?_
          case hy70 => (intro W hW; clear hW; go_simp; try rfl)
          simp only [Act.put, List.setIfInBounds_toArray, List.set_cons_zero, List.set_cons_succ]
          refine takeNoH 3 19 rfl rfl (by kernel_rfl) (by kernel_rfl) (by kernel_rfl) (fun _ _ _ h => h) (by kernel_rfl) hS0 ?_
          simp only [Act.put, List.setIfInBounds_toArray, List.set_cons_zero, List.set_cons_succ]
          refine takeNoH 4 20 rfl rfl (by kernel_rfl) (by kernel_rfl) (by kernel_rfl) (fun _ _ _ h => h) (by kernel_rfl) hS0 ?_
          simp only [Act.put, List.setIfInBounds_toArray, List.set_cons_zero, List.set_cons_succ]
          refine takeNoH 5 21 rfl rfl (by kernel_rfl) (by kernel_rfl) (by kernel_rfl) (fun _ _ _ h => h) (by kernel_rfl) hS0 ?_
          simp only [Act.put, List.setIfInBounds_toArray, List.set_cons_zero, List.set_cons_succ]
          refine takeNoH 6 22 rfl rfl (by kernel_rfl) (by kernel_rfl) (by kernel_rfl) (fun _ _ _ h => h) (by kernel_rfl) hS0 ?_
          simp only [Act.put, List.setIfInBounds_toArray, List.set_cons_zero, List.set_cons_succ]
          refine takeNoH 7 23 rfl rfl (by kernel_rfl) (by kernel_rfl) (by kernel_rfl) (fun _ _ _ h => h) (by kernel_rfl) hS0 ?_
          simp only [Act.put, List.setIfInBounds_toArray, List.set_cons_zero, List.set_cons_succ]
          refine takeNoH 8 24 rfl rfl (by kernel_rfl) (by kernel_rfl) (by kernel_rfl) (fun _ _ _ h => h) (by kernel_rfl) hS0 ?_
          simp only [Act.put, List.setIfInBounds_toArray, List.set_cons_zero, List.set_cons_succ]
          refine takeNoH 9 25 rfl rfl (by kernel_rfl) (by kernel_rfl) (by kernel_rfl) (fun _ _ _ h => h) (by kernel_rfl) hS0 ?_
          simp only [Act.put, List.setIfInBounds_toArray, List.set_cons_zero, List.set_cons_succ]
          refine takeNoH 10 26 rfl rfl (by kernel_rfl) (by kernel_rfl) (by kernel_rfl) (fun _ _ _ h => h) (by kernel_rfl) hS0 ?_
          simp only [Act.put, List.setIfInBounds_toArray, List.set_cons_zero, List.set_cons_succ]
          refine takeNoH 11 27 rfl rfl (by kernel_rfl) (by kernel_rfl) (by kernel_rfl) (fun _ _ _ h => h) (by kernel_rfl) hS0 ?_
          simp only [Act.put, List.setIfInBounds_toArray, List.set_cons_zero, List.set_cons_succ]
          refine takeNoH 12 28 rfl rfl (by kernel_rfl) (by kernel_rfl) (by kernel_rfl) (fun _ _ _ h => h) (by kernel_rfl) hS0 ?_
          simp only [Act.put, List.setIfInBounds_toArray, List.set_cons_zero, List.set_cons_succ]
          refine takeInH 13 29 ?v71 rfl rfl (by kernel_rfl) (by kernel_rfl) (by kernel_rfl) (fun _ _ _ h => h) (by kernel_rfl) hS0 ?hy71 ?_
          case hy71 => (intro W hW; clear hW; go_simp; try rfl)
          simp only [Act.put, List.setIfInBounds_toArray, List.set_cons_zero, List.set_cons_succ]
          refine wpAnyH_done (by kernel_rfl) ?_ _
          replace x0 := bcell hS0 x0
          replace x1 := bcell hS0 x1
          replace x2 := bcell hS0 x2
          replace x3 := bcell hS0 x3
          have hBB := bel_next hB2.out hS0
          have hB3' := bel_next hB.out hBB
          have HLk : Hid ((ys.map Prod.fst).length ≤ 1000 ∧ (ys.map Prod.fst).length = k ∧ j ≤ k ∧ k < n ∧ n ≤ 1000) := by unfold Hid; rw [List.length_map, HYL.out]; exact ⟨by omega, rfl, hj, hlt, hn⟩
          have HPUT : Hid (ys.take j ++ ((r, s, (pa, na, ca), (pe, ne, ce)), ((r, s), c, fs)) :: ys.drop j = srt ltP (ps.take (k + 1))) := by
            unfold Hid
            rw [take_snocA HZ.out, srt_snoc, ← HYS.out]
            exact (put_at (by rw [HYS.out]; exact srt_srt ordP _) _ j (by rw [HYL.out]; exact hj) HJ.out HSTOP.out).symm
          generalize wr.drew = u4 at *
          rcases Nat.lt_or_ge j k with hjk | hjk
          · have hjz : (j : Int) < (k : Int) := by omega
            have hjc : ¬ cp = j := by omega
            have hjc2 : ¬ j = cp := by omega
            have hjcp : j ≤ cp := by omega
            go_wp2_with (at_builtin; refine Stop.at ?_)
            unfold Stop
            refine append_rows (enc := encV) (k := 4) rfl _ _ 30 rfl Try.underlying30 Try.infoEvt rfl (by decide) (by decide) encV_len encV_one u4.heap.size _ [] ((ys.map Prod.fst).drop j) rfl (OwnR.made u4 u4.heap.size _ rfl (Nat.le_refl _)) (some ⟨g, j * 4, none⟩) (k - j) (cp - j) rfl (fun h => by cases h) (((HRS.out.below hBB).tail4 j (by omega)).alloc _) (by have := HLk.out; rw [List.length_drop, List.length_nil]; omega) (by simp) ?_
            intro vr u3 hor _ hbr
            have hB3 := hbr _ (bel1 u4 _)
            rw [List.nil_append] at hor
            obtain ⟨pr, cr, hvr, hdr, hcr⟩ := hor.open encV_len
            obtain ⟨nr, hnr⟩ : ∃ nr, nr = ((ys.map Prod.fst).drop j).length := ⟨_, rfl⟩
            rw [← hnr] at hvr hdr
            subst hvr
            have HDr := hide hdr
            have hpr := hcr.2.2
            replace x0 := bcell hB3 x0
            replace x1 := bcell hB3 x1
            replace x2 := bcell hB3 x2
            replace x3 := bcell hB3 x3
            have HB := hide (bel_next hB3' hB3)
            have HDk := hide ((HRS.out.below (bel_next hBB hB3)).head j (by omega))
            clear hor hbr hB3 hdr hcr hnr
            go_wp2
            refine wp_region_held_drew (S := fun W => Below u3.heap.size u3 W) (by kernel_rfl) ((Below.refl _ u3).drew) (fun hS0 => ?_)
            refine takeInH 0 37 ?v72 rfl rfl (by kernel_rfl) (by kernel_rfl) (by kernel_rfl) (fun _ _ _ h => h) (by kernel_rfl) hS0 ?hy72 ?_
            case hy72 => (intro W hW; clear hW; go_simp; try rfl)
            simp only [Act.put, List.setIfInBounds_toArray, List.set_cons_zero, List.set_cons_succ]
            refine takeInH 1 38 ?v73 rfl rfl (by kernel_rfl) (by kernel_rfl) (by kernel_rfl) (fun _ _ _ h => h) (by kernel_rfl) hS0 ?hy73 ?_
            case hy73 => (intro W hW; clear hW; go_simp; try rfl)
            simp only [Act.put, List.setIfInBounds_toArray, List.set_cons_zero, List.set_cons_succ]
            refine takeInH 2 39 ?v74 rfl rfl (by kernel_rfl) (by kernel_rfl) (by kernel_rfl) (fun _ _ _ h => h) (by kernel_rfl) hS0 ?hy74 ?_
            case hy74 => (intro W hW; clear hW; go_simp; try rfl)
            simp only [Act.put, List.setIfInBounds_toArray, List.set_cons_zero, List.set_cons_succ]
            refine takeInH 3 40 ?v75 rfl rfl (by kernel_rfl) (by kernel_rfl) (by kernel_rfl) (fun _ _ _ h => h) (by kernel_rfl) hS0 ?hy75 ?_
            case hy75 => (intro W hW; clear hW; go_simp; try rfl)
            simp only [Act.put, List.setIfInBounds_toArray, List.set_cons_zero, List.set_cons_succ]
            refine takeInH 4 41 ?v76 rfl rfl (by kernel_rfl) (by kernel_rfl) (by kernel_rfl) (fun _ _ _ h => h) (by kernel_rfl) hS0 ?hy76 ?_
            case hy76 => (intro W hW; clear hW; go_simp; try rfl)
            simp only [Act.put, List.setIfInBounds_toArray, List.set_cons_zero, List.set_cons_succ]
            refine takeInH 5 42 ?v77 rfl rfl (by kernel_rfl) (by kernel_rfl) (by kernel_rfl) (fun _ _ _ h => h) (by kernel_rfl) hS0 ?hy77 ?_
            case hy77 => (intro W hW; clear hW; go_simp; try rfl)
            simp only [Act.put, List.setIfInBounds_toArray, List.set_cons_zero, List.set_cons_succ]
            refine takeInH 6 43 ?v78 rfl rfl (by kernel_rfl) (by kernel_rfl) (by kernel_rfl) (fun _ _ _ h => h) (by kernel_rfl) hS0 ?hy78 ?_
            case hy78 => (intro W hW; clear hW; go_simp; try rfl)
            simp only [Act.put, List.setIfInBounds_toArray, List.set_cons_zero, List.set_cons_succ]
            refine takeInH 7 44 ?v79 rfl rfl (by kernel_rfl) (by kernel_rfl) (by kernel_rfl) (fun _ _ _ h => h) (by kernel_rfl) hS0 ?hy79 ?_
            case hy79 => (intro W hW; have e0 := bcell hW x0; have e1 := bcell hW x1; have e2 := bcell hW x2; have e3 := bcell hW x3; clear hW; go_simp; try rfl)
            simp only [Act.put, List.setIfInBounds_toArray, List.set_cons_zero, List.set_cons_succ]
            refine takeInH 10 47 ?v80 rfl rfl (by kernel_rfl) (by kernel_rfl) (by kernel_rfl) (fun _ _ _ h => h) (by kernel_rfl) hS0 ?hy80 ?_
            case hy80 => (intro W hW; clear hW; go_simp; try rfl)
            simp only [Act.put, List.setIfInBounds_toArray, List.set_cons_zero, List.set_cons_succ]
            refine wpAnyH_ready (rs := [8]) (by kernel_rfl) (by simp) ?_
            refine AllReadyH.cons rfl (fun K hK => ?_) AllReadyH.nil
            go_simp
            have b0 := RS.new (enc := encV) (k := 4) encV_len u3 u3.heap.size rfl [(r, s, (pa, na, ca), (pe, ne, ce))] #[.int .i64 r, .int .i64 s, .slice pa na ca, .slice pe ne ce] rfl 28 (0, 0) 1 rfl (by decide)
            have hSn : Below u3.heap.size u3 (u3.alloc (.cells #[.int .i64 r, .int .i64 s, .slice pa na ca, .slice pe ne ce] 28)).drew := ((Below.refl _ u3).alloc (Nat.le_refl _) _).drew
            have b1 : RS encV 4 (u3.alloc (.cells #[.int .i64 r, .int .i64 s, .slice pa na ca, .slice pe ne ce] 28)).drew (some ⟨u3.heap.size, 0, none⟩) 1 [(r, s, (pa, na, ca), (pe, ne, ce))] := b0
            clear b0
            generalize (u3.alloc (.cells #[.int .i64 r, .int .i64 s, .slice pa na ca, .slice pe ne ce] 28)).drew = W1 at *
            refine hK.out _ _ ?hs81 (fun hS1 => ?_)
            case hs81 => exact hSn
            clear hK K
            try simp only [Act.put, List.setIfInBounds_toArray, List.set_cons_zero, List.set_cons_succ]
            refine wpAnyH_ready (rs := [9]) (by kernel_rfl) (by simp) ?_
            refine AllReadyH.cons rfl (fun K hK => ?_) AllReadyH.nil
            rw [if_pos (by kernel_rfl)]
            refine append_evf _ _ rfl g j ((ys.map Prod.fst).take j) [(r, s, (pa, na, ca), (pe, ne, ce))] rfl (HDk.out.below hS1) ⟨u3.heap.size, 0, none⟩ 1 1 rfl b1 (by decide) (by have := HLk.out; rw [List.length_take, List.length_singleton]; omega) ?_
            intro v1 w1 ho1 hb1
            have HO1 := hide (ho1.mono hS1.size)
            have hSk := bel_next hS1 hb1
            clear ho1 hb1 b1
            change K (Act.put _ (some 46) _) _
            refine hK.out _ _ ?hs82 (fun hS2 => ?_)
            case hs82 => exact hSk
            clear hK K
            try simp only [Act.put, List.setIfInBounds_toArray, List.set_cons_zero, List.set_cons_succ]
            refine wpAnyH_ready (rs := [11]) (by kernel_rfl) (by simp) ?_
            refine AllReadyH.cons rfl (fun K hK => ?_) AllReadyH.nil
            rw [if_pos (by kernel_rfl)]
            refine append_evw _ _ rfl u3.heap.size _ ((ys.map Prod.fst).take j ++ [(r, s, (pa, na, ca), (pe, ne, ce))]) ((ys.map Prod.fst).drop j) rfl HO1.out pr nr cr rfl hpr (HDr.out.below hS2) (by have := HLk.out; rw [List.length_append, List.length_take, List.length_drop, List.length_singleton]; omega) hS2.size ?_
            intro v2 w2 ho2 hb2
            have HO2 := hide ho2
            have hSm := hb2 _ hS2
            clear ho2 hb2
            change K (Act.put _ (some 48) _) _
            refine hK.out _ _ ?hs83 (fun hS3 => ?_)
            case hs83 => exact hSm
            clear hK K
            try simp only [Act.put, List.setIfInBounds_toArray, List.set_cons_zero, List.set_cons_succ]
            refine takeInH 12 3 ?v84 rfl rfl (by kernel_rfl) (by kernel_rfl) (by kernel_rfl) (fun _ _ _ h => h) (by kernel_rfl) hS3 ?hy84 ?_
            case hy84 => (intro W hW; clear hW; go_simp; try rfl)
            simp only [Act.put, List.setIfInBounds_toArray, List.set_cons_zero, List.set_cons_succ]
            refine wpAnyH_done (by kernel_rfl) ?_ _
            have HB5 := hide (bel_next HB.out hS3)
            rcases HO2.out.rowE with ⟨hx0, _⟩ | ⟨g5, cap5, hv5, _, _, hc51, hc52, hC5, _, _⟩
            · simp at hx0
            · have HM5 : Hid ((ys.take j ++ ((r, s, (pa, na, ca), (pe, ne, ce)), ((r, s), c, fs)) :: ys.drop j).map Prod.fst = (ys.map Prod.fst).take j ++ [(r, s, (pa, na, ca), (pe, ne, ce))] ++ (ys.map Prod.fst).drop j) := by unfold Hid; simp [List.map_take, List.map_drop]
              have hl5 : ((ys.map Prod.fst).take j ++ [(r, s, (pa, na, ca), (pe, ne, ce))] ++ (ys.map Prod.fst).drop j).length = k + 1 := by
                have := HLk.out
                rw [List.length_append, List.length_append, List.length_take, List.length_drop, List.length_singleton]
                omega
              obtain ⟨p6, c6, hv6, hr6, _⟩ := HO2.out.open encV_len
              rw [hl5] at hv5 hc51 hv6 hr6
              rw [hv5] at hv6
              have hp6 : p6 = some ⟨g5, 0, none⟩ := by cases hv6; rfl
              subst hp6
              subst hv5
              have HR5 : Hid (RS encV 4 w2 (some ⟨g5, 0, none⟩) (k + 1) ((ys.take j ++ ((r, s, (pa, na, ca), (pe, ne, ce)), ((r, s), c, fs)) :: ys.drop j).map Prod.fst)) := by unfold Hid; rw [HM5.out]; exact hr6
              have HC5 : Hid (k + 1 ≤ cap5 ∧ cap5 ≤ maxLen) := ⟨hc51, hc52⟩
              clear hC5 hr6 hv6 hl5 hc51 hc52
              go_wp2
              go_roundw
              case rel => exact ⟨k + 1, g5, cap5, _, by omega, by go_num, by first | rfl | (congr 1; omega), HC5, HPUT, HR5, HB5⟩
              case measure => simp [intOf]; omega
          · have hjk2 : j = k := by omega
            have HDl : Hid ((ys.map Prod.fst).drop j = []) := List.drop_eq_nil_of_le (by have := HLk.out; omega)
            subst hjk2
            by_cases hcj : j = cp
            · subst hcj
              go_wp2_with (at_builtin; refine Stop.at ?_)
              unfold Stop
              refine append_rows (enc := encV) (k := 4) rfl _ _ 30 rfl Try.underlying30 Try.infoEvt rfl (by decide) (by decide) encV_len encV_one u4.heap.size _ [] ((ys.map Prod.fst).drop j) rfl (OwnR.made u4 u4.heap.size _ rfl (Nat.le_refl _)) (some ⟨g, 0, none⟩) _ _ rfl (fun h => by cases h) (RS.none0 _ HDl.out) (by have := HLk.out; rw [List.length_drop, List.length_nil]; omega) (by simp) ?_
              intro vr u3 hor _ hbr
              have hB3 := hbr _ (bel1 u4 _)
              rw [List.nil_append] at hor
              obtain ⟨pr, cr, hvr, hdr, hcr⟩ := hor.open encV_len
              obtain ⟨nr, hnr⟩ : ∃ nr, nr = ((ys.map Prod.fst).drop j).length := ⟨_, rfl⟩
              rw [← hnr] at hvr hdr
              subst hvr
              have HDr := hide hdr
              have hpr := hcr.2.2
              replace x0 := bcell hB3 x0
              replace x1 := bcell hB3 x1
              replace x2 := bcell hB3 x2
              replace x3 := bcell hB3 x3
              have HB := hide (bel_next hB3' hB3)
              have HDk := hide ((HRS.out.below (bel_next hBB hB3)).head j (by omega))
              clear hor hbr hB3 hdr hcr hnr
              go_wp2
              refine wp_region_held_drew (S := fun W => Below u3.heap.size u3 W) (by kernel_rfl) ((Below.refl _ u3).drew) (fun hS0 => ?_)
              refine takeInH 0 37 ?v85 rfl rfl (by kernel_rfl) (by kernel_rfl) (by kernel_rfl) (fun _ _ _ h => h) (by kernel_rfl) hS0 ?hy85 ?_
              case hy85 => (intro W hW; clear hW; go_simp; try rfl)
              simp only [Act.put, List.setIfInBounds_toArray, List.set_cons_zero, List.set_cons_succ]
              refine takeInH 1 38 ?v86 rfl rfl (by kernel_rfl) (by kernel_rfl) (by kernel_rfl) (fun _ _ _ h => h) (by kernel_rfl) hS0 ?hy86 ?_
              case hy86 => (intro W hW; clear hW; go_simp; try rfl)
              simp only [Act.put, List.setIfInBounds_toArray, List.set_cons_zero, List.set_cons_succ]
              refine takeInH 2 39 ?v87 rfl rfl (by kernel_rfl) (by kernel_rfl) (by kernel_rfl) (fun _ _ _ h => h) (by kernel_rfl) hS0 ?hy87 ?_
              case hy87 => (intro W hW; clear hW; go_simp; try rfl)
              simp only [Act.put, List.setIfInBounds_toArray, List.set_cons_zero, List.set_cons_succ]
              refine takeInH 3 40 ?v88 rfl rfl (by kernel_rfl) (by kernel_rfl) (by kernel_rfl) (fun _ _ _ h => h) (by kernel_rfl) hS0 ?hy88 ?_
              case hy88 => (intro W hW; clear hW; go_simp; try rfl)
              simp only [Act.put, List.setIfInBounds_toArray, List.set_cons_zero, List.set_cons_succ]
              refine takeInH 4 41 ?v89 rfl rfl (by kernel_rfl) (by kernel_rfl) (by kernel_rfl) (fun _ _ _ h => h) (by kernel_rfl) hS0 ?hy89 ?_
              case hy89 => (intro W hW; clear hW; go_simp; try rfl)
              simp only [Act.put, List.setIfInBounds_toArray, List.set_cons_zero, List.set_cons_succ]
              refine takeInH 5 42 ?v90 rfl rfl (by kernel_rfl) (by kernel_rfl) (by kernel_rfl) (fun _ _ _ h => h) (by kernel_rfl) hS0 ?hy90 ?_
              case hy90 => (intro W hW; clear hW; go_simp; try rfl)
              simp only [Act.put, List.setIfInBounds_toArray, List.set_cons_zero, List.set_cons_succ]
              refine takeInH 6 43 ?v91 rfl rfl (by kernel_rfl) (by kernel_rfl) (by kernel_rfl) (fun _ _ _ h => h) (by kernel_rfl) hS0 ?hy91 ?_
              case hy91 => (intro W hW; clear hW; go_simp; try rfl)
              simp only [Act.put, List.setIfInBounds_toArray, List.set_cons_zero, List.set_cons_succ]
              refine takeInH 7 44 ?v92 rfl rfl (by kernel_rfl) (by kernel_rfl) (by kernel_rfl) (fun _ _ _ h => h) (by kernel_rfl) hS0 ?hy92 ?_
              case hy92 => (intro W hW; have e0 := bcell hW x0; have e1 := bcell hW x1; have e2 := bcell hW x2; have e3 := bcell hW x3; clear hW; go_simp; try rfl)
              simp only [Act.put, List.setIfInBounds_toArray, List.set_cons_zero, List.set_cons_succ]
              refine takeInH 10 47 ?v93 rfl rfl (by kernel_rfl) (by kernel_rfl) (by kernel_rfl) (fun _ _ _ h => h) (by kernel_rfl) hS0 ?hy93 ?_
              case hy93 => (intro W hW; clear hW; go_simp; try rfl)
              simp only [Act.put, List.setIfInBounds_toArray, List.set_cons_zero, List.set_cons_succ]
              refine wpAnyH_ready (rs := [8]) (by kernel_rfl) (by simp) ?_
              refine AllReadyH.cons rfl (fun K hK => ?_) AllReadyH.nil
              go_simp
              have b0 := RS.new (enc := encV) (k := 4) encV_len u3 u3.heap.size rfl [(r, s, (pa, na, ca), (pe, ne, ce))] #[.int .i64 r, .int .i64 s, .slice pa na ca, .slice pe ne ce] rfl 28 (0, 0) 1 rfl (by decide)
              have hSn : Below u3.heap.size u3 (u3.alloc (.cells #[.int .i64 r, .int .i64 s, .slice pa na ca, .slice pe ne ce] 28)).drew := ((Below.refl _ u3).alloc (Nat.le_refl _) _).drew
              have b1 : RS encV 4 (u3.alloc (.cells #[.int .i64 r, .int .i64 s, .slice pa na ca, .slice pe ne ce] 28)).drew (some ⟨u3.heap.size, 0, none⟩) 1 [(r, s, (pa, na, ca), (pe, ne, ce))] := b0
              clear b0
              generalize (u3.alloc (.cells #[.int .i64 r, .int .i64 s, .slice pa na ca, .slice pe ne ce] 28)).drew = W1 at *
              refine hK.out _ _ ?hs94 (fun hS1 => ?_)
              case hs94 => exact hSn
              clear hK K
              try simp only [Act.put, List.setIfInBounds_toArray, List.set_cons_zero, List.set_cons_succ]
              refine wpAnyH_ready (rs := [9]) (by kernel_rfl) (by simp) ?_
              refine AllReadyH.cons rfl (fun K hK => ?_) AllReadyH.nil
              rw [if_pos (by kernel_rfl)]
              refine append_evf _ _ rfl g j ((ys.map Prod.fst).take j) [(r, s, (pa, na, ca), (pe, ne, ce))] rfl (HDk.out.below hS1) ⟨u3.heap.size, 0, none⟩ 1 1 rfl b1 (by decide) (by have := HLk.out; rw [List.length_take, List.length_singleton]; omega) ?_
              intro v1 w1 ho1 hb1
              have HO1 := hide (ho1.mono hS1.size)
              have hSk := bel_next hS1 hb1
              clear ho1 hb1 b1
              change K (Act.put _ (some 46) _) _
              refine hK.out _ _ ?hs95 (fun hS2 => ?_)
              case hs95 => exact hSk
              clear hK K
              try simp only [Act.put, List.setIfInBounds_toArray, List.set_cons_zero, List.set_cons_succ]
              refine wpAnyH_ready (rs := [11]) (by kernel_rfl) (by simp) ?_
              refine AllReadyH.cons rfl (fun K hK => ?_) AllReadyH.nil
              rw [if_pos (by kernel_rfl)]
              refine append_evw _ _ rfl u3.heap.size _ ((ys.map Prod.fst).take j ++ [(r, s, (pa, na, ca), (pe, ne, ce))]) ((ys.map Prod.fst).drop j) rfl HO1.out pr nr cr rfl hpr (HDr.out.below hS2) (by have := HLk.out; rw [List.length_append, List.length_take, List.length_drop, List.length_singleton]; omega) hS2.size ?_
              intro v2 w2 ho2 hb2
              have HO2 := hide ho2
              have hSm := hb2 _ hS2
              clear ho2 hb2
              change K (Act.put _ (some 48) _) _
              refine hK.out _ _ ?hs96 (fun hS3 => ?_)
              case hs96 => exact hSm
              clear hK K
              try simp only [Act.put, List.setIfInBounds_toArray, List.set_cons_zero, List.set_cons_succ]
              refine takeInH 12 3 ?v97 rfl rfl (by kernel_rfl) (by kernel_rfl) (by kernel_rfl) (fun _ _ _ h => h) (by kernel_rfl) hS3 ?hy97 ?_
              case hy97 => (intro W hW; clear hW; go_simp; try rfl)
              simp only [Act.put, List.setIfInBounds_toArray, List.set_cons_zero, List.set_cons_succ]
              refine wpAnyH_done (by kernel_rfl) ?_ _
              have HB5 := hide (bel_next HB.out hS3)
              rcases HO2.out.rowE with ⟨hx0, _⟩ | ⟨g5, cap5, hv5, _, _, hc51, hc52, hC5, _, _⟩
              · simp at hx0
              · have HM5 : Hid ((ys.take j ++ ((r, s, (pa, na, ca), (pe, ne, ce)), ((r, s), c, fs)) :: ys.drop j).map Prod.fst = (ys.map Prod.fst).take j ++ [(r, s, (pa, na, ca), (pe, ne, ce))] ++ (ys.map Prod.fst).drop j) := by unfold Hid; simp [List.map_take, List.map_drop]
                have hl5 : ((ys.map Prod.fst).take j ++ [(r, s, (pa, na, ca), (pe, ne, ce))] ++ (ys.map Prod.fst).drop j).length = j + 1 := by
                  have := HLk.out
                  rw [List.length_append, List.length_append, List.length_take, List.length_drop, List.length_singleton]
                  omega
                obtain ⟨p6, c6, hv6, hr6, _⟩ := HO2.out.open encV_len
                rw [hl5] at hv5 hc51 hv6 hr6
                rw [hv5] at hv6
                have hp6 : p6 = some ⟨g5, 0, none⟩ := by cases hv6; rfl
                subst hp6
                subst hv5
                have HR5 : Hid (RS encV 4 w2 (some ⟨g5, 0, none⟩) (j + 1) ((ys.take j ++ ((r, s, (pa, na, ca), (pe, ne, ce)), ((r, s), c, fs)) :: ys.drop j).map Prod.fst)) := by unfold Hid; rw [HM5.out]; exact hr6
                have HC5 : Hid (j + 1 ≤ cap5 ∧ cap5 ≤ maxLen) := ⟨hc51, hc52⟩
                clear hC5 hr6 hv6 hl5 hc51 hc52
                go_wp2
                go_roundw
                case rel => exact ⟨j + 1, g5, cap5, _, by omega, by go_num, by first | rfl | (congr 1; omega), HC5, HPUT, HR5, HB5⟩
                case measure => simp [intOf]; omega
            · have hjc : ¬ cp = j := by omega
              have hjcp : j ≤ cp := by omega
              go_wp2_with (at_builtin; refine Stop.at ?_)
              unfold Stop
              refine append_rows (enc := encV) (k := 4) rfl _ _ 30 rfl Try.underlying30 Try.infoEvt rfl (by decide) (by decide) encV_len encV_one u4.heap.size _ [] ((ys.map Prod.fst).drop j) rfl (OwnR.made u4 u4.heap.size _ rfl (Nat.le_refl _)) (some ⟨g, j * 4, none⟩) _ _ rfl (fun h => by cases h) (RS.none0 _ HDl.out) (by have := HLk.out; rw [List.length_drop, List.length_nil]; omega) (by simp) ?_
              intro vr u3 hor _ hbr
              have hB3 := hbr _ (bel1 u4 _)
              rw [List.nil_append] at hor
              obtain ⟨pr, cr, hvr, hdr, hcr⟩ := hor.open encV_len
              obtain ⟨nr, hnr⟩ : ∃ nr, nr = ((ys.map Prod.fst).drop j).length := ⟨_, rfl⟩
              rw [← hnr] at hvr hdr
              subst hvr
              have HDr := hide hdr
              have hpr := hcr.2.2
              replace x0 := bcell hB3 x0
              replace x1 := bcell hB3 x1
              replace x2 := bcell hB3 x2
              replace x3 := bcell hB3 x3
              have HB := hide (bel_next hB3' hB3)
              have HDk := hide ((HRS.out.below (bel_next hBB hB3)).head j (by omega))
              clear hor hbr hB3 hdr hcr hnr
              go_wp2
              refine wp_region_held_drew (S := fun W => Below u3.heap.size u3 W) (by kernel_rfl) ((Below.refl _ u3).drew) (fun hS0 => ?_)
              refine takeInH 0 37 ?v98 rfl rfl (by kernel_rfl) (by kernel_rfl) (by kernel_rfl) (fun _ _ _ h => h) (by kernel_rfl) hS0 ?hy98 ?_
              case hy98 => (intro W hW; clear hW; go_simp; try rfl)
              simp only [Act.put, List.setIfInBounds_toArray, List.set_cons_zero, List.set_cons_succ]
              refine takeInH 1 38 ?v99 rfl rfl (by kernel_rfl) (by kernel_rfl) (by kernel_rfl) (fun _ _ _ h => h) (by kernel_rfl) hS0 ?hy99 ?_
              case hy99 => (intro W hW; clear hW; go_simp; try rfl)
              simp only [Act.put, List.setIfInBounds_toArray, List.set_cons_zero, List.set_cons_succ]
              refine takeInH 2 39 ?v100 rfl rfl (by kernel_rfl) (by kernel_rfl) (by kernel_rfl) (fun _ _ _ h => h) (by kernel_rfl) hS0 ?hy100 ?_
              case hy100 => (intro W hW; clear hW; go_simp; try rfl)
              simp only [Act.put, List.setIfInBounds_toArray, List.set_cons_zero, List.set_cons_succ]
              refine takeInH 3 40 ?v101 rfl rfl (by kernel_rfl) (by kernel_rfl) (by kernel_rfl) (fun _ _ _ h => h) (by kernel_rfl) hS0 ?hy101 ?_
              case hy101 => (intro W hW; clear hW; go_simp; try rfl)
              simp only [Act.put, List.setIfInBounds_toArray, List.set_cons_zero, List.set_cons_succ]
              refine takeInH 4 41 ?v102 rfl rfl (by kernel_rfl) (by kernel_rfl) (by kernel_rfl) (fun _ _ _ h => h) (by kernel_rfl) hS0 ?hy102 ?_
              case hy102 => (intro W hW; clear hW; go_simp; try rfl)
              simp only [Act.put, List.setIfInBounds_toArray, List.set_cons_zero, List.set_cons_succ]
              refine takeInH 5 42 ?v103 rfl rfl (by kernel_rfl) (by kernel_rfl) (by kernel_rfl) (fun _ _ _ h => h) (by kernel_rfl) hS0 ?hy103 ?_
              case hy103 => (intro W hW; clear hW; go_simp; try rfl)
              simp only [Act.put, List.setIfInBounds_toArray, List.set_cons_zero, List.set_cons_succ]
              refine takeInH 6 43 ?v104 rfl rfl (by kernel_rfl) (by kernel_rfl) (by kernel_rfl) (fun _ _ _ h => h) (by kernel_rfl) hS0 ?hy104 ?_
              case hy104 => (intro W hW; clear hW; go_simp; try rfl)
              simp only [Act.put, List.setIfInBounds_toArray, List.set_cons_zero, List.set_cons_succ]
              refine takeInH 7 44 ?v105 rfl rfl (by kernel_rfl) (by kernel_rfl) (by kernel_rfl) (fun _ _ _ h => h) (by kernel_rfl) hS0 ?hy105 ?_
              case hy105 => (intro W hW; have e0 := bcell hW x0; have e1 := bcell hW x1; have e2 := bcell hW x2; have e3 := bcell hW x3; clear hW; go_simp; try rfl)
              simp only [Act.put, List.setIfInBounds_toArray, List.set_cons_zero, List.set_cons_succ]
              refine takeInH 10 47 ?v106 rfl rfl (by kernel_rfl) (by kernel_rfl) (by kernel_rfl) (fun _ _ _ h => h) (by kernel_rfl) hS0 ?hy106 ?_
              case hy106 => (intro W hW; clear hW; go_simp; try rfl)
              simp only [Act.put, List.setIfInBounds_toArray, List.set_cons_zero, List.set_cons_succ]
              refine wpAnyH_ready (rs := [8]) (by kernel_rfl) (by simp) ?_
              refine AllReadyH.cons rfl (fun K hK => ?_) AllReadyH.nil
              go_simp
              have b0 := RS.new (enc := encV) (k := 4) encV_len u3 u3.heap.size rfl [(r, s, (pa, na, ca), (pe, ne, ce))] #[.int .i64 r, .int .i64 s, .slice pa na ca, .slice pe ne ce] rfl 28 (0, 0) 1 rfl (by decide)
              have hSn : Below u3.heap.size u3 (u3.alloc (.cells #[.int .i64 r, .int .i64 s, .slice pa na ca, .slice pe ne ce] 28)).drew := ((Below.refl _ u3).alloc (Nat.le_refl _) _).drew
              have b1 : RS encV 4 (u3.alloc (.cells #[.int .i64 r, .int .i64 s, .slice pa na ca, .slice pe ne ce] 28)).drew (some ⟨u3.heap.size, 0, none⟩) 1 [(r, s, (pa, na, ca), (pe, ne, ce))] := b0
              clear b0
              generalize (u3.alloc (.cells #[.int .i64 r, .int .i64 s, .slice pa na ca, .slice pe ne ce] 28)).drew = W1 at *
              refine hK.out _ _ ?hs107 (fun hS1 => ?_)
              case hs107 => exact hSn
              clear hK K
              try simp only [Act.put, List.setIfInBounds_toArray, List.set_cons_zero, List.set_cons_succ]
              refine wpAnyH_ready (rs := [9]) (by kernel_rfl) (by simp) ?_
              refine AllReadyH.cons rfl (fun K hK => ?_) AllReadyH.nil
              rw [if_pos (by kernel_rfl)]
              refine append_evf _ _ rfl g j ((ys.map Prod.fst).take j) [(r, s, (pa, na, ca), (pe, ne, ce))] rfl (HDk.out.below hS1) ⟨u3.heap.size, 0, none⟩ 1 1 rfl b1 (by decide) (by have := HLk.out; rw [List.length_take, List.length_singleton]; omega) ?_
              intro v1 w1 ho1 hb1
              have HO1 := hide (ho1.mono hS1.size)
              have hSk := bel_next hS1 hb1
              clear ho1 hb1 b1
              change K (Act.put _ (some 46) _) _
              refine hK.out _ _ ?hs108 (fun hS2 => ?_)
              case hs108 => exact hSk
              clear hK K
              try simp only [Act.put, List.setIfInBounds_toArray, List.set_cons_zero, List.set_cons_succ]
              refine wpAnyH_ready (rs := [11]) (by kernel_rfl) (by simp) ?_
              refine AllReadyH.cons rfl (fun K hK => ?_) AllReadyH.nil
              rw [if_pos (by kernel_rfl)]
              refine append_evw _ _ rfl u3.heap.size _ ((ys.map Prod.fst).take j ++ [(r, s, (pa, na, ca), (pe, ne, ce))]) ((ys.map Prod.fst).drop j) rfl HO1.out pr nr cr rfl hpr (HDr.out.below hS2) (by have := HLk.out; rw [List.length_append, List.length_take, List.length_drop, List.length_singleton]; omega) hS2.size ?_
              intro v2 w2 ho2 hb2
              have HO2 := hide ho2
              have hSm := hb2 _ hS2
              clear ho2 hb2
              change K (Act.put _ (some 48) _) _
              refine hK.out _ _ ?hs109 (fun hS3 => ?_)
              case hs109 => exact hSm
              clear hK K
              try simp only [Act.put, List.setIfInBounds_toArray, List.set_cons_zero, List.set_cons_succ]
              refine takeInH 12 3 ?v110 rfl rfl (by kernel_rfl) (by kernel_rfl) (by kernel_rfl) (fun _ _ _ h => h) (by kernel_rfl) hS3 ?hy110 ?_
              case hy110 => (intro W hW; clear hW; go_simp; try rfl)
              simp only [Act.put, List.setIfInBounds_toArray, List.set_cons_zero, List.set_cons_succ]
              refine wpAnyH_done (by kernel_rfl) ?_ _
              have HB5 := hide (bel_next HB.out hS3)
              rcases HO2.out.rowE with ⟨hx0, _⟩ | ⟨g5, cap5, hv5, _, _, hc51, hc52, hC5, _, _⟩
              · simp at hx0
              · have HM5 : Hid ((ys.take j ++ ((r, s, (pa, na, ca), (pe, ne, ce)), ((r, s), c, fs)) :: ys.drop j).map Prod.fst = (ys.map Prod.fst).take j ++ [(r, s, (pa, na, ca), (pe, ne, ce))] ++ (ys.map Prod.fst).drop j) := by unfold Hid; simp [List.map_take, List.map_drop]
                have hl5 : ((ys.map Prod.fst).take j ++ [(r, s, (pa, na, ca), (pe, ne, ce))] ++ (ys.map Prod.fst).drop j).length = j + 1 := by
                  have := HLk.out
                  rw [List.length_append, List.length_append, List.length_take, List.length_drop, List.length_singleton]
                  omega
                obtain ⟨p6, c6, hv6, hr6, _⟩ := HO2.out.open encV_len
                rw [hl5] at hv5 hc51 hv6 hr6
                rw [hv5] at hv6
                have hp6 : p6 = some ⟨g5, 0, none⟩ := by cases hv6; rfl
                subst hp6
                subst hv5
                have HR5 : Hid (RS encV 4 w2 (some ⟨g5, 0, none⟩) (j + 1) ((ys.take j ++ ((r, s, (pa, na, ca), (pe, ne, ce)), ((r, s), c, fs)) :: ys.drop j).map Prod.fst)) := by unfold Hid; rw [HM5.out]; exact hr6
                have HC5 : Hid (j + 1 ≤ cap5 ∧ cap5 ≤ maxLen) := ⟨hc51, hc52⟩
                clear hC5 hr6 hv6 hl5 hc51 hc52
                go_wp2
                go_roundw
                case rel => exact ⟨j + 1, g5, cap5, _, by omega, by go_num, by first | rfl | (congr 1; omega), HC5, HPUT, HR5, HB5⟩
                case measure => simp [intOf]; omega
    · have hkn : k = n := by omega
      have hkz : ¬ (k : Int) < (n : Int) := by omega
      have HEV : Hid (EVS wr (some ⟨g, 0, none⟩) n (srt ltE es)) := by
        refine ⟨ys.map Prod.fst, by rw [← hkn]; exact HRS.out, ?_, fun i x e hx he => ?_⟩
        · rw [srt_len ordE, ← HSND.out, List.length_map, HPL.out]
        · have hy2 : ys.map Prod.snd = srt ltE es := by
            rw [HYS.out, hkn, List.take_of_length_le (by rw [HPL.out]; exact Nat.le_refl _), srt_map (lt := ltP) (lt' := ltE) Prod.snd (fun _ _ => rfl), HSND.out]
          rw [← hy2, List.getElem?_map] at he
          rw [List.getElem?_map] at hx
          obtain ⟨y, hy, rfl⟩ := Option.map_eq_some_iff.1 hx
          rw [hy] at he
          have he2 : y.2 = e := by simpa using he
          subst he2
          have hm := List.mem_of_getElem? hy
          rw [HYS.out] at hm
          exact (HREL.out y (List.mem_of_mem_take ((srt_mem ordP _ _).1 hm))).below hB.out
      have hkn2 := hide hkn
      clear hkn
      go_wp2
      go_ret
      exact ⟨some ⟨g, 0, none⟩, ⟨cp, by rw [← hkn2.out]; rfl⟩, HEV.out, hB.out⟩
end Go.Proofs.Ytooggheoaglbeaa

/- Whether all that is ahead is there, in plain mathematics: by counts, and by looking for each dot. -/
namespace Go.Proofs.Ytooggheoaglbeaa
open Go.RowKit
set_option linter.unusedVariables false

section
variable {α : Type} [DecidableEq α]
/-- No more of them than of those among which they are. -/
theorem nd_le : ∀ (A B : List α), A.Nodup → (∀ x ∈ A, x ∈ B) → A.length ≤ B.length
  | [], B, _, _ => Nat.zero_le _
  | a :: A, B, hn, hs => by
    have h1 := List.nodup_cons.1 hn
    have ha : a ∈ B := hs a (by simp)
    have h2 := nd_le A (B.erase a) h1.2 (fun x hx => (List.mem_erase_of_ne (fun e => h1.1 (by rw [← e]; exact hx))).2 (hs x (by simp [hx])))
    rw [List.length_erase_of_mem ha] at h2
    have h3 := List.length_pos_of_mem ha
    simp only [List.length_cons]
    omega
/-- As many of them as there are: then all are there. -/
theorem nd_all {A B : List α} (hn : A.Nodup) (hs : ∀ x ∈ A, x ∈ B) (hl : B.length ≤ A.length) : ∀ y ∈ B, y ∈ A := by
  intro y hy
  by_cases h : y ∈ A
  · exact h
  · exfalso
    have h2 := nd_le A (B.erase y) hn (fun x hx => (List.mem_erase_of_ne (fun e => h (by rw [← e]; exact hx))).2 (hs x hx))
    rw [List.length_erase_of_mem hy] at h2
    have h3 := List.length_pos_of_mem hy
    omega
/-- One that stands once more would leave too few. -/
theorem nd_of : ∀ (B A : List α), A.Nodup → (∀ x, x ∈ A ↔ x ∈ B) → B.length ≤ A.length → B.Nodup
  | [], A, _, _, _ => List.nodup_nil
  | b :: B, A, hn, hs, hl => by
    simp only [List.length_cons] at hl
    have hb : b ∉ B := fun hb => by
      have := nd_le A B hn (fun x hx => by
        rcases List.mem_cons.1 ((hs x).1 hx) with e | e
        · rw [e]; exact hb
        · exact e)
      omega
    refine List.nodup_cons.2 ⟨hb, nd_of B (A.erase b) (hn.erase b) (fun x => ?_) ?_⟩
    · rw [hn.mem_erase_iff, hs x]
      constructor
      · rintro ⟨h1, h2⟩
        rcases List.mem_cons.1 h2 with e | e
        · exact absurd e h1
        · exact e
      · intro h
        exact ⟨fun e => hb (by rw [← e]; exact h), List.mem_cons_of_mem _ h⟩
    · rw [List.length_erase_of_mem ((hs b).2 (by simp))]
      omega
end
theorem srtD_nodup {l : List Dot} (h : SrtD l) : l.Nodup := by
  refine List.Pairwise.imp ?_ h
  intro a b hab e
  rw [e, lessD_irr] at hab
  cases hab
theorem ord_nodup (l : List Dot) : (ordD l).length = l.length ↔ l.Nodup := by
  constructor
  · intro h
    exact nd_of l (ordD l) (srtD_nodup (ordD_srt l)) (fun x => ordD_mem) (by omega)
  · intro h
    have := nd_le l (ordD l) h (fun x hx => ordD_mem.2 hx)
    have := ordD_len l
    omega
theorem nodup_find (es : List Evt) : (es.map (·.1)).Nodup ↔ ∀ (i : Nat) x, es[i]? = some x → findB (es.take i) x.1 = false := by
  unfold List.Nodup
  rw [List.pairwise_map, List.pairwise_iff_getElem]
  constructor
  · intro h i x hx
    obtain ⟨hi, rfl⟩ := List.getElem?_eq_some_iff.1 hx
    rw [← Bool.not_eq_true, findB_iff]
    rintro ⟨e, he, hd⟩
    obtain ⟨j, hj⟩ := List.getElem?_of_mem he
    rw [List.getElem?_take] at hj
    split at hj
    · next hlt =>
      obtain ⟨hjl, rfl⟩ := List.getElem?_eq_some_iff.1 hj
      exact h j i hjl hi hlt hd
    · cases hj
  · intro h i j hi hj hij e
    have q := h j es[j] (List.getElem?_eq_getElem hj)
    rw [← Bool.not_eq_true, findB_iff] at q
    refine q ⟨es[i], ?_, e⟩
    refine List.mem_of_getElem? (i := i) ?_
    rw [List.getElem?_take, if_pos hij, List.getElem?_eq_getElem hi]
/-- The Seqs that a replica has. -/
def seqs (es : List Evt) (r : Int) : List Int := (es.filter fun e => decide (e.1.1 = r)).map (·.1.2)
theorem seqs_len (es : List Evt) (r : Int) : ((seqs es r).length : Int) = cnt es r := by
  unfold seqs cnt
  rw [List.length_map, List.countP_eq_length_filter]
theorem seqs_mem {es : List Evt} {r m : Int} : m ∈ seqs es r ↔ findB es (r, m) = true := by
  unfold seqs
  rw [findB_iff, List.mem_map]
  constructor
  · rintro ⟨e, he, rfl⟩
    rw [List.mem_filter, decide_eq_true_iff] at he
    exact ⟨e, he.1, Prod.ext he.2 rfl⟩
  · rintro ⟨e, he, hd⟩
    exact ⟨e, List.mem_filter.2 ⟨he, decide_eq_true (congrArg Prod.fst hd)⟩, congrArg Prod.snd hd⟩
theorem seqs_nodup {es : List Evt} (h : (es.map (·.1)).Nodup) (r : Int) : (seqs es r).Nodup := by
  unfold seqs
  unfold List.Nodup at h ⊢
  rw [List.pairwise_map] at h ⊢
  refine (h.filter _).imp_of_mem ?_
  intro a b ha hb hne e
  rw [List.mem_filter, decide_eq_true_iff] at ha hb
  exact hne (Prod.ext (ha.2.trans hb.2.symm) e)
/-- One to n. -/
def upto (n : Nat) : List Int := (List.range n).map fun (i : Nat) => (i : Int) + 1
theorem upto_mem {n : Nat} {m : Int} : m ∈ upto n ↔ 1 ≤ m ∧ m ≤ n := by
  unfold upto
  rw [List.mem_map]
  constructor
  · rintro ⟨i, hi, rfl⟩
    have := List.mem_range.1 hi
    omega
  · rintro ⟨h1, h2⟩
    exact ⟨(m - 1).toNat, List.mem_range.2 (by omega), by omega⟩
theorem upto_nodup (n : Nat) : (upto n).Nodup := by
  unfold upto List.Nodup
  rw [List.pairwise_map]
  refine List.Pairwise.imp ?_ List.nodup_range
  intro a b h e
  exact h (by omega)
theorem upto_len (n : Nat) : (upto n).length = n := by simp [upto]
theorem cnt_sum : ∀ (es : List Evt), (∀ e ∈ es, mayD e.1 = true) → cnt es 1 + cnt es 2 + cnt es 3 + cnt es 4 + cnt es 5 = es.length
  | [], _ => rfl
  | e :: es, h => by
    have ih := cnt_sum es (fun x hx => h x (by simp [hx]))
    have hd := mayD_iff.1 (h e (by simp))
    have c : ∀ r, cnt (e :: es) r = cnt es r + if e.1.1 = r then 1 else 0 := by
      intro r
      unfold cnt
      rw [List.countP_cons]
      by_cases hr : e.1.1 = r
      · simp [hr]
      · simp [hr]
    rw [c, c, c, c, c, List.length_cons]
    have h5 : e.1.1 = 1 ∨ e.1.1 = 2 ∨ e.1.1 = 3 ∨ e.1.1 = 4 ∨ e.1.1 = 5 := by omega
    rcases h5 with h5 | h5 | h5 | h5 | h5 <;> rw [h5] <;> simp <;> omega
theorem at5_cnts {es : List Evt} (hn : es.length ≤ 1000) (j : Nat) (hj : j < 5) : at5 (cnts es) j = cnt es ((j : Int) + 1) := by
  have hm : mayC (cnts es) = true := by
    unfold mayC cnts
    rw [Bool.and_eq_true]
    refine ⟨by simp, ?_⟩
    simp only [List.all_cons, List.all_nil, Bool.and_true, Bool.and_eq_true]
    have hb : ∀ r, inB (cnt es r) = true := fun r => by
      have := cnt_bd es r
      unfold inB
      rw [Bool.and_eq_true, decide_eq_true_iff, decide_eq_true_iff]
      omega
    exact ⟨hb 1, hb 2, hb 3, hb 4, hb 5⟩
  unfold at5
  rw [if_pos hm, cnts_getD es j hj]
/-- What the document asks of each event by itself. -/
def ok1 (es : List Evt) (i : Nat) (x : Evt) : Prop := mayE x = true ∧ findB (es.take i) x.1 = false ∧ sumL x.2.1 < es.length
theorem may_facts {x : Evt} (h : mayE x = true) : (1 ≤ x.1.1 ∧ x.1.1 ≤ 5 ∧ 1 ≤ x.1.2 ∧ x.1.2 ≤ 1048576) ∧ getZ x.2.1 x.1.1 = x.1.2 - 1 := by
  have q := headB_iff.1 (mayE_iff.1 h).1
  exact ⟨mayD_iff.1 q.1, q.2.2⟩
theorem closed_parts {es : List Evt} : closedB es = true ↔ (∀ x ∈ es, mayE x = true) ∧ (es.map (·.1)).Nodup ∧ ∀ x ∈ es, x.1.2 ≤ cnt es x.1.1 ∧ wth x.2.1 (cnts es) := by
  unfold closedB okC
  rw [Bool.and_eq_true, Bool.and_eq_true, List.all_eq_true, List.all_eq_true, decide_eq_true_iff]
  have e : (ordD (es.map (·.1))).length = es.length ↔ (es.map (·.1)).Nodup := by
    rw [← ord_nodup, List.length_map]
  rw [e, and_assoc]
  simp only [Bool.and_eq_true, decide_eq_true_iff]
theorem closed_found {es : List Evt} (hn : es.length ≤ 1000) (h : closedB es = true) : ∀ e ∈ es, ∀ r m : Int, 1 ≤ r → r ≤ 5 → 1 ≤ m → m ≤ getZ e.2.1 r → findB es (r, m) = true := by
  obtain ⟨h1, h2, h3⟩ := closed_parts.1 h
  intro e he r m hr1 hr5 hm1 hm2
  obtain ⟨k, hk⟩ : ∃ k : Nat, r = (k : Int) + 1 := ⟨(r - 1).toNat, by omega⟩
  have hw := (wth_all _ _).1 (h3 e he).2 k (by omega)
  rw [at5_cnts hn k (by omega), ← hk] at hw
  rw [hk, getZ_in _ k (by omega)] at hm2
  have hl := seqs_len es r
  refine seqs_mem.1 (nd_all (A := seqs es r) (B := upto (seqs es r).length) (seqs_nodup h2 r) ?_ (by rw [upto_len]; exact Nat.le_refl _) m (upto_mem.2 ⟨hm1, by omega⟩))
  intro x hx
  rw [seqs_mem, findB_iff] at hx
  obtain ⟨e', he', hd⟩ := hx
  have hf := may_facts (h1 e' he')
  have hc := (h3 e' he').1
  rw [hd] at hf hc
  simp only at hf hc
  exact upto_mem.2 ⟨hf.1.2.2.1, by omega⟩
theorem closed_ok1 {es : List Evt} (hn : es.length ≤ 1000) (h : closedB es = true) : ∀ (i : Nat) x, es[i]? = some x → ok1 es i x := by
  obtain ⟨h1, h2, h3⟩ := closed_parts.1 h
  intro i x hx
  have hm := List.mem_of_getElem? hx
  refine ⟨h1 x hm, (nodup_find es).1 h2 i x hx, ?_⟩
  have hs := cnt_sum es (fun e he => mayD_iff.2 (may_facts (h1 e he)).1)
  have hf := may_facts (h1 x hm)
  have hc := h3 x hm
  have hw := (wth_all _ _).1 hc.2
  obtain ⟨k, hk⟩ : ∃ k : Nat, x.1.1 = (k : Int) + 1 := ⟨(x.1.1 - 1).toNat, by omega⟩
  have hz := hf.2
  have hq := hc.1
  rw [hk] at hz hq
  rw [getZ_in _ k (by omega)] at hz
  have w0 := hw 0 (by omega)
  have w1 := hw 1 (by omega)
  have w2 := hw 2 (by omega)
  have w3 := hw 3 (by omega)
  have w4 := hw 4 (by omega)
  rw [at5_cnts hn _ (by omega)] at w0 w1 w2 w3 w4
  unfold sumL
  have hk5 : k = 0 ∨ k = 1 ∨ k = 2 ∨ k = 3 ∨ k = 4 := by omega
  rcases hk5 with rfl | rfl | rfl | rfl | rfl <;> simp at * <;> omega
theorem ok_closed {es : List Evt} (hn : es.length ≤ 1000) (h1 : ∀ (i : Nat) x, es[i]? = some x → ok1 es i x) (h2 : ∀ e ∈ es, ∀ r m : Int, 1 ≤ r → r ≤ 5 → 1 ≤ m → m ≤ getZ e.2.1 r → findB es (r, m) = true) : closedB es = true := by
  have hall : ∀ x ∈ es, mayE x = true := fun x hx => by
    obtain ⟨i, hi⟩ := List.getElem?_of_mem hx
    exact (h1 i x hi).1
  refine closed_parts.2 ⟨hall, (nodup_find es).2 (fun i x hx => (h1 i x hx).2.1), fun x hx => ?_⟩
  have hf := may_facts (hall x hx)
  constructor
  · have := nd_le (upto x.1.2.toNat) (seqs es x.1.1) (upto_nodup _) (fun m hm => by
      have hm' := upto_mem.1 hm
      rw [seqs_mem]
      by_cases e : m = x.1.2
      · rw [findB_iff]
        exact ⟨x, hx, by rw [e]⟩
      · exact h2 x hx x.1.1 m hf.1.1 hf.1.2.1 hm'.1 (by rw [hf.2]; omega))
    rw [upto_len] at this
    have hl := seqs_len es x.1.1
    omega
  · rw [wth_all]
    intro k hk
    rw [at5_cnts hn k hk, ← getZ_in _ k hk]
    have hb := getZ_bd x.2.1 ((k : Int) + 1)
    have := nd_le (upto (getZ x.2.1 ((k : Int) + 1)).toNat) (seqs es ((k : Int) + 1)) (upto_nodup _) (fun m hm => by
      have hm' := upto_mem.1 hm
      rw [seqs_mem]
      exact h2 x hx _ m (by omega) (by omega) hm'.1 (by omega))
    rw [upto_len] at this
    have hl := seqs_len es ((k : Int) + 1)
    omega
end Go.Proofs.Ytooggheoaglbeaa

