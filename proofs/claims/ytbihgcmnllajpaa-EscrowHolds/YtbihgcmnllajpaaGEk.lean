/- Deeds in memory (layer 11), and what 'known' reckons. -/
import Derived.Test.YtbihgcmnllajpaaGEq
import Derived.Test.YtbihgcmnllajpaaGE6
import Derived.Test.YtbihgcmnllajpaaGE7
namespace Go.Proofs.Ytbihgcmnllajpaa
open Go.RowKit Go.Lib
set_option linter.unusedVariables false
def kK : ByteArray := ⟨#[107]⟩
theorem kK_may : mayK kK = true := by decide
def encDd (d : Gd) : List Value := [.string kK, .int .i64 (d.rep : Int), .int .i64 (d.tgt : Int), .int .i64 d.n]
def encOf (d : Gd) : List Value := [.int .i64 (d.rep : Int)]
theorem encDd_len (d : Gd) : (encDd d).length = 4 := rfl
theorem encOf_len (d : Gd) : (encOf d).length = 1 := rfl
theorem encDd_one (d : Gd) : ∀ v ∈ encDd d, v.oneCell' = true := by
  intro v hv
  simp only [encDd, List.mem_cons, List.not_mem_nil, or_false] at hv
  rcases hv with rfl | rfl | rfl | rfl <;> rfl
theorem encOf_one (d : Gd) : ∀ v ∈ encOf d, v.oneCell' = true := by
  intro v hv
  simp only [encOf, List.mem_cons, List.not_mem_nil, or_false] at hv
  rcases hv with rfl
  rfl
/-- Deeds as they are done. -/
def WfG (l : List Gd) : Prop := ∀ i d, l[i]? = some d → d.m = cntG d.rep (l.take i) + 1 ∧ (1 ≤ d.rep ∧ d.rep ≤ 5) ∧ d.tgt ≤ 5 ∧ (-9 ≤ d.n ∧ d.n ≤ 9) ∧ (d.tgt ≠ 0 → 1 ≤ d.n)
theorem WfG.bd {l : List Gd} (h : WfG l) (i : Nat) : ∀ d ∈ l.take i, -9 ≤ d.n ∧ d.n ≤ 9 := by
  intro d hd
  obtain ⟨j, hj⟩ := List.mem_iff_getElem?.1 (List.mem_of_mem_take hd)
  exact (h j d hj).2.2.2.1
theorem rsD_at {w : World} {b off n : Nat} {l : List Gd} (h : RS encDd 4 w (some ⟨b, off, none⟩) n l) (i : Nat) (hi : i < n) : ∃ d, l[i]? = some d ∧ w.cell? ⟨b, off + i * 4 + 2, none⟩ = some (.int .i64 (d.tgt : Int)) ∧ w.cell? ⟨b, off + i * 4 + 3, none⟩ = some (.int .i64 d.n) := by
  have hl : i < l.length := by rw [h.1]; exact hi
  have hx : l[i]? = some l[i] := List.getElem?_eq_getElem hl
  rcases h.2.2 with h0 | ⟨b', off', ha, hc⟩
  · omega
  · cases ha
    have q := hc i _ hx
    exact ⟨l[i], hx, q 2 _ rfl, q 3 _ rfl⟩
theorem rsD_cell2 {w : World} {b off n : Nat} {l : List Gd} (h : RS encDd 4 w (some ⟨b, off, none⟩) n l) {i : Nat} {d : Gd} (hx : l[i]? = some d) (hi : i < n) : w.cell? ⟨b, off + i * 4 + 2, none⟩ = some (.int .i64 (d.tgt : Int)) := by
  obtain ⟨d', hx', q, _⟩ := rsD_at h i hi
  rw [hx] at hx'
  cases hx'
  exact q
theorem rsD_cell3 {w : World} {b off n : Nat} {l : List Gd} (h : RS encDd 4 w (some ⟨b, off, none⟩) n l) {i : Nat} {d : Gd} (hx : l[i]? = some d) (hi : i < n) : w.cell? ⟨b, off + i * 4 + 3, none⟩ = some (.int .i64 d.n) := by
  obtain ⟨d', hx', _, q⟩ := rsD_at h i hi
  rw [hx] at hx'
  cases hx'
  exact q
theorem rsO_at {w : World} {b off n : Nat} {l : List Gd} (h : RS encOf 1 w (some ⟨b, off, none⟩) n l) (i : Nat) {d : Gd} (hx : l[i]? = some d) (h0 : 0 < n) : w.cell? ⟨b, off + i, none⟩ = some (.int .i64 (d.rep : Int)) := by
  rcases h.2.2 with hz | ⟨b', off', ha, hc⟩
  · omega
  · cases ha
    have q := hc i _ hx 0 _ rfl
    simpa using q
theorem rs_addr {α : Type} {enc : α → List Value} {k : Nat} {w : World} {a : Option Addr} {n : Nat} {s : List α} (h : RS enc k w a n s) (h0 : 0 < n) : ∃ b off, a = some ⟨b, off, none⟩ := by
  rcases h.2.2 with hz | ⟨b, off, ha, _⟩
  · omega
  · exact ⟨b, off, ha⟩
/-- Six numbers' cells. -/
def cells6 (c : Nat → Nat) : Array Value := #[.int .i64 (c 0 : Nat), .int .i64 (c 1 : Nat), .int .i64 (c 2 : Nat), .int .i64 (c 3 : Nat), .int .i64 (c 4 : Nat), .int .i64 (c 5 : Nat)]
theorem cells6_at (c : Nat → Nat) {q : Nat} (hq : q < 6) : (cells6 c)[q]? = some (.int .i64 (c q : Nat)) := by
  rcases (by omega : q = 0 ∨ q = 1 ∨ q = 2 ∨ q = 3 ∨ q = 4 ∨ q = 5) with rfl | rfl | rfl | rfl | rfl | rfl <;> rfl
theorem cells6_set (c : Nat → Nat) {q : Nat} (hq : q < 6) (v : Nat) : (cells6 c).setIfInBounds q (.int .i64 (v : Nat)) = cells6 (more c q v) := by
  rcases (by omega : q = 0 ∨ q = 1 ∨ q = 2 ∨ q = 3 ∨ q = 4 ∨ q = 5) with rfl | rfl | rfl | rfl | rfl | rfl <;> rfl
theorem cells6_int (c : Nat → Nat) (k : ByteArray) (i : Nat) : (cells6 c)[i]? ≠ some (.string k) := by
  rcases (by omega : i = 0 ∨ i = 1 ∨ i = 2 ∨ i = 3 ∨ i = 4 ∨ i = 5 ∨ 6 ≤ i) with rfl | rfl | rfl | rfl | rfl | rfl | h
  all_goals first | (simp [cells6]; done) | (rw [Array.getElem?_eq_none (by exact h)]; simp)
theorem AC.off {w : World} {p : Option Addr} {n : Nat} {s : List Ac} {g : Nat} {c : Nat → Nat} {t : TypeId} (h : AC w p n s) (hx : BX w g (cells6 c) t) (i : Nat) (v : Value) : AC (w.setCell ⟨g, i, none⟩ v) p n s := by
  refine ⟨⟨h.1.1, h.1.2.1, ?_⟩, h.2⟩
  rcases h.1.2.2 with h0 | ⟨b, off, ha, hc⟩
  · exact .inl h0
  · by_cases hn : n = 0
    · exact .inl hn
    · have hl : 0 < s.length := by rw [h.1.1]; omega
      have hb : b ≠ g := hx.ne (hc 0 _ (List.getElem?_eq_getElem hl) 0 _ rfl) (fun j => cells6_int c _ j)
      exact .inr ⟨b, off, ha, fun j x hj q u hu => ((KP.refl g w).set i v) _ _ (hc j x hj q u hu) hb⟩
theorem cnt_step {l : List Gd} {i : Nat} {d : Gd} (hx : l[i]? = some d) : more (fun r => cntG r (l.take i)) d.rep (cntG d.rep (l.take i) + 1) = fun r => cntG r (l.take (i + 1)) := by
  funext r
  unfold more
  rw [takeG_snoc hx, cntG_app, cntG_one]
  split
  · rename_i e; subst e; rw [if_pos rfl]
  · rename_i e; rw [if_neg (fun q => e q.symm)]; rfl
theorem up_may {k : Nat → Nat} {l : List Gd} (hl : l.length ≤ 24) (hn : ∀ d ∈ l, -9 ≤ d.n ∧ d.n ≤ 9) {r : Nat} (hr : 1 ≤ r ∧ r ≤ 5) {x : Int} (hx : -9 ≤ x ∧ x ≤ 9) : mayA (addA (knA kK k l) kK r x) = true := by
  unfold knA
  rw [oneA_add kK _ hr]
  refine oneA_may kK_may (fun j => ?_)
  have := knA_bd (k := k) hl hn j
  unfold top40
  split <;> omega
theorem knA_movA {k : Nat → Nat} {l : List Gd} {d : Gd} (h : d.m ≤ k d.rep) (hr : 1 ≤ d.rep ∧ d.rep ≤ 5) (ht : 1 ≤ d.tgt ∧ d.tgt ≤ 5) : movA (knA kK k l) kK d.rep d.tgt d.n = knA kK k (l ++ [d]) := by
  unfold movA
  split
  · rename_i e; exact knA_own h e hr
  · rename_i e; exact knA_mov h e hr ht
abbrev vK (k : Nat → Nat) : Value := .agg #[.int .i64 (k 0 : Nat), .int .i64 (k 1 : Nat), .int .i64 (k 2 : Nat), .int .i64 (k 3 : Nat), .int .i64 (k 4 : Nat), .int .i64 (k 5 : Nat)]
set_option maxRecDepth 4000 in
set_option maxHeartbeats 8000000 in
theorem known_any (pa po : Option Addr) (n ca co : Nat) (l : List Gd) (k : Nat → Nat) (w : World) (hD : RS encDd 4 w pa n l) (hO : RS encOf 1 w po n l) (hW : WfG l) (hn : n ≤ 24) (hk : ∀ r, k r ≤ 1000) :
    Calls Try.prog 22 #[.slice pa n ca, .slice po n co, vK k] w fun e w' => ∃ p c, e = .returned (.slice p (knA kK k l).length c) ∧ AC w' p (knA kK k l).length (knA kK k l) ∧ CP p (knA kK k l).length c ∧ Below w.heap.size w w' := by
  have HD := hide hD
  have HO := hide hO
  have HW := hide hW
  have HLEN := hide hD.1
  have HK := hide hk
  clear hD hO hW hk
  have HX0 : Hid (BX (((w.alloc (.cells (cells6 k) 43)).alloc (.cells #[] 52)).alloc (.cells #[.int .i64 0, .int .i64 0, .int .i64 0, .int .i64 0, .int .i64 0, .int .i64 0] 43)) w.heap.size (cells6 k) 43) := ((BX.new w _ rfl _ _).alloc _).alloc _
  have HX1 : Hid (BX (((w.alloc (.cells (cells6 k) 43)).alloc (.cells #[] 52)).alloc (.cells #[.int .i64 0, .int .i64 0, .int .i64 0, .int .i64 0, .int .i64 0, .int .i64 0] 43)) (w.heap.size + 1 + 1) (cells6 (fun r => cntG r (l.take 0))) 43) := BX.new ((w.alloc (.cells (cells6 k) 43)).alloc (.cells #[] 52)) (w.heap.size + 1 + 1) (by simp) #[.int .i64 0, .int .i64 0, .int .i64 0, .int .i64 0, .int .i64 0, .int .i64 0] 43
  have HB0 : Hid (Below w.heap.size w (((w.alloc (.cells (cells6 k) 43)).alloc (.cells #[] 52)).alloc (.cells #[.int .i64 0, .int .i64 0, .int .i64 0, .int .i64 0, .int .i64 0, .int .i64 0] 43))) := (bel2 w _ _).alloc (by simp; omega) _
  have HA0 := hide (AC.nil (((w.alloc (.cells (cells6 k) 43)).alloc (.cells #[] 52)).alloc (.cells #[.int .i64 0, .int .i64 0, .int .i64 0, .int .i64 0, .int .i64 0, .int .i64 0] 43)) (some ⟨w.heap.size + 1, 0, none⟩))
  have HZ : Hid (knA kK k (l.take 0) = []) := knA_nil kK k
  have HGK : Hid (w.heap.size ≤ w.heap.size + 1 + 1) := (by omega : w.heap.size ≤ w.heap.size + 1 + 1)
  go_enter Try.func22, Try.ntmps22
  go_wp2
  go_loopw [7, 9] (fun V v wr => ∃ (i : Nat) (p : Option Addr) (c : Nat), i ≤ n ∧ v = .int .i64 i ∧ V = .slice p (knA kK k (l.take i)).length c ∧ Hid (AC wr p (knA kK k (l.take i)).length (knA kK k (l.take i))) ∧ Hid (CP p (knA kK k (l.take i)).length c) ∧ Hid (BX wr (w.heap.size + 1 + 1) (cells6 (fun r => cntG r (l.take i))) 43) ∧ Hid (BX wr w.heap.size (cells6 k) 43) ∧ Hid (Below w.heap.size w wr)) (fun _ v _ => n - (intOf v).toNat)
  case atStart => exact ⟨0, some ⟨w.heap.size + 1, 0, none⟩, 0, by omega, rfl, (by rw [HZ.out]; rfl), (show Hid _ by rw [HZ.out]; exact HA0.out), (show Hid _ by rw [HZ.out]; exact ⟨Nat.le_refl _, by decide, fun h => by cases h⟩), HX1, HX0, HB0⟩
  case round =>
    clear HX0 HX1 HB0 HA0 HZ
    obtain ⟨i, p, c, hi, rfl, rfl, HA, HC, HXc, HXk, HB⟩ := hrel
    by_cases hlt : i < n
    · obtain ⟨b, off, rfl⟩ := rs_addr HD.out (by omega)
      obtain ⟨b2, off2, rfl⟩ := rs_addr HO.out (by omega)
      obtain ⟨d, hx, y2, y3⟩ := rsD_at (HD.out.below HB.out) i hlt
      have y1 := rsO_at (HO.out.below HB.out) i hx (by omega)
      have HX := hide hx
      obtain ⟨wm, wr1, wt, wn, wp⟩ := HW.out i d hx
      have HR := hide wr1
      have HT := hide wt
      have HNB := hide wn
      have HN1 := hide wp
      have hr0 : (0 : Int) ≤ (d.rep : Int) := by omega
      have hr6 : (d.rep : Int) < 6 := by omega
      have hr7 : d.rep < 6 := by omega
      have hi0 : (0 : Int) ≤ (i : Int) := by omega
      have hi1 : (i : Int) < (n : Int) := by omega
      obtain ⟨M, hM⟩ : ∃ M, d.m = M := ⟨_, rfl⟩
      obtain ⟨cn, hcn⟩ : ∃ cn, cntG d.rep (l.take i) = cn := ⟨_, rfl⟩
      have hMc : M = cn + 1 := by rw [← hM, ← hcn]; exact wm
      have HM := hide hM
      have hcl : cn ≤ 24 := by
        have := cntG_len d.rep (l.take i)
        rw [List.length_take] at this
        omega
      have hw1 : IntKind.i64.wrap ((cn : Int) + 1) = (M : Int) := by rw [IntKind.wrap_i64]; omega
      have x0 := HXc.out.cell d.rep _ (cells6_at _ hr7)
      rw [hcn] at x0
      have f0 := HXc.out.free d.rep
      have HST := hide (cnt_step hx)
      rw [hcn, ← hMc] at HST
      have HMA : Hid (mayA (knA kK k (l.take i)) = true) := knA_may kK_may (by rw [List.length_take]; omega) (HW.out.bd i)
      have HMA2 : Hid (mayA (knA kK k (l.take (i + 1))) = true) := knA_may kK_may (by rw [List.length_take]; omega) (HW.out.bd (i + 1))
      obtain ⟨nA, hnA⟩ : ∃ x, (knA kK k (l.take i)).length = x := ⟨_, rfl⟩
      have HNL := hide hnA
      rw [hnA] at HA HC ⊢
      have HUP : Hid (∀ p c W, AC W p nA (knA kK k (l.take i)) → CP p nA c → Calls Try.prog 9 #[.slice p nA c, .string kK, .int .i64 (d.rep : Int), .int .i64 d.n] W fun e w' => ∃ p' c', e = .returned (.tuple #[.slice p' (addA (knA kK k (l.take i)) kK d.rep d.n).length c', .int .i64 0]) ∧ AC w' p' (addA (knA kK k (l.take i)) kK d.rep d.n).length (addA (knA kK k (l.take i)) kK d.rep d.n) ∧ CP p' (addA (knA kK k (l.take i)) kK d.rep d.n).length c' ∧ Below W.heap.size W w') := fun p c W g gc => by
        obtain ⟨r', hr', e1⟩ : ∃ r', r' < 5 ∧ d.rep = r' + 1 := ⟨d.rep - 1, by omega, by omega⟩
        have q := Up11_good p nA c (knA kK k (l.take i)) kK r' hr' d.n (by omega) W g gc HMA.out kK_may (by rw [← e1]; exact up_may (by rw [List.length_take]; omega) (HW.out.bd i) wr1 wn)
        rw [← e1] at q
        rw [show (d.rep : Int) = (r' : Int) + 1 by omega]
        exact q
      obtain ⟨nU, hnU⟩ : ∃ x, (addA (knA kK k (l.take i)) kK d.rep d.n).length = x := ⟨_, rfl⟩
      have HNU := hide hnU
      rw [hnU] at HUP
      clear hx wm wr1 wt wn wp hM hcn hMc hnA hnU hcl
      go_upto_region 8 with fail
      have HB1 : Hid (Below w.heap.size w (wr.setCell ⟨w.heap.size + 1 + 1, d.rep, none⟩ (.int .i64 (M : Int)))) := HB.out.setCell HGK.out _
      have HXc1 : Hid (BX (wr.setCell ⟨w.heap.size + 1 + 1, d.rep, none⟩ (.int .i64 (M : Int))) (w.heap.size + 1 + 1) (cells6 (fun r => cntG r (l.take (i + 1)))) 43) := by
        have q := HXc.out.set d.rep (.int .i64 (M : Int))
        rw [cells6_set _ hr7, HST.out] at q
        exact q
      have HXk1 : Hid (BX (wr.setCell ⟨w.heap.size + 1 + 1, d.rep, none⟩ (.int .i64 (M : Int))) w.heap.size (cells6 k) 43) := HXk.out.other (by omega) _ _
      have HA1 : Hid (AC (wr.setCell ⟨w.heap.size + 1 + 1, d.rep, none⟩ (.int .i64 (M : Int))) p nA (knA kK k (l.take i))) := HA.out.off HXc.out _ _
      replace y2 := bcell HB1.out (rsD_cell2 HD.out HX.out hlt)
      replace y3 := bcell HB1.out (rsD_cell3 HD.out HX.out hlt)
      have x1 : (wr.setCell ⟨w.heap.size + 1 + 1, d.rep, none⟩ (.int .i64 (M : Int))).cell? ⟨w.heap.size + 1 + 1, d.rep, none⟩ = some (.int .i64 (M : Int)) := by
        have q := HXc.out.set d.rep (.int .i64 (M : Int))
        rw [cells6_set _ hr7] at q
        have q2 := q.cell d.rep _ (cells6_at _ hr7)
        unfold more at q2
        rwa [if_pos rfl] at q2
      have x2 := HXk1.out.cell d.rep _ (cells6_at k hr7)
      replace HXc := HXc1
      replace HXk := HXk1
      replace HA := HA1
      clear HB HXc1 HXk1 HA1 x0 f0 y1 HST
      generalize wr.setCell ⟨w.heap.size + 1 + 1, d.rep, none⟩ (.int .i64 (M : Int)) = u1 at *
      have hk9 := HK.out d.rep
      by_cases hle : M ≤ k d.rep
      · have HLE := hide hle
        have hg : ¬ ((k d.rep : Int) < (M : Int)) := by omega
        obtain ⟨kr, hkr⟩ : ∃ x, k d.rep = x := ⟨_, rfl⟩
        rw [hkr] at x2 hg
        have hg2 : decide ((kr : Int) < (M : Int)) = false := decide_eq_false hg
        clear hkr hle hk9
        refine wp_region_held_drew (S := fun W => Below u1.heap.size u1 W) (by kernel_rfl) ((Below.refl _ u1).drew) (fun hS0 => ?_)
        refine takeInH 0 30 ?v26 rfl rfl (by kernel_rfl) (by kernel_rfl) (by kernel_rfl) (fun _ _ _ h => h) (by kernel_rfl) hS0 ?hy26 ?_
        case hy26 => (intro W hW; clear hW; go_simp; try rfl)
        simp only [Act.put, List.setIfInBounds_toArray, List.set_cons_zero, List.set_cons_succ]
        refine takeInH 1 31 ?v27 rfl rfl (by kernel_rfl) (by kernel_rfl) (by kernel_rfl) (fun _ _ _ h => h) (by kernel_rfl) hS0 ?hy27 ?_
        case hy27 => (intro W hW; clear hW; go_simp; try rfl)
        simp only [Act.put, List.setIfInBounds_toArray, List.set_cons_zero, List.set_cons_succ]
        refine takeInH 2 32 ?v28 rfl rfl (by kernel_rfl) (by kernel_rfl) (by kernel_rfl) (fun _ _ _ h => h) (by kernel_rfl) hS0 ?hy28 ?_
        case hy28 => (intro W hW; have e0 := bcell hW x1; have e1 := bcell hW x2; clear hW; go_simp; try rfl)
        simp only [Act.put, List.setIfInBounds_toArray, List.set_cons_zero, List.set_cons_succ]
        refine takeInH 3 33 ?v29 rfl rfl (by kernel_rfl) (by kernel_rfl) (by kernel_rfl) (fun _ _ _ h => h) (by kernel_rfl) hS0 ?hy29 ?_
        case hy29 => (intro W hW; clear hW; go_simp; try rfl)
        simp only [Act.put, List.setIfInBounds_toArray, List.set_cons_zero, List.set_cons_succ]
        refine takeInH 4 34 ?v30 rfl rfl (by kernel_rfl) (by kernel_rfl) (by kernel_rfl) (fun _ _ _ h => h) (by kernel_rfl) hS0 ?hy30 ?_
        case hy30 => (intro W hW; clear hW; go_simp; try rfl)
        simp only [Act.put, List.setIfInBounds_toArray, List.set_cons_zero, List.set_cons_succ]
        refine takeInH 5 35 ?v31 rfl rfl (by kernel_rfl) (by kernel_rfl) (by kernel_rfl) (fun _ _ _ h => h) (by kernel_rfl) hS0 ?hy31 ?_
        case hy31 => (intro W hW; have e0 := bcell hW x1; have e1 := bcell hW x2; clear hW; go_simp; try rfl)
        simp only [Act.put, List.setIfInBounds_toArray, List.set_cons_zero, List.set_cons_succ]
        refine takeInH 6 36 ?v32 rfl rfl (by kernel_rfl) (by kernel_rfl) (by kernel_rfl) (fun _ _ _ h => h) (by kernel_rfl) hS0 ?hy32 ?_
        case hy32 => (intro W hW; clear hW; go_simp; try rfl)
        simp only [Act.put, List.setIfInBounds_toArray, List.set_cons_zero, List.set_cons_succ]
        refine wpAnyH_done (by kernel_rfl) ?_ _
        have BU : Hid (Below u1.heap.size u1 _) := hS0
        replace y2 := bcell hS0 y2
        replace y3 := bcell hS0 y3
        clear hS0
        by_cases ht : d.tgt = 0
        · have ht2 : ¬ ((0 : Int) < (d.tgt : Int)) := by omega
          have HKN : Hid (knA kK k (l.take (i + 1)) = addA (knA kK k (l.take i)) kK d.rep d.n) := by unfold Hid; rw [takeG_snoc HX.out]; exact (knA_up (by rw [HM.out]; exact HLE.out) ht HR.out).symm
          go_wp2_with (go_at_call 9; refine (HUP.out p c _ (HA.out.below BU.out) HC.out).mono ?_; rintro e w5 ⟨p2, c2, rfl, hn2, hc2, hb⟩; have HN2 := hide hn2; have HC2 := hide hc2; have hbq := hb; replace BU := hide (bel_next BU.out hb); clear hn2 hc2 hb; replace y2 := bcell hbq y2)
          go_roundw
          case rel => exact ⟨i + 1, p2, c2, by omega, by go_num, (by rw [HKN.out, HNU.out]), (show Hid _ by rw [HKN.out, HNU.out]; exact HN2.out), (show Hid _ by rw [HKN.out, HNU.out]; exact HC2.out), (show Hid _ from HXc.out.below BU.out), (show Hid _ from HXk.out.below BU.out), (show Hid _ from HB1.out.trans (BU.out.mono HB1.out.size))⟩
          case measure => simp [intOf]; omega
        · have ht2 : (0 : Int) < (d.tgt : Int) := by omega
          have HKN : Hid (knA kK k (l.take (i + 1)) = movA (knA kK k (l.take i)) kK d.rep d.tgt d.n) := by unfold Hid; rw [takeG_snoc HX.out]; exact (knA_movA (by rw [HM.out]; exact HLE.out) HR.out ⟨by omega, HT.out⟩).symm
          have HMV : Hid (∀ p c W, AC W p nA (knA kK k (l.take i)) → CP p nA c → Calls Try.prog 10 #[.slice p nA c, .string kK, .int .i64 (d.rep : Int), .int .i64 (d.tgt : Int), .int .i64 d.n] W fun e w' => ∃ p' c', e = .returned (.tuple #[.slice p' (movA (knA kK k (l.take i)) kK d.rep d.tgt d.n).length c', .int .i64 0]) ∧ AC w' p' (movA (knA kK k (l.take i)) kK d.rep d.tgt d.n).length (movA (knA kK k (l.take i)) kK d.rep d.tgt d.n) ∧ CP p' (movA (knA kK k (l.take i)) kK d.rep d.tgt d.n).length c' ∧ Below W.heap.size W w') := fun p c W g gc => by
            obtain ⟨r', hr', e1⟩ : ∃ r', r' < 5 ∧ d.rep = r' + 1 := ⟨d.rep - 1, by have := HR.out; omega, by have := HR.out; omega⟩
            obtain ⟨q', hq', e2⟩ : ∃ q', q' < 5 ∧ d.tgt = q' + 1 := ⟨d.tgt - 1, by have := HT.out; omega, by omega⟩
            have q := Move11_good p nA c (knA kK k (l.take i)) kK r' q' hr' hq' d.n ⟨HN1.out ht, by have := HNB.out; omega⟩ W g gc HMA.out kK_may (by rw [← e1, ← e2, ← HKN.out]; exact HMA2.out)
            rw [← e1, ← e2] at q
            rw [show (d.rep : Int) = (r' : Int) + 1 by omega, show (d.tgt : Int) = (q' : Int) + 1 by omega]
            exact q
          obtain ⟨nV, hnV⟩ : ∃ x, (movA (knA kK k (l.take i)) kK d.rep d.tgt d.n).length = x := ⟨_, rfl⟩
          have HNV := hide hnV
          rw [hnV] at HMV
          clear hnV
          go_upto_region 11 with (go_at_call 9; refine (HUP.out p c _ (HA.out.below BU.out) HC.out).mono ?_; rintro e w5 ⟨p2, c2, rfl, hn2, hc2, hb⟩; have HN2 := hide hn2; have HC2 := hide hc2; have hbq := hb; replace BU := hide (bel_next BU.out hb); clear hn2 hc2 hb; replace y2 := bcell hbq y2; replace y3 := bcell hbq y3)
          have HA5 := hide (HA.out.below BU.out)
          generalize hw5 : w5 = u2 at *
          clear hw5
          refine wp_region_held_drew (S := fun W => Below u2.heap.size u2 W) (by kernel_rfl) ((Below.refl _ u2).drew) (fun hS0 => ?_)
          refine takeInH 0 55 ?v1 rfl rfl (by kernel_rfl) (by kernel_rfl) (by kernel_rfl) (fun _ _ _ h => h) (by kernel_rfl) hS0 ?hy1 ?_
          case hy1 => (intro W hW; clear hW; go_simp; try rfl)
          simp only [Act.put, List.setIfInBounds_toArray, List.set_cons_zero, List.set_cons_succ]
          refine takeInH 1 56 ?v2 rfl rfl (by kernel_rfl) (by kernel_rfl) (by kernel_rfl) (fun _ _ _ h => h) (by kernel_rfl) hS0 ?hy2 ?_
          case hy2 => (intro W hW; clear hW; go_simp; try rfl)
          simp only [Act.put, List.setIfInBounds_toArray, List.set_cons_zero, List.set_cons_succ]
          refine takeInH 2 57 ?v3 rfl rfl (by kernel_rfl) (by kernel_rfl) (by kernel_rfl) (fun _ _ _ h => h) (by kernel_rfl) hS0 ?hy3 ?_
          case hy3 => (intro W hW; clear hW; go_simp; try rfl)
          simp only [Act.put, List.setIfInBounds_toArray, List.set_cons_zero, List.set_cons_succ]
          refine takeInH 3 58 ?v4 rfl rfl (by kernel_rfl) (by kernel_rfl) (by kernel_rfl) (fun _ _ _ h => h) (by kernel_rfl) hS0 ?hy4 ?_
          case hy4 => (intro W hW; clear hW; go_simp; try rfl)
          simp only [Act.put, List.setIfInBounds_toArray, List.set_cons_zero, List.set_cons_succ]
          refine takeInH 4 59 ?v5 rfl rfl (by kernel_rfl) (by kernel_rfl) (by kernel_rfl) (fun _ _ _ h => h) (by kernel_rfl) hS0 ?hy5 ?_
          case hy5 => (intro W hW; clear hW; go_simp; try rfl)
          simp only [Act.put, List.setIfInBounds_toArray, List.set_cons_zero, List.set_cons_succ]
          refine takeInH 5 60 ?v6 rfl rfl (by kernel_rfl) (by kernel_rfl) (by kernel_rfl) (fun _ _ _ h => h) (by kernel_rfl) hS0 ?hy6 ?_
          case hy6 => (intro W hW; clear hW; go_simp; try rfl)
          simp only [Act.put, List.setIfInBounds_toArray, List.set_cons_zero, List.set_cons_succ]
          refine takeInH 6 61 ?v7 rfl rfl (by kernel_rfl) (by kernel_rfl) (by kernel_rfl) (fun _ _ _ h => h) (by kernel_rfl) hS0 ?hy7 ?_
          case hy7 => (intro W hW; have e0 := bcell hW y2; have e1 := bcell hW y3; clear hW; go_simp; try rfl)
          simp only [Act.put, List.setIfInBounds_toArray, List.set_cons_zero, List.set_cons_succ]
          refine takeInH 7 62 ?v8 rfl rfl (by kernel_rfl) (by kernel_rfl) (by kernel_rfl) (fun _ _ _ h => h) (by kernel_rfl) hS0 ?hy8 ?_
          case hy8 => (intro W hW; clear hW; go_simp; try rfl)
          simp only [Act.put, List.setIfInBounds_toArray, List.set_cons_zero, List.set_cons_succ]
          refine takeInH 8 63 ?v9 rfl rfl (by kernel_rfl) (by kernel_rfl) (by kernel_rfl) (fun _ _ _ h => h) (by kernel_rfl) hS0 ?hy9 ?_
          case hy9 => (intro W hW; clear hW; go_simp; try rfl)
          simp only [Act.put, List.setIfInBounds_toArray, List.set_cons_zero, List.set_cons_succ]
          refine takeInH 9 64 ?v10 rfl rfl (by kernel_rfl) (by kernel_rfl) (by kernel_rfl) (fun _ _ _ h => h) (by kernel_rfl) hS0 ?hy10 ?_
          case hy10 => (intro W hW; clear hW; go_simp; try rfl)
          simp only [Act.put, List.setIfInBounds_toArray, List.set_cons_zero, List.set_cons_succ]
          refine takeInH 10 65 ?v11 rfl rfl (by kernel_rfl) (by kernel_rfl) (by kernel_rfl) (fun _ _ _ h => h) (by kernel_rfl) hS0 ?hy11 ?_
          case hy11 => (intro W hW; clear hW; go_simp; try rfl)
          simp only [Act.put, List.setIfInBounds_toArray, List.set_cons_zero, List.set_cons_succ]
          refine takeInH 11 66 ?v12 rfl rfl (by kernel_rfl) (by kernel_rfl) (by kernel_rfl) (fun _ _ _ h => h) (by kernel_rfl) hS0 ?hy12 ?_
          case hy12 => (intro W hW; have e0 := bcell hW y2; have e1 := bcell hW y3; clear hW; go_simp; try rfl)
          simp only [Act.put, List.setIfInBounds_toArray, List.set_cons_zero, List.set_cons_succ]
          refine wpAnyH_ready (rs := [12]) (by kernel_rfl) (by simp) ?_
          refine AllReadyH.cons rfl (fun K hK => ?_) AllReadyH.nil
          go_simp
          refine (HMV.out p c _ (HA5.out.below hS0) HC.out).mono ?_
          rintro e w6 ⟨p3, c3, rfl, hn3, hc3, hb⟩
          have HN3 := hide hn3
          have HC3 := hide hc3
          clear hn3 hc3
          refine hK.out _ _ ?hs13 (fun hS1 => ?_)
          case hs13 => exact bel_next hS0 hb
          clear hK K hb
          try simp only [Act.put, List.setIfInBounds_toArray, List.set_cons_zero, List.set_cons_succ]
          refine takeInH 13 54 ?v14 rfl rfl (by kernel_rfl) (by kernel_rfl) (by kernel_rfl) (fun _ _ _ h => h) (by kernel_rfl) hS1 ?hy14 ?_
          case hy14 => (intro W hW; clear hW; go_simp; try rfl)
          simp only [Act.put, List.setIfInBounds_toArray, List.set_cons_zero, List.set_cons_succ]
          refine takeInH 14 68 ?v15 rfl rfl (by kernel_rfl) (by kernel_rfl) (by kernel_rfl) (fun _ _ _ h => h) (by kernel_rfl) hS1 ?hy15 ?_
          case hy15 => (intro W hW; clear hW; go_simp; try rfl)
          simp only [Act.put, List.setIfInBounds_toArray, List.set_cons_zero, List.set_cons_succ]
          refine takeInH 15 69 ?v16 rfl rfl (by kernel_rfl) (by kernel_rfl) (by kernel_rfl) (fun _ _ _ h => h) (by kernel_rfl) hS1 ?hy16 ?_
          case hy16 => (intro W hW; clear hW; go_simp; try rfl)
          simp only [Act.put, List.setIfInBounds_toArray, List.set_cons_zero, List.set_cons_succ]
          refine takeInH 16 11 ?v17 rfl rfl (by kernel_rfl) (by kernel_rfl) (by kernel_rfl) (fun _ _ _ h => h) (by kernel_rfl) hS1 ?hy17 ?_
          case hy17 => (intro W hW; clear hW; go_simp; try rfl)
          simp only [Act.put, List.setIfInBounds_toArray, List.set_cons_zero, List.set_cons_succ]
          refine takeInH 17 12 ?v18 rfl rfl (by kernel_rfl) (by kernel_rfl) (by kernel_rfl) (fun _ _ _ h => h) (by kernel_rfl) hS1 ?hy18 ?_
          case hy18 => (intro W hW; clear hW; go_simp; try rfl)
          simp only [Act.put, List.setIfInBounds_toArray, List.set_cons_zero, List.set_cons_succ]
          refine wpAnyH_done (by kernel_rfl) ?_ _
          go_wp2
          go_roundw
          case rel => exact ⟨i + 1, p3, c3, by omega, by go_num, (by rw [HKN.out, HNV.out]), (show Hid _ by rw [HKN.out, HNV.out]; exact HN3.out), (show Hid _ by rw [HKN.out, HNV.out]; exact HC3.out), (show Hid _ from HXc.out.below (bel_next BU.out hS1)), (show Hid _ from HXk.out.below (bel_next BU.out hS1)), (show Hid _ from HB1.out.trans ((bel_next BU.out hS1).mono HB1.out.size))⟩
          case measure => simp [intOf]; omega
      · have hg : (k d.rep : Int) < (M : Int) := by omega
        have HKN : Hid (knA kK k (l.take (i + 1)) = knA kK k (l.take i)) := by unfold Hid; rw [takeG_snoc HX.out]; exact knA_not (by rw [HM.out]; exact hle)
        obtain ⟨kr, hkr⟩ : ∃ x, k d.rep = x := ⟨_, rfl⟩
        rw [hkr] at x2 hg
        have hg2 : decide ((kr : Int) < (M : Int)) = true := decide_eq_true hg
        clear hkr hle hk9
        refine wp_region_held_drew (S := fun W => Below u1.heap.size u1 W) (by kernel_rfl) ((Below.refl _ u1).drew) (fun hS0 => ?_)
        refine takeInH 0 30 ?v19 rfl rfl (by kernel_rfl) (by kernel_rfl) (by kernel_rfl) (fun _ _ _ h => h) (by kernel_rfl) hS0 ?hy19 ?_
        case hy19 => (intro W hW; clear hW; go_simp; try rfl)
        simp only [Act.put, List.setIfInBounds_toArray, List.set_cons_zero, List.set_cons_succ]
        refine takeInH 1 31 ?v20 rfl rfl (by kernel_rfl) (by kernel_rfl) (by kernel_rfl) (fun _ _ _ h => h) (by kernel_rfl) hS0 ?hy20 ?_
        case hy20 => (intro W hW; clear hW; go_simp; try rfl)
        simp only [Act.put, List.setIfInBounds_toArray, List.set_cons_zero, List.set_cons_succ]
        refine takeInH 2 32 ?v21 rfl rfl (by kernel_rfl) (by kernel_rfl) (by kernel_rfl) (fun _ _ _ h => h) (by kernel_rfl) hS0 ?hy21 ?_
        case hy21 => (intro W hW; have e0 := bcell hW x1; have e1 := bcell hW x2; clear hW; go_simp; try rfl)
        simp only [Act.put, List.setIfInBounds_toArray, List.set_cons_zero, List.set_cons_succ]
        refine takeInH 3 33 ?v22 rfl rfl (by kernel_rfl) (by kernel_rfl) (by kernel_rfl) (fun _ _ _ h => h) (by kernel_rfl) hS0 ?hy22 ?_
        case hy22 => (intro W hW; clear hW; go_simp; try rfl)
        simp only [Act.put, List.setIfInBounds_toArray, List.set_cons_zero, List.set_cons_succ]
        refine takeInH 4 34 ?v23 rfl rfl (by kernel_rfl) (by kernel_rfl) (by kernel_rfl) (fun _ _ _ h => h) (by kernel_rfl) hS0 ?hy23 ?_
        case hy23 => (intro W hW; clear hW; go_simp; try rfl)
        simp only [Act.put, List.setIfInBounds_toArray, List.set_cons_zero, List.set_cons_succ]
        refine takeInH 5 35 ?v24 rfl rfl (by kernel_rfl) (by kernel_rfl) (by kernel_rfl) (fun _ _ _ h => h) (by kernel_rfl) hS0 ?hy24 ?_
        case hy24 => (intro W hW; have e0 := bcell hW x1; have e1 := bcell hW x2; clear hW; go_simp; try rfl)
        simp only [Act.put, List.setIfInBounds_toArray, List.set_cons_zero, List.set_cons_succ]
        refine takeInH 6 36 ?v25 rfl rfl (by kernel_rfl) (by kernel_rfl) (by kernel_rfl) (fun _ _ _ h => h) (by kernel_rfl) hS0 ?hy25 ?_
        case hy25 => (intro W hW; clear hW; go_simp; try rfl)
        simp only [Act.put, List.setIfInBounds_toArray, List.set_cons_zero, List.set_cons_succ]
        refine wpAnyH_done (by kernel_rfl) ?_ _
        go_wp2
        go_roundw
        case rel => exact ⟨i + 1, p, c, by omega, by go_num, (by rw [HKN.out, HNL.out]), (show Hid _ by rw [HKN.out, HNL.out]; exact HA.out.below hS0), (show Hid _ by rw [HKN.out, HNL.out]; exact HC.out), (show Hid _ from HXc.out.below hS0), (show Hid _ from HXk.out.below hS0), (show Hid _ from HB1.out.trans (hS0.mono HB1.out.size))⟩
        case measure => simp [intOf]; omega
    · obtain rfl : i = n := by omega
      have HL : Hid (l.take i = l) := List.take_of_length_le (by rw [HLEN.out]; exact Nat.le_refl _)
      rw [HL.out] at HA HC ⊢
      go_wp2
      go_ret
      exact ⟨p, c, rfl, HA.out, HC.out, HB.out⟩
end Go.Proofs.Ytbihgcmnllajpaa
