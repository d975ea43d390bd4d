/- Lines of a rule set in memory; an operation's line by the document (layer 15). -/
import Derived.Test.YtadmibfnjhockaaDoorN1
import Derived.Test.YtadmibfnjhockaaDoorGFt
import Derived.Test.YtadmibfnjhockaaDoorGOw
namespace Go.Proofs.YtadmibfnjhockaaDoor
open Go.RowKit Go.Lib
set_option linter.unusedVariables false
def encDd (d : Dd) : List Value := [.int .i64 d.1, .string d.2.1, .int .i64 d.2.2]
theorem encDd_len (d : Dd) : (encDd d).length = 3 := rfl
theorem encDd_one (d : Dd) : ∀ v ∈ encDd d, v.oneCell' = true := fun v hv => by
  simp only [encDd, List.mem_cons, List.not_mem_nil, or_false] at hv
  rcases hv with rfl | rfl | rfl <;> rfl
theorem Tryd.infoDd : (Tryd.prog.info? 66).map (fun i => (i.zero, i.size, i.bytes)) = some (some (.agg #[.int .i64 0, .string ⟨#[]⟩, .int .i64 0]), 3, 32) := by kernel_rfl
theorem Tryd.sizeDc : (Tryd.prog.info? 32).map (·.size) = some 7 := by kernel_rfl
abbrev OwnDd (N : Nat) (w : World) (v : Value) (l : List Dd) : Prop := OwnR encDd 3 66 N w v l
theorem tyDE : (66 : TypeId) ≠ 32 := by decide
/-- A line's cells. -/
def decV (d : Dc) (p : Option Addr) (n c : Nat) : Array Value := #[.int .i64 d.1, .bool d.2.1, .string d.2.2.1, .string d.2.2.2.1, .int .i64 d.2.2.2.2.1, .slice p n c, .int .i64 d.2.2.2.2.2.2]
/-- The line that a row is. -/
def RDc : Rf Dc := fun w r d F => ∃ p n c, r = (decV d p n c).toList ∧ RS encDd 3 w p n d.2.2.2.2.2.1 ∧ CP p n c ∧ FlF w p n F
theorem RDc.st : StF RDc := by
  refine ⟨?_, ?_⟩
  · rintro w w' r d F ⟨p, n, c, h1, h2, h3, h4, h5⟩ hk
    refine ⟨p, n, c, h1, h2.keep (fun h0 b hb => hk _ (h5 h0 b hb)), h3, fun g hg => ?_, h5⟩
    have q := h4 g hg
    have e := hk g hg
    rw [Array.getElem?_eq_getElem q] at e
    exact (Array.getElem?_eq_some_iff.1 e).1
  · rintro w r d F ⟨p, n, c, h1, h2, h3, h4, h5⟩
    exact h4
theorem results_ctt {P : Program} {fn : Func} {p q u : Tmp} {ty : TypeId} (h : fn.results = #[.cell p ty, .tmp q, .tmp u]) (tmps : Array Value) (w : World) (g : Nat) (t : TypeId) (cs : Array Value) (fr : Nat × Nat) (d : TypeDesc) (v v' : Value)
    (hp : tmps.getD p undef = .pointer (some ⟨g, 0, none⟩)) (hq : tmps.getD q undef = v) (hu' : tmps.getD u undef = v') (hg : w.heap[g]? = some (.cells cs t fr))
    (hu : P.underlying ty = some d) (hd : (match d with | .struct _ | .array _ _ => true | _ => false) = true) (hi : (P.info? ty).map (·.size) = some cs.size) :
    (results fn tmps).run P w = .ok (.tuple #[.agg cs, v, v']) w := by
  have hp' : tmps[p]?.getD undef = .pointer (some ⟨g, 0, none⟩) := by simpa using hp
  have hq' : tmps[q]?.getD undef = v := by simpa using hq
  have hu2 : tmps[u]?.getD undef = v' := by simpa using hu'
  simp [results, h, hp', hq', hu2, asAddr, run_loadVar_row w g t ty cs fr d hg hu hd hi]
section
variable {α : Type} {enc : α → List Value} {k : Nat} {T : TypeId}
theorem OwnR.set7 {N : Nat} {w : World} {v : Value} {l : List α} {g : Nat} (h : OwnR enc k T N w v l) (ho : v.ownBlock ≠ some g) (a b c d e f i : Value) : OwnR enc k T N (((((((w.setCell ⟨g, 0, none⟩ a).setCell ⟨g, 1, none⟩ b).setCell ⟨g, 2, none⟩ c).setCell ⟨g, 3, none⟩ d).setCell ⟨g, 4, none⟩ e).setCell ⟨g, 5, none⟩ f).setCell ⟨g, 6, none⟩ i) v l := ((((((h.set ho 0 a).set ho 1 b).set ho 2 c).set ho 3 d).set ho 4 e).set ho 5 f).set ho 6 i
end
theorem bel_put7 {N g : Nat} {w W : World} (h : Below N w W) (hg : N ≤ g) (a b c d e f i : Value) : Below N w (((((((W.setCell ⟨g, 0, none⟩ a).setCell ⟨g, 1, none⟩ b).setCell ⟨g, 2, none⟩ c).setCell ⟨g, 3, none⟩ d).setCell ⟨g, 4, none⟩ e).setCell ⟨g, 5, none⟩ f).setCell ⟨g, 6, none⟩ i) := ((((((h.setCell (p := ⟨g, 0, none⟩) hg a).setCell (p := ⟨g, 1, none⟩) hg b).setCell (p := ⟨g, 2, none⟩) hg c).setCell (p := ⟨g, 3, none⟩) hg d).setCell (p := ⟨g, 4, none⟩) hg e).setCell (p := ⟨g, 5, none⟩) hg f).setCell (p := ⟨g, 6, none⟩) hg i
/-- An operation's line, from its name on. -/
def opR (l : List Tk) (i : Nat) : Dc × Nat × Bool :=
  if namU l i = false then ((10, false, ⟨#[]⟩, ⟨#[]⟩, 0, [], 0), i, false)
  else if isU l (i + 1) 3 = false then ((10, false, txtU l i, ⟨#[]⟩, 0, [], 0), i + 1, false)
  else ((10, false, txtU l i, ⟨#[]⟩, 0, (opU l 17 (i + 1) []).1, 0), (opU l 17 (i + 1) []).2)
theorem deedU_cases (s : ByteArray) : (deedU s).1 = 0 ∨ ∃ kd : Int, kd ≠ 0 ∧ (deedU s = (kd, [110]) ∨ deedU s = (kd, [110, 100])) := by
  unfold deedU
  split
  · exact .inr ⟨1, by decide, .inl rfl⟩
  split
  · exact .inr ⟨2, by decide, .inl rfl⟩
  split
  · exact .inr ⟨6, by decide, .inl rfl⟩
  split
  · exact .inr ⟨3, by decide, .inr rfl⟩
  split
  · exact .inr ⟨4, by decide, .inr rfl⟩
  · exact .inl rfl
theorem frm1 {l : List Tk} {i : Nat} : frmU l i [110] = if namU l i = true then 1 else 0 := rfl
theorem frm2 {l : List Tk} {i : Nat} : frmU l i [110, 100] = if namU l i = true then (if isU l (i + 1) 2 = true then 2 else 1) else 0 := by
  rw [frmU, if_pos rfl]
  show (if namU l i = true then (if (if (100 : Int) = 110 then namU l (i + 1) else isU l (i + 1) 2) = true then 0 + 1 else 0) + 1 else 0) = _
  rw [if_neg (show ¬ (100 : Int) = 110 by decide)]
  rcases isU l (i + 1) 2 with _ | _ <;> rcases namU l i with _ | _ <;> rfl
theorem opU_zero {l : List Tk} {f i : Nat} {ds : List Dd} (h : (deedU (txtU l (i + 1))).1 = 0) : opU l (f + 1) i ds = (ds, i + 1, false) := by
  simp only [opU]
  rw [if_pos h]
theorem opU_less {l : List Tk} {f i : Nat} {ds : List Dd} {kd : Int} {fm : List Int} (h : deedU (txtU l (i + 1)) = (kd, fm)) (h0 : kd ≠ 0) (hk : frmU l (i + 2) fm < fm.length) : opU l (f + 1) i ds = (ds, i + 2 + frmU l (i + 2) fm, false) := by
  simp only [opU, h]
  rw [if_neg h0, if_pos hk]
theorem opU_more {l : List Tk} {f i : Nat} {ds : List Dd} {kd : Int} {fm : List Int} (h : deedU (txtU l (i + 1)) = (kd, fm)) (h0 : kd ≠ 0) (hk : frmU l (i + 2) fm = fm.length) : opU l (f + 1) i ds = (if isU l (i + 2 + fm.length) 4 = false ∨ (ds ++ [(kd, txtU l (i + 2), if fm.length = 2 then numU l (i + 3) else 0)]).length = 16 then (ds ++ [(kd, txtU l (i + 2), if fm.length = 2 then numU l (i + 3) else 0)], i + 2 + fm.length, true) else opU l f (i + 2 + fm.length) (ds ++ [(kd, txtU l (i + 2), if fm.length = 2 then numU l (i + 3) else 0)])) := by
  simp only [opU, h]
  rw [if_neg h0, if_neg (by omega), hk]
theorem num_at {w : World} {a : Option Addr} {n : Nat} {l : List Tk} (hA : KS w a n l) {i : Nat} {k : Int} (h : isU l i k = true) : ∃ b off, a = some ⟨b, off, none⟩ ∧ i < n ∧ w.cell? ⟨b, off + i * 4 + 2, none⟩ = some (.int .i64 (numU l i)) := by
  by_cases hlt : i < n
  · obtain ⟨b, off, rfl⟩ := hA.addr (by omega)
    obtain ⟨kd, tx, nn, ln, hx, _, _, c2, _⟩ := hA.at i hlt
    refine ⟨b, off, rfl, hlt, ?_⟩
    unfold numU
    rw [hx]
    exact c2
  · rw [isU_far (by rw [hA.1]; omega)] at h
    cases h
theorem nam_is1 {l : List Tk} {i : Nat} (h : namU l i = true) : isU l i 1 = true := by
  rw [namU_is, Bool.and_eq_true] at h
  exact h.1
set_option maxRecDepth 2000 in
set_option maxHeartbeats 8000000 in
theorem oper15 (a : Option Addr) (n cap : Nat) (l : List Tk) (i : Nat) (w : World) (hA : KS w a n l) (hi : i ≤ 1000) : Calls Tryd.prog 30 #[.slice a n cap, .int .i64 i] w fun e w' => ∃ (d : Dc) (p : Option Addr) (c at' : Nat) (ok : Bool), e = .returned (.tuple #[.agg (decV d p d.2.2.2.2.2.1.length c), .int .i64 at', .bool ok]) ∧ opR l i = (d, at', ok) ∧ OwnDd w.heap.size w' (.slice p d.2.2.2.2.2.1.length c) d.2.2.2.2.2.1 ∧ Below w.heap.size w w' := by
  have HK0 := hide hA
  have HB : Hid (Below w.heap.size w ((w.alloc (.cells #[.int .i64 0, .bool false, .string ⟨#[]⟩, .string ⟨#[]⟩, .int .i64 0, .slice none 0 0, .int .i64 0] 32)).alloc (.cells #[.int .i64 10, .bool false, .string ⟨#[]⟩, .string ⟨#[]⟩, .int .i64 0, .slice none 0 0, .int .i64 0] 32))) := bel_next (bel1 w _) (bel1 _ _)
  have HX4 : Hid (BX ((w.alloc (.cells #[.int .i64 0, .bool false, .string ⟨#[]⟩, .string ⟨#[]⟩, .int .i64 0, .slice none 0 0, .int .i64 0] 32)).alloc (.cells #[.int .i64 10, .bool false, .string ⟨#[]⟩, .string ⟨#[]⟩, .int .i64 0, .slice none 0 0, .int .i64 0] 32)) w.heap.size #[.int .i64 0, .bool false, .string ⟨#[]⟩, .string ⟨#[]⟩, .int .i64 0, .slice none 0 0, .int .i64 0] 32) := (BX.new w _ rfl _ _).below (bel1 _ _)
  have HX7 : Hid (BX ((w.alloc (.cells #[.int .i64 0, .bool false, .string ⟨#[]⟩, .string ⟨#[]⟩, .int .i64 0, .slice none 0 0, .int .i64 0] 32)).alloc (.cells #[.int .i64 10, .bool false, .string ⟨#[]⟩, .string ⟨#[]⟩, .int .i64 0, .slice none 0 0, .int .i64 0] 32)) (w.heap.size + 1) #[.int .i64 10, .bool false, .string ⟨#[]⟩, .string ⟨#[]⟩, .int .i64 0, .slice none 0 0, .int .i64 0] 32) := BX.new _ _ (by simp) _ _
  have HK := hide (hA.below HB.out)
  clear hA
  rcases hnm : namU l i with _ | _
  · have HOR : Hid (opR l i = ((10, false, ⟨#[]⟩, ⟨#[]⟩, 0, [], 0), i, false)) := by unfold Hid opR; rw [if_pos hnm]
    have HNM : Hid (∀ W, KS W a n l → Calls Tryd.prog 29 #[.slice a n cap, .int .i64 i] W fun e w' => e = .returned (.bool false) ∧ Below W.heap.size W w') := fun W h => by
      have q := name15 a n cap l i W h (by omega)
      rw [hnm] at q
      exact q
    clear hnm HK0
    go_enter Tryd.func30, Tryd.ntmps30
    go_upto_region 2 with fail
    generalize (w.alloc (.cells #[.int .i64 0, .bool false, .string ⟨#[]⟩, .string ⟨#[]⟩, .int .i64 0, .slice none 0 0, .int .i64 0] 32)).alloc (.cells #[.int .i64 10, .bool false, .string ⟨#[]⟩, .string ⟨#[]⟩, .int .i64 0, .slice none 0 0, .int .i64 0] 32) = w2 at *
    have HO : Hid (OwnDd w.heap.size w2 (.slice none 0 0) []) := OwnR.nil _ _
    go_upto_region 3 with (go_at_call 29; refine (HNM.out _ HK.out).mono ?_; rintro e w3 ⟨rfl, hb⟩; replace HX4 := hide (HX4.out.below hb); replace HX7 := hide (HX7.out.below hb); replace HO := hide (HO.out.below hb); replace HK := hide (HK.out.below hb); replace HB := hide (bel_next HB.out hb); clear hb)
    have c0 := HX7.out.cell 0 _ rfl
    have c1 := HX7.out.cell 1 _ rfl
    have c2 := HX7.out.cell 2 _ rfl
    have c3 := HX7.out.cell 3 _ rfl
    have c4 := HX7.out.cell 4 _ rfl
    have c5 := HX7.out.cell 5 _ rfl
    have c6 := HX7.out.cell 6 _ rfl
    have z0 := HX4.out.cell 0 _ rfl
    have y0 := HX4.out.free 0
    have z1 := HX4.out.cell 1 _ rfl
    have y1 := HX4.out.free 1
    have z2 := HX4.out.cell 2 _ rfl
    have y2 := HX4.out.free 2
    have z3 := HX4.out.cell 3 _ rfl
    have y3 := HX4.out.free 3
    have z4 := HX4.out.cell 4 _ rfl
    have y4 := HX4.out.free 4
    have z5 := HX4.out.cell 5 _ rfl
    have y5 := HX4.out.free 5
    have z6 := HX4.out.cell 6 _ rfl
    have y6 := HX4.out.free 6
    go_wp2
    refine bodyPost_ret (results_ctt rfl _ _ _ _ _ _ _ _ _ rfl rfl rfl (HX4.out.put7 _ _ _ _ _ _ _).1 Tryd.underlying32 rfl Tryd.sizeDc) rfl ?_
    exact ⟨(10, false, ⟨#[]⟩, ⟨#[]⟩, 0, [], 0), none, 0, _, _, rfl, HOR.out, HO.out.set7 (HO.out.off HX4.out tyDE) _ _ _ _ _ _ _, bel_put7 HB.out (Nat.le_refl _) _ _ _ _ _ _ _⟩
  · obtain ⟨b, off, rfl, hlt, c1⟩ := is_at HK.out (nam_is1 hnm)
    have hi0 : (0 : Int) ≤ (i : Int) := by omega
    have hi1 : (i : Int) < (n : Int) := by omega
    have HIX := hide (nam_is1 hnm)
    have hne : w.heap.size + 1 ≠ w.heap.size := by omega
    obtain ⟨nm, hnm0⟩ : ∃ nm, txtU l i = nm := ⟨_, rfl⟩
    have HNM0 := hide hnm0
    clear c1
    rcases hco : isU l (i + 1) 3 with _ | _
    · have HOR : Hid (opR l i = ((10, false, nm, ⟨#[]⟩, 0, [], 0), i + 1, false)) := by unfold Hid opR; rw [if_neg (by rw [hnm]; decide), if_pos hco, hnm0]
      have HIS : Hid (∀ W, KS W (some ⟨b, off, none⟩) n l → Calls Tryd.prog 18 #[.slice (some ⟨b, off, none⟩) n cap, .int .i64 ((i : Int) + 1), .int .i64 3, .string ⟨#[]⟩] W fun e w' => e = .returned (.bool false) ∧ w' = W) := fun W h => by
        have q := is15 (some ⟨b, off, none⟩) n cap l (i + 1) 3 W h (by omega)
        rw [show ((i + 1 : Nat) : Int) = (i : Int) + 1 by omega, hco] at q
        exact q
      clear hnm0 hco
      have HNM : Hid (∀ W, KS W (some ⟨b, off, none⟩) n l → Calls Tryd.prog 29 #[.slice (some ⟨b, off, none⟩) n cap, .int .i64 i] W fun e w' => e = .returned (.bool true) ∧ Below W.heap.size W w') := fun W h => by
        have q := name15 (some ⟨b, off, none⟩) n cap l i W h (by omega)
        rw [hnm] at q
        exact q
      clear hnm
      go_enter Tryd.func30, Tryd.ntmps30
      go_upto_region 2 with fail
      generalize (w.alloc (.cells #[.int .i64 0, .bool false, .string ⟨#[]⟩, .string ⟨#[]⟩, .int .i64 0, .slice none 0 0, .int .i64 0] 32)).alloc (.cells #[.int .i64 10, .bool false, .string ⟨#[]⟩, .string ⟨#[]⟩, .int .i64 0, .slice none 0 0, .int .i64 0] 32) = w2 at *
      have HO : Hid (OwnDd w.heap.size w2 (.slice none 0 0) []) := OwnR.nil _ _
      go_upto_region 4 with (go_at_call 29; refine (HNM.out _ HK.out).mono ?_; rintro e w3 ⟨rfl, hb⟩; replace HX4 := hide (HX4.out.below hb); replace HX7 := hide (HX7.out.below hb); replace HO := hide (HO.out.below hb); replace HK := hide (HK.out.below hb); replace HB := hide (bel_next HB.out hb); clear hb)
      obtain ⟨b', off', hbo, _, c1⟩ := is_at HK.out HIX.out
      cases hbo
      have e2 := HX7.out.cell 2 _ rfl
      have y2 := HX7.out.free 2
      rw [HNM0.out] at c1
      go_upto_region 5 with fail
      replace HX4 := hide (HX4.out.other hne 2 (.string nm))
      replace HX7 : Hid (BX (w3.setCell ⟨w.heap.size + 1, 2, none⟩ (.string nm)) (w.heap.size + 1) #[.int .i64 10, .bool false, .string nm, .string ⟨#[]⟩, .int .i64 0, .slice none 0 0, .int .i64 0] 32) := HX7.out.set 2 _
      replace HB := hide (HB.out.setCell (p := ⟨w.heap.size + 1, 2, none⟩) (Nat.le_succ _) (.string nm))
      replace HK := hide (HK0.out.below HB.out)
      clear c1 e2 y2 HO
      generalize w3.setCell ⟨w.heap.size + 1, 2, none⟩ (.string nm) = w5 at *
      have HO : Hid (OwnDd w.heap.size w5 (.slice none 0 0) []) := OwnR.nil _ _
      go_upto_region 7 with (go_at_call 18; refine (HIS.out _ HK.out).mono ?_; rintro e wi ⟨rfl, hw9⟩; have hw8 := hw9.symm; subst hw8; clear hw9)
      have c0 := HX7.out.cell 0 _ rfl
      have c1 := HX7.out.cell 1 _ rfl
      have c2 := HX7.out.cell 2 _ rfl
      have c3 := HX7.out.cell 3 _ rfl
      have c4 := HX7.out.cell 4 _ rfl
      have c5 := HX7.out.cell 5 _ rfl
      have c6 := HX7.out.cell 6 _ rfl
      have z0 := HX4.out.cell 0 _ rfl
      have y0 := HX4.out.free 0
      have z1 := HX4.out.cell 1 _ rfl
      have y1 := HX4.out.free 1
      have z2 := HX4.out.cell 2 _ rfl
      have y2 := HX4.out.free 2
      have z3 := HX4.out.cell 3 _ rfl
      have y3 := HX4.out.free 3
      have z4 := HX4.out.cell 4 _ rfl
      have y4 := HX4.out.free 4
      have z5 := HX4.out.cell 5 _ rfl
      have y5 := HX4.out.free 5
      have z6 := HX4.out.cell 6 _ rfl
      have y6 := HX4.out.free 6
      go_wp2
      refine bodyPost_ret (results_ctt rfl _ _ _ _ _ _ _ _ _ rfl rfl rfl (HX4.out.put7 _ _ _ _ _ _ _).1 Tryd.underlying32 rfl Tryd.sizeDc) rfl ?_
      exact ⟨(10, false, nm, ⟨#[]⟩, 0, [], 0), none, 0, _, _, rfl, HOR.out, HO.out.set7 (HO.out.off HX4.out tyDE) _ _ _ _ _ _ _, bel_put7 HB.out (Nat.le_refl _) _ _ _ _ _ _ _⟩
    · have HOR : Hid (∀ ds at' ok, opU l 17 (i + 1) [] = (ds, at', ok) → opR l i = ((10, false, nm, ⟨#[]⟩, 0, ds, 0), at', ok)) := fun ds at' ok h => by unfold opR; rw [if_neg (by rw [hnm]; decide), if_neg (by rw [hco]; decide), hnm0, h]
      have HIS : Hid (∀ W, KS W (some ⟨b, off, none⟩) n l → Calls Tryd.prog 18 #[.slice (some ⟨b, off, none⟩) n cap, .int .i64 ((i : Int) + 1), .int .i64 3, .string ⟨#[]⟩] W fun e w' => e = .returned (.bool true) ∧ w' = W) := fun W h => by
        have q := is15 (some ⟨b, off, none⟩) n cap l (i + 1) 3 W h (by omega)
        rw [show ((i + 1 : Nat) : Int) = (i : Int) + 1 by omega, hco] at q
        exact q
      clear hnm0 hco
      have HNM : Hid (∀ W, KS W (some ⟨b, off, none⟩) n l → Calls Tryd.prog 29 #[.slice (some ⟨b, off, none⟩) n cap, .int .i64 i] W fun e w' => e = .returned (.bool true) ∧ Below W.heap.size W w') := fun W h => by
        have q := name15 (some ⟨b, off, none⟩) n cap l i W h (by omega)
        rw [hnm] at q
        exact q
      clear hnm
      go_enter Tryd.func30, Tryd.ntmps30
      go_upto_region 2 with fail
      generalize (w.alloc (.cells #[.int .i64 0, .bool false, .string ⟨#[]⟩, .string ⟨#[]⟩, .int .i64 0, .slice none 0 0, .int .i64 0] 32)).alloc (.cells #[.int .i64 10, .bool false, .string ⟨#[]⟩, .string ⟨#[]⟩, .int .i64 0, .slice none 0 0, .int .i64 0] 32) = w2 at *
      have HO : Hid (OwnDd w.heap.size w2 (.slice none 0 0) []) := OwnR.nil _ _
      go_upto_region 4 with (go_at_call 29; refine (HNM.out _ HK.out).mono ?_; rintro e w3 ⟨rfl, hb⟩; replace HX4 := hide (HX4.out.below hb); replace HX7 := hide (HX7.out.below hb); replace HO := hide (HO.out.below hb); replace HK := hide (HK.out.below hb); replace HB := hide (bel_next HB.out hb); clear hb)
      obtain ⟨b', off', hbo, _, c1⟩ := is_at HK.out HIX.out
      cases hbo
      have e2 := HX7.out.cell 2 _ rfl
      have y2 := HX7.out.free 2
      rw [HNM0.out] at c1
      go_upto_region 5 with fail
      replace HX4 := hide (HX4.out.other hne 2 (.string nm))
      replace HX7 : Hid (BX (w3.setCell ⟨w.heap.size + 1, 2, none⟩ (.string nm)) (w.heap.size + 1) #[.int .i64 10, .bool false, .string nm, .string ⟨#[]⟩, .int .i64 0, .slice none 0 0, .int .i64 0] 32) := HX7.out.set 2 _
      replace HB := hide (HB.out.setCell (p := ⟨w.heap.size + 1, 2, none⟩) (Nat.le_succ _) (.string nm))
      replace HK := hide (HK0.out.below HB.out)
      clear c1 e2 y2 HO
      generalize w3.setCell ⟨w.heap.size + 1, 2, none⟩ (.string nm) = w5 at *
      have HO : Hid (OwnDd w.heap.size w5 (.slice none 0 0) []) := OwnR.nil _ _
      go_wp2_with (go_at_call 18; refine (HIS.out _ HK.out).mono ?_; rintro e wi ⟨rfl, hw9⟩; have hw8 := hw9.symm; subst hw8; clear hw9)
      go_loopw [1, 8, 9, 10, 11] (fun v _ _ _ _ wr => ∃ (j : Nat) (ds : List Dd) (p : Option Addr) (c : Nat), v = .int .i64 j ∧ i + 1 ≤ j ∧ j ≤ i + 1 + 4 * ds.length ∧ ds.length ≤ 15 ∧ Hid (opU l (17 - ds.length) j ds = opU l 17 (i + 1) []) ∧ Hid (BX wr w.heap.size #[.int .i64 0, .bool false, .string ⟨#[]⟩, .string ⟨#[]⟩, .int .i64 0, .slice none 0 0, .int .i64 0] 32) ∧ Hid (BX wr (w.heap.size + 1) #[.int .i64 10, .bool false, .string nm, .string ⟨#[]⟩, .int .i64 0, .slice p ds.length c, .int .i64 0] 32) ∧ Hid (OwnDd w.heap.size wr (.slice p ds.length c) ds) ∧ Hid (Below w.heap.size w wr)) (fun v _ _ _ _ _ => 5000 - (intOf v).toNat)
      case atStart => exact ⟨i + 1, [], none, 0, by go_num, by omega, by omega, by simp, rfl, HX4, HX7, HO, HB⟩
      case round =>
        obtain ⟨j, ds, p, c, rfl, hj0, hj1, hdl, HF, HX4, HX7, HO, HB⟩ := hrel
        have HK := hide (HK0.out.below HB.out)
        have hj2 : (0 : Int) ≤ (j : Int) := by omega
        have hj3 : (j : Int) ≤ 2000 := by omega
        obtain ⟨s1, hs1⟩ : ∃ s1, txtU l (j + 1) = s1 := ⟨_, rfl⟩
        have HTX : Hid (∀ W, KS W (some ⟨b, off, none⟩) n l → Calls Tryd.prog 28 #[.slice (some ⟨b, off, none⟩) n cap, .int .i64 ((j : Int) + 1)] W fun e w' => e = .returned (.string s1) ∧ w' = W) := fun W h => by
          have q := text15 (some ⟨b, off, none⟩) n cap l (j + 1) W h (by omega)
          rw [hs1, show ((j + 1 : Nat) : Int) = (j : Int) + 1 by omega] at q
          exact q
        obtain ⟨f, hfu⟩ : ∃ f, 17 - ds.length = f + 1 := ⟨16 - ds.length, by omega⟩
        rcases deedU_cases s1 with hk0 | ⟨kd, hkd, hde⟩
        · have HDE : Hid (∀ W, Calls Tryd.prog 39 #[.string s1] W fun e w' => e = .returned (.tuple #[.int .i64 0, .string (strOfNums (deedU s1).2)]) ∧ w' = W) := fun W => by
            have q := deed15 s1 W
            rw [hk0] at q
            exact q
          generalize strOfNums (deedU s1).2 = FM at HDE
          have HRS : Hid (opU l 17 (i + 1) [] = (ds, j + 1, false)) := by unfold Hid; rw [← HF.out, hfu]; exact opU_zero (by rw [hs1]; exact hk0)
          clear hk0 hfu hs1 HF
          go_upto_region 11 with (first | (go_at_call 28; refine (HTX.out _ HK.out).mono ?_; rintro e wi ⟨rfl, hw9⟩; have hw8 := hw9.symm; subst hw8; clear hw9) | (go_at_call 39; refine (HDE.out _).mono ?_; rintro e wi ⟨rfl, hw9⟩; have hw8 := hw9.symm; subst hw8; clear hw9))
          have c0 := HX7.out.cell 0 _ rfl
          have c1 := HX7.out.cell 1 _ rfl
          have c2 := HX7.out.cell 2 _ rfl
          have c3 := HX7.out.cell 3 _ rfl
          have c4 := HX7.out.cell 4 _ rfl
          have c5 := HX7.out.cell 5 _ rfl
          have c6 := HX7.out.cell 6 _ rfl
          have z0 := HX4.out.cell 0 _ rfl
          have y0 := HX4.out.free 0
          have z1 := HX4.out.cell 1 _ rfl
          have y1 := HX4.out.free 1
          have z2 := HX4.out.cell 2 _ rfl
          have y2 := HX4.out.free 2
          have z3 := HX4.out.cell 3 _ rfl
          have y3 := HX4.out.free 3
          have z4 := HX4.out.cell 4 _ rfl
          have y4 := HX4.out.free 4
          have z5 := HX4.out.cell 5 _ rfl
          have y5 := HX4.out.free 5
          have z6 := HX4.out.cell 6 _ rfl
          have y6 := HX4.out.free 6
          go_wp2
          refine bodyPost_ret (results_ctt rfl _ _ _ _ _ _ _ _ _ rfl rfl rfl (HX4.out.put7 _ _ _ _ _ _ _).1 Tryd.underlying32 rfl Tryd.sizeDc) rfl ?_
          exact ⟨(10, false, nm, ⟨#[]⟩, 0, ds, 0), p, c, _, _, rfl, HOR.out _ _ _ HRS.out, HO.out.set7 (HO.out.off HX4.out tyDE) _ _ _ _ _ _ _, bel_put7 HB.out (Nat.le_refl _) _ _ _ _ _ _ _⟩
        · rcases hde with hde | hde
          · have hds : deedU (txtU l (j + 1)) = (kd, [110]) := by rw [hs1]; exact hde
            have HDE : Hid (∀ W, Calls Tryd.prog 39 #[.string s1] W fun e w' => e = .returned (.tuple #[.int .i64 kd, .string (strOfNums [110])]) ∧ w' = W) := fun W => by
              have q := deed15 s1 W
              rw [hde] at q
              exact q
            have HNS : Hid (∀ (x : Int) W, x = (j : Int) + 2 → KS W (some ⟨b, off, none⟩) n l → Calls Tryd.prog 32 #[.slice (some ⟨b, off, none⟩) n cap, .int .i64 x, .string (strOfNums [110])] W fun e w' => e = .returned (.int .i64 (frmU l (j + 2) [110])) ∧ Below W.heap.size W w') := fun x W hx h => by
              have q := names15 (some ⟨b, off, none⟩) n cap l (j + 2) (strOfNums [110]) W h (by omega) (by decide) (by decide)
              rw [show (((j + 2 : Nat)) : Int) = x by omega, bytes_str (l := [110]) (by intro c hc; simp at hc; omega)] at q
              exact q
            have hsz : (strOfNums [110]).size = 1 := rfl
            have g0 : (kd == 0) = false := by simpa using hkd
            by_cases hk : frmU l (j + 2) [110] < 1
            · have HRS : Hid (opU l 17 (i + 1) [] = (ds, j + 2 + frmU l (j + 2) [110], false)) := by unfold Hid; rw [← HF.out, hfu]; exact opU_less hds hkd hk
              obtain ⟨kk, hkk⟩ : ∃ kk, frmU l (j + 2) [110] = kk := ⟨_, rfl⟩
              rw [hkk] at HNS HRS hk
              have hk1 : (kk : Int) < 1 := by omega
              generalize strOfNums [110] = FM at HDE HNS hsz
              clear hkk hk hds hde hkd HF hfu hs1
              go_upto_region 14 with (first | (go_at_call 28; refine (HTX.out _ HK.out).mono ?_; rintro e wi ⟨rfl, hw9⟩; have hw8 := hw9.symm; subst hw8; clear hw9) | (go_at_call 39; refine (HDE.out _).mono ?_; rintro e wi ⟨rfl, hw9⟩; have hw8 := hw9.symm; subst hw8; clear hw9) | (go_at_call 32; refine (HNS.out _ _ (by omega) HK.out).mono ?_; rintro e w4 ⟨rfl, hb⟩; replace HX4 := hide (HX4.out.below hb); replace HX7 := hide (HX7.out.below hb); replace HO := hide (HO.out.below hb); replace HK := hide (HK.out.below hb); replace HB := hide (bel_next HB.out hb); clear hb))
              have c0 := HX7.out.cell 0 _ rfl
              have c1 := HX7.out.cell 1 _ rfl
              have c2 := HX7.out.cell 2 _ rfl
              have c3 := HX7.out.cell 3 _ rfl
              have c4 := HX7.out.cell 4 _ rfl
              have c5 := HX7.out.cell 5 _ rfl
              have c6 := HX7.out.cell 6 _ rfl
              have z0 := HX4.out.cell 0 _ rfl
              have y0 := HX4.out.free 0
              have z1 := HX4.out.cell 1 _ rfl
              have y1 := HX4.out.free 1
              have z2 := HX4.out.cell 2 _ rfl
              have y2 := HX4.out.free 2
              have z3 := HX4.out.cell 3 _ rfl
              have y3 := HX4.out.free 3
              have z4 := HX4.out.cell 4 _ rfl
              have y4 := HX4.out.free 4
              have z5 := HX4.out.cell 5 _ rfl
              have y5 := HX4.out.free 5
              have z6 := HX4.out.cell 6 _ rfl
              have y6 := HX4.out.free 6
              go_wp2
              refine bodyPost_ret (results_ctt rfl _ _ _ _ _ _ _ _ _ rfl rfl rfl (HX4.out.put7 _ _ _ _ _ _ _).1 Tryd.underlying32 rfl Tryd.sizeDc) rfl ?_
              exact ⟨(10, false, nm, ⟨#[]⟩, 0, ds, 0), p, c, _, _, rfl, HOR.out _ _ _ HRS.out, HO.out.set7 (HO.out.off HX4.out tyDE) _ _ _ _ _ _ _, bel_put7 HB.out (Nat.le_refl _) _ _ _ _ _ _ _⟩
            · have hfe : frmU l (j + 2) [110] = 1 := by
                revert hk
                rw [frm1]
                repeat' split
                all_goals (intro hk; omega)
              have hnm2 : namU l (j + 2) = true := by
                rw [frm1] at hfe
                by_cases h : namU l (j + 2) = true
                · exact h
                · rw [if_neg h] at hfe; cases hfe
              have HOM : Hid (opU l 17 (i + 1) [] = if isU l (j + 2 + 1) 4 = false ∨ (ds ++ [((kd, txtU l (j + 2), 0) : Dd)]).length = 16 then (ds ++ [((kd, txtU l (j + 2), 0) : Dd)], j + 2 + 1, true) else opU l f (j + 2 + 1) (ds ++ [((kd, txtU l (j + 2), 0) : Dd)])) := by
                unfold Hid
                rw [← HF.out, hfu]
                exact opU_more (f := f) (ds := ds) hds hkd hfe
              have HFL : Hid (f + ds.length = 16) := by unfold Hid; omega
              rw [hfe] at HNS
              generalize strOfNums [110] = FM at HDE HNS hsz
              clear hds hde hkd HF hfu hs1 hk hfe
              go_upto_region 15 with (first | (go_at_call 28; refine (HTX.out _ HK.out).mono ?_; rintro e wi ⟨rfl, hw9⟩; have hw8 := hw9.symm; subst hw8; clear hw9) | (go_at_call 39; refine (HDE.out _).mono ?_; rintro e wi ⟨rfl, hw9⟩; have hw8 := hw9.symm; subst hw8; clear hw9) | (go_at_call 32; refine (HNS.out _ _ (by omega) HK.out).mono ?_; rintro e w4 ⟨rfl, hb⟩; replace HX4 := hide (HX4.out.below hb); replace HX7 := hide (HX7.out.below hb); replace HO := hide (HO.out.below hb); replace HK := hide (HK.out.below hb); replace HB := hide (bel_next HB.out hb); clear hb))
              obtain ⟨b', off', hbo, hlt2, c1⟩ := is_at HK.out (nam_is1 hnm2)
              cases hbo
              have hl2 : (j : Int) + 2 < (n : Int) := by omega
              obtain ⟨t2, ht2⟩ : ∃ t2, txtU l (j + 2) = t2 := ⟨_, rfl⟩
              rw [ht2] at c1 HOM
              go_upto_region 16 with fail
              clear c1 hl2 ht2 HTX HDE HNS
              have hb := bel1 w4 (.cells #[.int .i64 kd, .string t2, .int .i64 0] 66)
              have HG : Hid (BX (w4.alloc (.cells #[.int .i64 kd, .string t2, .int .i64 0] 66)) w4.heap.size #[.int .i64 kd, .string t2, .int .i64 0] 66) := BX.new w4 _ rfl _ _
              have hgo := HO.out.old (g := w4.heap.size) (Nat.le_refl _)
              have hg4 : w4.heap.size ≠ w.heap.size := by have := HX7.out.size; omega
              have hg7 : w4.heap.size ≠ w.heap.size + 1 := by have := HX7.out.size; omega
              have hgN : w.heap.size ≤ w4.heap.size := HB.out.size
              replace HX4 := hide (HX4.out.below hb)
              replace HX7 := hide (HX7.out.below hb)
              replace HO := hide (HO.out.below hb)
              replace HK := hide (HK.out.below hb)
              replace HB := hide (bel_next HB.out hb)
              clear hb
              obtain ⟨g, hg⟩ : ∃ g, w4.heap.size = g := ⟨_, rfl⟩
              rw [hg] at HG hgo hg4 hg7 hgN ⊢
              generalize w4.alloc (.cells #[.int .i64 kd, .string t2, .int .i64 0] 66) = w6 at *
              clear hg
              go_upto_region 18 with fail
              generalize w6 = w8 at *
              have BA := hide (bel1 w8 (.cells #[.int .i64 kd, .string t2, .int .i64 0] 66))
              have c5 := HX7.out.cell 5 _ rfl
              have z0 := HG.out.cell 0 _ rfl
              have z1 := HG.out.cell 1 _ rfl
              have z2 := HG.out.cell 2 _ rfl
              go_wp2_with (at_builtin; refine Stop.at ?_)
              unfold Stop
              refine append_rows rfl _ _ 30 rfl Tryd.underlying30 Tryd.infoDd rfl (by decide) (by decide) encDd_len encDd_one w.heap.size _ ds [(kd, t2, 0)] rfl (HO.out.below BA.out) (some ⟨w8.heap.size, 0, none⟩) 1 1 rfl (fun h => by cases h) (RS.new encDd_len w8 _ rfl [(kd, t2, 0)] _ rfl _ _ 1 rfl (by decide)) (by simp; omega) (Nat.le_trans HB.out.size BA.out.size) ?_
              intro v5 w9 ho5 hgr5 hbel5
              have HX45 := hide ((HX4.out.below BA.out).grown hgr5 (HO.out.off HX4.out tyDE))
              have HX75 := hide ((HX7.out.below BA.out).grown hgr5 (HO.out.off HX7.out tyDE))
              have HB5 := hide (hbel5 _ (bel_next HB.out BA.out))
              have HO5 := hide ho5
              obtain ⟨p5, c5', hv5, _, _⟩ := ho5.open encDd_len
              subst hv5
              clear ho5 hgr5 hbel5 c5 z0 z1 z2 BA HX4 HX7 HO HB HG HK hgo hg4 hg7 hgN
              have hle : (ds ++ [((kd, t2, 0) : Dd)]).length = ds.length + 1 := by simp
              have hle1 : (ds ++ [((kd, t2, 0) : Dd)]).length ≤ ds.length + 1 := by omega
              have hle2 : ds.length + 1 ≤ (ds ++ [((kd, t2, 0) : Dd)]).length := by omega
              clear hle
              generalize (ds ++ [((kd, t2, 0) : Dd)]) = ds2 at *
              have x5 := HX75.out.cell 5 _ rfl
              have y5 := HX75.out.free 5
              go_upto_region 19 with fail
              have HX4 := hide (HX45.out.other (show w.heap.size + 1 ≠ w.heap.size by omega) 5 (.slice p5 ds2.length c5'))
              have HX7 : Hid (BX (w9.setCell ⟨w.heap.size + 1, 5, none⟩ (.slice p5 ds2.length c5')) (w.heap.size + 1) #[.int .i64 10, .bool false, .string nm, .string ⟨#[]⟩, .int .i64 0, (.slice p5 ds2.length c5'), .int .i64 0] 32) := HX75.out.set 5 _
              have HO := hide (HO5.out.set (HO5.out.off HX75.out tyDE) 5 (.slice p5 ds2.length c5'))
              have HB := hide (HB5.out.setCell (p := ⟨w.heap.size + 1, 5, none⟩) (Nat.le_succ _) (.slice p5 ds2.length c5'))
              have HK := hide (HK0.out.below HB.out)
              clear x5 y5 HX45 HX75 HO5 HB5
              generalize c5' = cw at *
              generalize w9.setCell ⟨w.heap.size + 1, 5, none⟩ (.slice p5 ds2.length cw) = w10 at *
              have hd2 : ds2.length ≤ 16 := by omega
              replace HFL : Hid (f = 17 - ds2.length) := by have := HFL.out; unfold Hid; omega
              rcases hcm : isU l (j + 2 + 1) 4 with _ | _
              · have HRS : Hid (opU l 17 (i + 1) [] = (ds2, j + 2 + 1, true)) := by unfold Hid; rw [HOM.out, if_pos (.inl hcm)]
                have HIS2 : Hid (∀ (x : Int) W, x = (j : Int) + 2 + 1 → KS W (some ⟨b, off, none⟩) n l → Calls Tryd.prog 18 #[.slice (some ⟨b, off, none⟩) n cap, .int .i64 x, .int .i64 4, .string ⟨#[]⟩] W fun e w' => e = .returned (.bool false) ∧ w' = W) := fun x W hx h => by
                  have q := is15 (some ⟨b, off, none⟩) n cap l (j + 2 + 1) 4 W h (by omega)
                  rw [show ((j + 2 + 1 : Nat) : Int) = x by omega, hcm] at q
                  exact q
                clear HOM hcm HFL
                go_upto_region 21 with (go_at_call 18; refine (HIS2.out _ _ (by omega) HK.out).mono ?_; rintro e wi ⟨rfl, hw9⟩; have hw8 := hw9.symm; subst hw8; clear hw9)
                have c0 := HX7.out.cell 0 _ rfl
                have c1 := HX7.out.cell 1 _ rfl
                have c2 := HX7.out.cell 2 _ rfl
                have c3 := HX7.out.cell 3 _ rfl
                have c4 := HX7.out.cell 4 _ rfl
                have c5 := HX7.out.cell 5 _ rfl
                have c6 := HX7.out.cell 6 _ rfl
                have z0 := HX4.out.cell 0 _ rfl
                have y0 := HX4.out.free 0
                have z1 := HX4.out.cell 1 _ rfl
                have y1 := HX4.out.free 1
                have z2 := HX4.out.cell 2 _ rfl
                have y2 := HX4.out.free 2
                have z3 := HX4.out.cell 3 _ rfl
                have y3 := HX4.out.free 3
                have z4 := HX4.out.cell 4 _ rfl
                have y4 := HX4.out.free 4
                have z5 := HX4.out.cell 5 _ rfl
                have y5 := HX4.out.free 5
                have z6 := HX4.out.cell 6 _ rfl
                have y6 := HX4.out.free 6
                go_wp2
                refine bodyPost_ret (results_ctt rfl _ _ _ _ _ _ _ _ _ rfl rfl rfl (HX4.out.put7 _ _ _ _ _ _ _).1 Tryd.underlying32 rfl Tryd.sizeDc) rfl ?_
                exact ⟨(10, false, nm, ⟨#[]⟩, 0, ds2, 0), p5, cw, _, _, rfl, HOR.out _ _ _ HRS.out, HO.out.set7 (HO.out.off HX4.out tyDE) _ _ _ _ _ _ _, bel_put7 HB.out (Nat.le_refl _) _ _ _ _ _ _ _⟩
              · have HIS2 : Hid (∀ (x : Int) W, x = (j : Int) + 2 + 1 → KS W (some ⟨b, off, none⟩) n l → Calls Tryd.prog 18 #[.slice (some ⟨b, off, none⟩) n cap, .int .i64 x, .int .i64 4, .string ⟨#[]⟩] W fun e w' => e = .returned (.bool true) ∧ w' = W) := fun x W hx h => by
                  have q := is15 (some ⟨b, off, none⟩) n cap l (j + 2 + 1) 4 W h (by omega)
                  rw [show ((j + 2 + 1 : Nat) : Int) = x by omega, hcm] at q
                  exact q
                by_cases h16 : ds2.length = 16
                · have HRS : Hid (opU l 17 (i + 1) [] = (ds2, j + 2 + 1, true)) := by unfold Hid; rw [HOM.out, if_pos (.inr h16)]
                  have q16 : ((ds2.length : Int) == 16) = true := by rw [h16]; rfl
                  have c5x := HX7.out.cell 5 _ rfl
                  clear HOM hcm HFL h16
                  go_upto_region 21 with (go_at_call 18; refine (HIS2.out _ _ (by omega) HK.out).mono ?_; rintro e wi ⟨rfl, hw9⟩; have hw8 := hw9.symm; subst hw8; clear hw9)
                  clear c5x
                  have c0 := HX7.out.cell 0 _ rfl
                  have c1 := HX7.out.cell 1 _ rfl
                  have c2 := HX7.out.cell 2 _ rfl
                  have c3 := HX7.out.cell 3 _ rfl
                  have c4 := HX7.out.cell 4 _ rfl
                  have c5 := HX7.out.cell 5 _ rfl
                  have c6 := HX7.out.cell 6 _ rfl
                  have z0 := HX4.out.cell 0 _ rfl
                  have y0 := HX4.out.free 0
                  have z1 := HX4.out.cell 1 _ rfl
                  have y1 := HX4.out.free 1
                  have z2 := HX4.out.cell 2 _ rfl
                  have y2 := HX4.out.free 2
                  have z3 := HX4.out.cell 3 _ rfl
                  have y3 := HX4.out.free 3
                  have z4 := HX4.out.cell 4 _ rfl
                  have y4 := HX4.out.free 4
                  have z5 := HX4.out.cell 5 _ rfl
                  have y5 := HX4.out.free 5
                  have z6 := HX4.out.cell 6 _ rfl
                  have y6 := HX4.out.free 6
                  go_wp2
                  refine bodyPost_ret (results_ctt rfl _ _ _ _ _ _ _ _ _ rfl rfl rfl (HX4.out.put7 _ _ _ _ _ _ _).1 Tryd.underlying32 rfl Tryd.sizeDc) rfl ?_
                  exact ⟨(10, false, nm, ⟨#[]⟩, 0, ds2, 0), p5, cw, _, _, rfl, HOR.out _ _ _ HRS.out, HO.out.set7 (HO.out.off HX4.out tyDE) _ _ _ _ _ _ _, bel_put7 HB.out (Nat.le_refl _) _ _ _ _ _ _ _⟩
                · have HRS : Hid (opU l (17 - ds2.length) (j + 2 + 1) ds2 = opU l 17 (i + 1) []) := by unfold Hid; rw [HOM.out, if_neg (fun h => h.elim (fun h => by rw [hcm] at h; cases h) h16), HFL.out]
                  have q16 : ((ds2.length : Int) == 16) = false := by simp; omega
                  have c5x := HX7.out.cell 5 _ rfl
                  have hj4 : j + 2 + 1 ≤ i + 1 + 4 * ds2.length := by omega
                  have hd3 : ds2.length ≤ 15 := by omega
                  have hj5 : i + 1 ≤ j + 2 + 1 := by omega
                  have hj6 : j + 2 + 1 ≤ 2010 := by omega
                  clear HOM hcm HFL h16 hj1
                  go_wp2_with (go_at_call 18; refine (HIS2.out _ _ (by omega) HK.out).mono ?_; rintro e wi ⟨rfl, hw9⟩; have hw8 := hw9.symm; subst hw8; clear hw9)
                  go_roundw
                  case rel => exact ⟨j + 2 + 1, ds2, p5, cw, rfl, hj5, hj4, hd3, HRS, HX4, HX7, HO, HB⟩
                  case measure =>
                    show 5000 - (intOf (.int .i64 ((j + 2 + 1 : Nat) : Int))).toNat < 5000 - (intOf (.int .i64 (j : Int))).toNat
                    simp only [intOf]
                    omega
          · have hds : deedU (txtU l (j + 1)) = (kd, [110, 100]) := by rw [hs1]; exact hde
            have HDE : Hid (∀ W, Calls Tryd.prog 39 #[.string s1] W fun e w' => e = .returned (.tuple #[.int .i64 kd, .string (strOfNums [110, 100])]) ∧ w' = W) := fun W => by
              have q := deed15 s1 W
              rw [hde] at q
              exact q
            have HNS : Hid (∀ (x : Int) W, x = (j : Int) + 2 → KS W (some ⟨b, off, none⟩) n l → Calls Tryd.prog 32 #[.slice (some ⟨b, off, none⟩) n cap, .int .i64 x, .string (strOfNums [110, 100])] W fun e w' => e = .returned (.int .i64 (frmU l (j + 2) [110, 100])) ∧ Below W.heap.size W w') := fun x W hx h => by
              have q := names15 (some ⟨b, off, none⟩) n cap l (j + 2) (strOfNums [110, 100]) W h (by omega) (by decide) (by decide)
              rw [show (((j + 2 : Nat)) : Int) = x by omega, bytes_str (l := [110, 100]) (by intro c hc; simp at hc; omega)] at q
              exact q
            have hsz : (strOfNums [110, 100]).size = 2 := rfl
            have g0 : (kd == 0) = false := by simpa using hkd
            by_cases hk : frmU l (j + 2) [110, 100] < 2
            · have HRS : Hid (opU l 17 (i + 1) [] = (ds, j + 2 + frmU l (j + 2) [110, 100], false)) := by unfold Hid; rw [← HF.out, hfu]; exact opU_less hds hkd hk
              obtain ⟨kk, hkk⟩ : ∃ kk, frmU l (j + 2) [110, 100] = kk := ⟨_, rfl⟩
              rw [hkk] at HNS HRS hk
              have hk1 : (kk : Int) < 2 := by omega
              generalize strOfNums [110, 100] = FM at HDE HNS hsz
              clear hkk hk hds hde hkd HF hfu hs1
              go_upto_region 14 with (first | (go_at_call 28; refine (HTX.out _ HK.out).mono ?_; rintro e wi ⟨rfl, hw9⟩; have hw8 := hw9.symm; subst hw8; clear hw9) | (go_at_call 39; refine (HDE.out _).mono ?_; rintro e wi ⟨rfl, hw9⟩; have hw8 := hw9.symm; subst hw8; clear hw9) | (go_at_call 32; refine (HNS.out _ _ (by omega) HK.out).mono ?_; rintro e w4 ⟨rfl, hb⟩; replace HX4 := hide (HX4.out.below hb); replace HX7 := hide (HX7.out.below hb); replace HO := hide (HO.out.below hb); replace HK := hide (HK.out.below hb); replace HB := hide (bel_next HB.out hb); clear hb))
              have c0 := HX7.out.cell 0 _ rfl
              have c1 := HX7.out.cell 1 _ rfl
              have c2 := HX7.out.cell 2 _ rfl
              have c3 := HX7.out.cell 3 _ rfl
              have c4 := HX7.out.cell 4 _ rfl
              have c5 := HX7.out.cell 5 _ rfl
              have c6 := HX7.out.cell 6 _ rfl
              have z0 := HX4.out.cell 0 _ rfl
              have y0 := HX4.out.free 0
              have z1 := HX4.out.cell 1 _ rfl
              have y1 := HX4.out.free 1
              have z2 := HX4.out.cell 2 _ rfl
              have y2 := HX4.out.free 2
              have z3 := HX4.out.cell 3 _ rfl
              have y3 := HX4.out.free 3
              have z4 := HX4.out.cell 4 _ rfl
              have y4 := HX4.out.free 4
              have z5 := HX4.out.cell 5 _ rfl
              have y5 := HX4.out.free 5
              have z6 := HX4.out.cell 6 _ rfl
              have y6 := HX4.out.free 6
              go_wp2
              refine bodyPost_ret (results_ctt rfl _ _ _ _ _ _ _ _ _ rfl rfl rfl (HX4.out.put7 _ _ _ _ _ _ _).1 Tryd.underlying32 rfl Tryd.sizeDc) rfl ?_
              exact ⟨(10, false, nm, ⟨#[]⟩, 0, ds, 0), p, c, _, _, rfl, HOR.out _ _ _ HRS.out, HO.out.set7 (HO.out.off HX4.out tyDE) _ _ _ _ _ _ _, bel_put7 HB.out (Nat.le_refl _) _ _ _ _ _ _ _⟩
            · have hfe : frmU l (j + 2) [110, 100] = 2 := by
                revert hk
                rw [frm2]
                repeat' split
                all_goals (intro hk; omega)
              have hnm2 : namU l (j + 2) = true := by
                rw [frm2] at hfe
                by_cases h : namU l (j + 2) = true
                · exact h
                · rw [if_neg h] at hfe; cases hfe
              have hnu2 : isU l (j + 3) 2 = true := by
                rw [frm2, if_pos hnm2] at hfe
                by_cases h : isU l (j + 2 + 1) 2 = true
                · exact h
                · rw [if_neg h] at hfe; cases hfe
              have HOM : Hid (opU l 17 (i + 1) [] = if isU l (j + 2 + 2) 4 = false ∨ (ds ++ [((kd, txtU l (j + 2), numU l (j + 3)) : Dd)]).length = 16 then (ds ++ [((kd, txtU l (j + 2), numU l (j + 3)) : Dd)], j + 2 + 2, true) else opU l f (j + 2 + 2) (ds ++ [((kd, txtU l (j + 2), numU l (j + 3)) : Dd)])) := by
                unfold Hid
                rw [← HF.out, hfu]
                exact opU_more (f := f) (ds := ds) hds hkd hfe
              have HFL : Hid (f + ds.length = 16) := by unfold Hid; omega
              rw [hfe] at HNS
              generalize strOfNums [110, 100] = FM at HDE HNS hsz
              clear hds hde hkd HF hfu hs1 hk hfe
              go_upto_region 15 with (first | (go_at_call 28; refine (HTX.out _ HK.out).mono ?_; rintro e wi ⟨rfl, hw9⟩; have hw8 := hw9.symm; subst hw8; clear hw9) | (go_at_call 39; refine (HDE.out _).mono ?_; rintro e wi ⟨rfl, hw9⟩; have hw8 := hw9.symm; subst hw8; clear hw9) | (go_at_call 32; refine (HNS.out _ _ (by omega) HK.out).mono ?_; rintro e w4 ⟨rfl, hb⟩; replace HX4 := hide (HX4.out.below hb); replace HX7 := hide (HX7.out.below hb); replace HO := hide (HO.out.below hb); replace HK := hide (HK.out.below hb); replace HB := hide (bel_next HB.out hb); clear hb))
              obtain ⟨b', off', hbo, hlt2, c1⟩ := is_at HK.out (nam_is1 hnm2)
              cases hbo
              have hl2 : (j : Int) + 2 < (n : Int) := by omega
              obtain ⟨t2, ht2⟩ : ∃ t2, txtU l (j + 2) = t2 := ⟨_, rfl⟩
              rw [ht2] at c1 HOM
              go_upto_region 16 with fail
              clear c1 hl2 ht2 HTX HDE HNS
              have hb := bel1 w4 (.cells #[.int .i64 kd, .string t2, .int .i64 0] 66)
              have HG : Hid (BX (w4.alloc (.cells #[.int .i64 kd, .string t2, .int .i64 0] 66)) w4.heap.size #[.int .i64 kd, .string t2, .int .i64 0] 66) := BX.new w4 _ rfl _ _
              have hgo := HO.out.old (g := w4.heap.size) (Nat.le_refl _)
              have hg4 : w4.heap.size ≠ w.heap.size := by have := HX7.out.size; omega
              have hg7 : w4.heap.size ≠ w.heap.size + 1 := by have := HX7.out.size; omega
              have hgN : w.heap.size ≤ w4.heap.size := HB.out.size
              replace HX4 := hide (HX4.out.below hb)
              replace HX7 := hide (HX7.out.below hb)
              replace HO := hide (HO.out.below hb)
              replace HK := hide (HK.out.below hb)
              replace HB := hide (bel_next HB.out hb)
              clear hb
              obtain ⟨g, hg⟩ : ∃ g, w4.heap.size = g := ⟨_, rfl⟩
              rw [hg] at HG hgo hg4 hg7 hgN ⊢
              generalize w4.alloc (.cells #[.int .i64 kd, .string t2, .int .i64 0] 66) = w6 at *
              clear hg
              obtain ⟨b', off', hbo, hlt3, c2⟩ := num_at HK.out hnu2
              cases hbo
              have hl3 : (j : Int) + 3 < (n : Int) := by omega
              have hl4 : j + 3 < n := hlt3
              obtain ⟨nn, hnn⟩ : ∃ nn, numU l (j + 3) = nn := ⟨_, rfl⟩
              rw [hnn] at c2
              have z2 := HG.out.cell 2 _ rfl
              have y2 := HG.out.free 2
              go_upto_region 18 with fail
              replace HX4 := hide (HX4.out.other hg4 2 (.int .i64 nn))
              replace HX7 := hide (HX7.out.other hg7 2 (.int .i64 nn))
              replace HO := hide (HO.out.set hgo 2 (.int .i64 nn))
              replace HG : Hid (BX (w6.setCell ⟨g, 2, none⟩ (.int .i64 nn)) g #[.int .i64 kd, .string t2, .int .i64 nn] 66) := HG.out.set 2 _
              replace HB := hide (HB.out.setCell (p := ⟨g, 2, none⟩) hgN (.int .i64 nn))
              replace HK := hide (HK0.out.below HB.out)
              clear c2 z2 y2 hl3 hl4 hlt3
              generalize w6.setCell ⟨g, 2, none⟩ (.int .i64 nn) = w8 at *
              rw [hnn] at HOM
              clear hnn
              have BA := hide (bel1 w8 (.cells #[.int .i64 kd, .string t2, .int .i64 nn] 66))
              have c5 := HX7.out.cell 5 _ rfl
              have z0 := HG.out.cell 0 _ rfl
              have z1 := HG.out.cell 1 _ rfl
              have z2 := HG.out.cell 2 _ rfl
              go_wp2_with (at_builtin; refine Stop.at ?_)
              unfold Stop
              refine append_rows rfl _ _ 30 rfl Tryd.underlying30 Tryd.infoDd rfl (by decide) (by decide) encDd_len encDd_one w.heap.size _ ds [(kd, t2, nn)] rfl (HO.out.below BA.out) (some ⟨w8.heap.size, 0, none⟩) 1 1 rfl (fun h => by cases h) (RS.new encDd_len w8 _ rfl [(kd, t2, nn)] _ rfl _ _ 1 rfl (by decide)) (by simp; omega) (Nat.le_trans HB.out.size BA.out.size) ?_
              intro v5 w9 ho5 hgr5 hbel5
              have HX45 := hide ((HX4.out.below BA.out).grown hgr5 (HO.out.off HX4.out tyDE))
              have HX75 := hide ((HX7.out.below BA.out).grown hgr5 (HO.out.off HX7.out tyDE))
              have HB5 := hide (hbel5 _ (bel_next HB.out BA.out))
              have HO5 := hide ho5
              obtain ⟨p5, c5', hv5, _, _⟩ := ho5.open encDd_len
              subst hv5
              clear ho5 hgr5 hbel5 c5 z0 z1 z2 BA HX4 HX7 HO HB HG HK hgo hg4 hg7 hgN
              have hle : (ds ++ [((kd, t2, nn) : Dd)]).length = ds.length + 1 := by simp
              have hle1 : (ds ++ [((kd, t2, nn) : Dd)]).length ≤ ds.length + 1 := by omega
              have hle2 : ds.length + 1 ≤ (ds ++ [((kd, t2, nn) : Dd)]).length := by omega
              clear hle
              generalize (ds ++ [((kd, t2, nn) : Dd)]) = ds2 at *
              have x5 := HX75.out.cell 5 _ rfl
              have y5 := HX75.out.free 5
              go_upto_region 19 with fail
              have HX4 := hide (HX45.out.other (show w.heap.size + 1 ≠ w.heap.size by omega) 5 (.slice p5 ds2.length c5'))
              have HX7 : Hid (BX (w9.setCell ⟨w.heap.size + 1, 5, none⟩ (.slice p5 ds2.length c5')) (w.heap.size + 1) #[.int .i64 10, .bool false, .string nm, .string ⟨#[]⟩, .int .i64 0, (.slice p5 ds2.length c5'), .int .i64 0] 32) := HX75.out.set 5 _
              have HO := hide (HO5.out.set (HO5.out.off HX75.out tyDE) 5 (.slice p5 ds2.length c5'))
              have HB := hide (HB5.out.setCell (p := ⟨w.heap.size + 1, 5, none⟩) (Nat.le_succ _) (.slice p5 ds2.length c5'))
              have HK := hide (HK0.out.below HB.out)
              clear x5 y5 HX45 HX75 HO5 HB5
              generalize c5' = cw at *
              generalize w9.setCell ⟨w.heap.size + 1, 5, none⟩ (.slice p5 ds2.length cw) = w10 at *
              have hd2 : ds2.length ≤ 16 := by omega
              replace HFL : Hid (f = 17 - ds2.length) := by have := HFL.out; unfold Hid; omega
              rcases hcm : isU l (j + 2 + 2) 4 with _ | _
              · have HRS : Hid (opU l 17 (i + 1) [] = (ds2, j + 2 + 2, true)) := by unfold Hid; rw [HOM.out, if_pos (.inl hcm)]
                have HIS2 : Hid (∀ (x : Int) W, x = (j : Int) + 2 + 2 → KS W (some ⟨b, off, none⟩) n l → Calls Tryd.prog 18 #[.slice (some ⟨b, off, none⟩) n cap, .int .i64 x, .int .i64 4, .string ⟨#[]⟩] W fun e w' => e = .returned (.bool false) ∧ w' = W) := fun x W hx h => by
                  have q := is15 (some ⟨b, off, none⟩) n cap l (j + 2 + 2) 4 W h (by omega)
                  rw [show ((j + 2 + 2 : Nat) : Int) = x by omega, hcm] at q
                  exact q
                clear HOM hcm HFL
                go_upto_region 21 with (go_at_call 18; refine (HIS2.out _ _ (by omega) HK.out).mono ?_; rintro e wi ⟨rfl, hw9⟩; have hw8 := hw9.symm; subst hw8; clear hw9)
                have c0 := HX7.out.cell 0 _ rfl
                have c1 := HX7.out.cell 1 _ rfl
                have c2 := HX7.out.cell 2 _ rfl
                have c3 := HX7.out.cell 3 _ rfl
                have c4 := HX7.out.cell 4 _ rfl
                have c5 := HX7.out.cell 5 _ rfl
                have c6 := HX7.out.cell 6 _ rfl
                have z0 := HX4.out.cell 0 _ rfl
                have y0 := HX4.out.free 0
                have z1 := HX4.out.cell 1 _ rfl
                have y1 := HX4.out.free 1
                have z2 := HX4.out.cell 2 _ rfl
                have y2 := HX4.out.free 2
                have z3 := HX4.out.cell 3 _ rfl
                have y3 := HX4.out.free 3
                have z4 := HX4.out.cell 4 _ rfl
                have y4 := HX4.out.free 4
                have z5 := HX4.out.cell 5 _ rfl
                have y5 := HX4.out.free 5
                have z6 := HX4.out.cell 6 _ rfl
                have y6 := HX4.out.free 6
                go_wp2
                refine bodyPost_ret (results_ctt rfl _ _ _ _ _ _ _ _ _ rfl rfl rfl (HX4.out.put7 _ _ _ _ _ _ _).1 Tryd.underlying32 rfl Tryd.sizeDc) rfl ?_
                exact ⟨(10, false, nm, ⟨#[]⟩, 0, ds2, 0), p5, cw, _, _, rfl, HOR.out _ _ _ HRS.out, HO.out.set7 (HO.out.off HX4.out tyDE) _ _ _ _ _ _ _, bel_put7 HB.out (Nat.le_refl _) _ _ _ _ _ _ _⟩
              · have HIS2 : Hid (∀ (x : Int) W, x = (j : Int) + 2 + 2 → KS W (some ⟨b, off, none⟩) n l → Calls Tryd.prog 18 #[.slice (some ⟨b, off, none⟩) n cap, .int .i64 x, .int .i64 4, .string ⟨#[]⟩] W fun e w' => e = .returned (.bool true) ∧ w' = W) := fun x W hx h => by
                  have q := is15 (some ⟨b, off, none⟩) n cap l (j + 2 + 2) 4 W h (by omega)
                  rw [show ((j + 2 + 2 : Nat) : Int) = x by omega, hcm] at q
                  exact q
                by_cases h16 : ds2.length = 16
                · have HRS : Hid (opU l 17 (i + 1) [] = (ds2, j + 2 + 2, true)) := by unfold Hid; rw [HOM.out, if_pos (.inr h16)]
                  have q16 : ((ds2.length : Int) == 16) = true := by rw [h16]; rfl
                  have c5x := HX7.out.cell 5 _ rfl
                  clear HOM hcm HFL h16
                  go_upto_region 21 with (go_at_call 18; refine (HIS2.out _ _ (by omega) HK.out).mono ?_; rintro e wi ⟨rfl, hw9⟩; have hw8 := hw9.symm; subst hw8; clear hw9)
                  clear c5x
                  have c0 := HX7.out.cell 0 _ rfl
                  have c1 := HX7.out.cell 1 _ rfl
                  have c2 := HX7.out.cell 2 _ rfl
                  have c3 := HX7.out.cell 3 _ rfl
                  have c4 := HX7.out.cell 4 _ rfl
                  have c5 := HX7.out.cell 5 _ rfl
                  have c6 := HX7.out.cell 6 _ rfl
                  have z0 := HX4.out.cell 0 _ rfl
                  have y0 := HX4.out.free 0
                  have z1 := HX4.out.cell 1 _ rfl
                  have y1 := HX4.out.free 1
                  have z2 := HX4.out.cell 2 _ rfl
                  have y2 := HX4.out.free 2
                  have z3 := HX4.out.cell 3 _ rfl
                  have y3 := HX4.out.free 3
                  have z4 := HX4.out.cell 4 _ rfl
                  have y4 := HX4.out.free 4
                  have z5 := HX4.out.cell 5 _ rfl
                  have y5 := HX4.out.free 5
                  have z6 := HX4.out.cell 6 _ rfl
                  have y6 := HX4.out.free 6
                  go_wp2
                  refine bodyPost_ret (results_ctt rfl _ _ _ _ _ _ _ _ _ rfl rfl rfl (HX4.out.put7 _ _ _ _ _ _ _).1 Tryd.underlying32 rfl Tryd.sizeDc) rfl ?_
                  exact ⟨(10, false, nm, ⟨#[]⟩, 0, ds2, 0), p5, cw, _, _, rfl, HOR.out _ _ _ HRS.out, HO.out.set7 (HO.out.off HX4.out tyDE) _ _ _ _ _ _ _, bel_put7 HB.out (Nat.le_refl _) _ _ _ _ _ _ _⟩
                · have HRS : Hid (opU l (17 - ds2.length) (j + 2 + 2) ds2 = opU l 17 (i + 1) []) := by unfold Hid; rw [HOM.out, if_neg (fun h => h.elim (fun h => by rw [hcm] at h; cases h) h16), HFL.out]
                  have q16 : ((ds2.length : Int) == 16) = false := by simp; omega
                  have c5x := HX7.out.cell 5 _ rfl
                  have hj4 : j + 2 + 2 ≤ i + 1 + 4 * ds2.length := by omega
                  have hd3 : ds2.length ≤ 15 := by omega
                  have hj5 : i + 1 ≤ j + 2 + 2 := by omega
                  have hj6 : j + 2 + 2 ≤ 2010 := by omega
                  clear HOM hcm HFL h16 hj1
                  go_wp2_with (go_at_call 18; refine (HIS2.out _ _ (by omega) HK.out).mono ?_; rintro e wi ⟨rfl, hw9⟩; have hw8 := hw9.symm; subst hw8; clear hw9)
                  go_roundw
                  case rel => exact ⟨j + 2 + 2, ds2, p5, cw, rfl, hj5, hj4, hd3, HRS, HX4, HX7, HO, HB⟩
                  case measure =>
                    show 5000 - (intOf (.int .i64 ((j + 2 + 2 : Nat) : Int))).toNat < 5000 - (intOf (.int .i64 (j : Int))).toNat
                    simp only [intOf]
                    omega
end Go.Proofs.YtadmibfnjhockaaDoor
