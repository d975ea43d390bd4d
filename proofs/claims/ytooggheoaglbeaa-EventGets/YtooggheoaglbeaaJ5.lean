/- Texts of this claim, joined: EGet1, EGet2, EGet3, EEvt, DLay, DOrd, DFun2, DFun6. -/
import Derived.Test.YtooggheoaglbeaaJ4
import Derived.Shelf.SlSortCmp.WholeK
import Derived.Test.YtooggheoaglbeaaProg
import Derived.Test.YtooggheoaglbeaaJ3
import Derived.Shelf.SlSortCmp.NoneTotal
import Derived.Lib.SlicesCompact
import Derived.Lib.SliceRun
import Derived.Laws.AppendOwnNone
import Derived.Laws.StructEq
/- What 'getNumber', 'getNumbers', 'getPack' do. -/
namespace Go.Proofs.Ytooggheoaglbeaa
open Go.RowKit
set_option linter.unusedVariables false

theorem flat_ints (l : List Int) : l.flatMap (fun x => [Value.int .i64 x]) = l.map (Value.int .i64) := by
  induction l with
  | nil => rfl
  | cons x r ih => simp [ih]
theorem OwnN.rows {N : Nat} {w : World} {v : Value} {l : List Int} : OwnN N w v l ↔ OwnR (fun x => [Value.int .i64 x]) 1 3 N w v l := by
  unfold OwnN OwnR; rw [flat_ints]
/-- 'append(v, y)' at []int. -/
theorem append_int {w : World} {ops : Array Oper} {rest : List Oper} {o : Oper} {a : Act} {Q : Exit → Act → World → Prop} (hgd : o.guard = none) (s x : Operand)
    (ho : o.op = .call { callee := .builtin .append, args := #[s, x], argTypes := #[24, 24] })
    (N : Nat) (v : Value) (l : List Int) (y : Int) (g : Nat) (hg : g = w.heap.size) (hs : a.eval s = v) (hown : OwnN N w v l) (hx : a.eval x = .slice (some ⟨g, 0, none⟩) 1 1)
    (hbig : l.length ≤ 100000) (hN : N ≤ w.heap.size)
    (h : ∀ v' w', OwnN N w' v' (l ++ [y]) → (∀ w0, Below N w0 w → Below N w0 w') → wpList Try.prog ops Q rest (a.put o.dst v') w') : wpList Try.prog ops Q (o :: rest) a (w.alloc (.cells #[.int .i64 y] 3)) := by
  refine append_rows (enc := fun x => [Value.int .i64 x]) (k := 1) hgd s x 24 ho Try.underlying24 Try.infoI64 rfl (by decide) (by decide) (fun _ => rfl) (fun x v hv => by rw [List.mem_singleton.1 hv]; rfl) N v l [y] hs (OwnN.rows.1 (hown.alloc _)) _ 1 1 hx (fun h => by cases h) (RS.new (enc := fun x => [Value.int .i64 x]) (k := 1) (fun _ => rfl) w g hg [y] _ rfl _ _ 1 rfl (by decide)) (by simp; omega) (by simp; omega) ?_
  intro v' w' h1 _ h2
  exact h v' w' (OwnN.rows.2 h1) (fun w0 hb => h2 w0 (hb.alloc hN _))

set_option maxHeartbeats 1000000 in
theorem getNumber_bad (a : Option Addr) (n c : Nat) (l : List Int) (w : World) (hr : rdNum l = none) (hA : BS w a n l) (hC : CP a n c) :
    Calls Try.prog 104 #[.slice a n c] w fun e w' => e = .returned (.tuple #[.int .i64 0, .bool false]) ∧ w' = w := by
  have hn := hA.1
  have hmx := hA.2.1
  unfold maxLen at hmx
  have hby := hA.2.2.1
  rcases hg : getNum l with _ | ⟨x, m⟩
  · have HG := hide (getNum_no a n c l w hg hA hC)
    clear hA hC hr hn hmx hby hg
    go_enter Try.func104, Try.ntmps104
    go_wp2_with (go_at_call 90; refine HG.out.mono ?_; rintro e w' ⟨rfl, rfl⟩)
    go_ret2
    exact ⟨rfl, rfl⟩
  · have HG := hide (getNum_yes a n c l w x m hg hA hC)
    obtain ⟨g0, g1, g2, g3, g4, _, _⟩ := getNum_some hby hg
    by_cases hm : m = n
    · have hx : x > 1048576 := by
        unfold rdNum at hr
        rw [hg] at hr
        simp only [] at hr
        split at hr
        · cases hr
        · rename_i hh
          have : ¬ (x ≤ 1048576) := fun t => hh ⟨by omega, t⟩
          omega
      have hm1 : ((m : Int) == (n : Int)) = true := by simp; omega
      have hm2 : (m : Int) = (n : Int) := by omega
      clear hA hC hr hn hby hg hm
      go_enter Try.func104, Try.ntmps104
      go_wp2_with (go_at_call 90; refine HG.out.mono ?_; rintro e w' ⟨rfl, rfl⟩)
      go_ret2
      exact ⟨rfl, rfl⟩
    · have hm1 : ((m : Int) == (n : Int)) = false := by simp; omega
      have hm2 : ¬ (m : Int) = (n : Int) := by omega
      clear hA hC hr hn hby hg hm
      go_enter Try.func104, Try.ntmps104
      go_wp2_with (go_at_call 90; refine HG.out.mono ?_; rintro e w' ⟨rfl, rfl⟩)
      go_ret2
      exact ⟨rfl, rfl⟩
set_option maxHeartbeats 1000000 in
theorem getNumber_ok (a : Option Addr) (n c : Nat) (l : List Int) (w : World) (x : Int) (hr : rdNum l = some x) (hA : BS w a n l) (hC : CP a n c) :
    Calls Try.prog 104 #[.slice a n c] w fun e w' => e = .returned (.tuple #[.int .i64 x, .bool true]) ∧ w' = w := by
  have hn := hA.1
  have hmx := hA.2.1
  unfold maxLen at hmx
  have hby := hA.2.2.1
  rcases hg : getNum l with _ | ⟨y, m⟩
  · unfold rdNum at hr; rw [hg] at hr; cases hr
  · obtain ⟨g0, g1, g2, g3, g4, _, _⟩ := getNum_some hby hg
    have hh : m = l.length ∧ y ≤ 1048576 ∧ y = x := by
      unfold rdNum at hr
      rw [hg] at hr
      simp only [] at hr
      split at hr
      · rename_i h; cases hr; exact ⟨h.1, h.2, rfl⟩
      · cases hr
    obtain ⟨h1, h2, rfl⟩ := hh
    have hmn : m = n := by omega
    subst hmn
    have HG := hide (getNum_yes a m c l w y m hg hA hC)
    clear hA hC hr hn hby hg h1
    go_enter Try.func104, Try.ntmps104
    go_wp2_with (go_at_call 90; refine HG.out.mono ?_; rintro e w' ⟨rfl, rfl⟩)
    go_ret2
    exact ⟨rfl, rfl⟩

set_option maxHeartbeats 2000000 in
theorem getNumbers_any (p : Option Addr) (t cp : Nat) (ts : List (List Int)) (w : World) (hP : PC w p t ts) (ht : t ≤ 1000) :
    Calls Try.prog 92 #[.slice p t cp] w fun e w' => ((rdAll ts = none ∧ e = .returned (.tuple #[.slice none 0 0, .bool false])) ∨ ∃ (c : List Int) (v : Value), rdAll ts = some c ∧ e = .returned (.tuple #[v, .bool true]) ∧ OwnN w.heap.size w' v c) ∧ Below w.heap.size w w' := by
  have HPC := hide hP
  have Ht := hide hP.1
  clear hP
  go_enter Try.func92, Try.ntmps92
  go_wp2
  go_loopw [4, 11] (fun v i wr => ∃ (k : Nat) (acc : List Int), k ≤ t ∧ i = .int .i64 k ∧ Hid (acc.length = k) ∧ Hid (OwnN w.heap.size wr v acc) ∧ Hid (rdAll ts = (rdAll (ts.drop k)).map (acc ++ ·)) ∧ Hid (Below w.heap.size w wr)) (fun _ i _ => t - (intOf i).toNat)
  case atStart => exact ⟨0, [], by omega, rfl, rfl, OwnN.nil _ _, by unfold Hid; simp, Below.refl _ _⟩
  case round =>
    obtain ⟨k, acc, hk, rfl, hal, hO, hR, hB⟩ := hrel
    obtain ⟨pv, cv, hv, hns, _⟩ := hO.out.open
    subst hv
    clear hns
    by_cases hlt : k < t
    · rcases HPC.out.2.2 with h0 | ⟨b, off, rfl, hc⟩
      · omega
      · obtain ⟨x, len, cpx, hcell, hbs, hcp⟩ := hc k hlt
        have hck := ((Ext.refl w).below hB.out) _ _ hcell
        have HBS := hide (hbs.below hB.out)
        have HCP := hide hcp
        clear hc hcell hbs hcp
        have hsz := hB.out.size
        rcases hq : rdNum (ts.getD k []) with _ | y
        · have HE := hide (rdAll_bad (by rw [Ht.out]; exact hlt) hR.out hq)
          have HRN := hide (getNumber_bad x len cpx _ _ hq HBS.out HCP.out)
          clear hR hq HBS HCP
          go_wp2_with (go_at_call 104; refine HRN.out.mono ?_; rintro e w' ⟨rfl, rfl⟩)
          go_ret2
          exact ⟨.inl ⟨HE.out, rfl⟩, hB.out⟩
        · have HR2 := hide (rdAll_step (by rw [Ht.out]; exact hlt) hR.out hq)
          have HRN := hide (getNumber_ok x len cpx _ _ y hq HBS.out HCP.out)
          clear hR hq HBS HCP
          go_wp2_with (first
            | (go_at_call 104; refine HRN.out.mono ?_; rintro e w' ⟨rfl, rfl⟩)
            | (at_builtin; refine Stop.at ?_))
          unfold Stop
          refine append_int rfl _ _ rfl w.heap.size (.slice pv acc.length cv) acc y _ rfl rfl hO.out rfl (by have := hal.out; omega) hsz ?_
          intro v' w' g1 g2
          have G1 := hide g1
          have G2 := hide (g2 _ hB.out)
          clear g1 g2 hO hB
          go_wp2
          go_roundw
          case rel => exact ⟨k + 1, acc ++ [y], by omega, by go_num, by unfold Hid; simp [hal.out], G1, HR2, G2⟩
          case measure => simp [intOf]; omega
    · have hkl : k = t := by omega
      subst hkl
      have hall : rdAll ts = some acc := by
        have h := hR.out
        rw [List.drop_of_length_le (by rw [Ht.out]; exact Nat.le_refl _)] at h
        simpa [rdAll] using h
      have HALL := hide hall
      clear hR hall
      go_wp2
      go_ret2
      exact ⟨.inr ⟨acc, _, HALL.out, rfl, hO.out⟩, hB.out⟩

theorem unpackM_no (a : Option Addr) (n c : Nat) (l : List Int) (most : Int) (w : World) (hu : unpack l most = none) (hA : BS w a n l) (hC : CP a n c) (hm0 : 0 ≤ most) (hm1 : most ≤ 1000) :
    Calls Try.prog 66 #[.slice a n c, .int .i64 most] w fun e w' => e = .returned (.tuple #[.slice none 0 0, .int .i64 0, .int .i64 2]) ∧ Below w.heap.size w w' := by
  refine (unpack_any a n c l most w hA hC hm0 hm1).mono ?_
  rintro e w1 ⟨(⟨_, rfl⟩ | ⟨qs, m, v, h, _⟩), hb⟩
  · exact ⟨rfl, hb⟩
  · rw [hu] at h; cases h
theorem unpackM_yes (a : Option Addr) (n c : Nat) (l : List Int) (most : Int) (w : World) (ts : List (List Int)) (m : Nat) (hu : unpack l most = some (ts, m)) (hA : BS w a n l) (hC : CP a n c) (hm0 : 0 ≤ most) (hm1 : most ≤ 1000) :
    Calls Try.prog 66 #[.slice a n c, .int .i64 most] w fun e w' => ∃ p cp, e = .returned (.tuple #[.slice p ts.length cp, .int .i64 (m : Int), .int .i64 0]) ∧ PC w' p ts.length ts ∧ CP p ts.length cp ∧ Below w.heap.size w w' := by
  refine (unpack_any a n c l most w hA hC hm0 hm1).mono ?_
  rintro e w1 ⟨(⟨h, rfl⟩ | ⟨qs, k, v, h, rfl, hO⟩), hb⟩
  · rw [hu] at h; cases h
  · rw [hu] at h
    simp only [Option.some.injEq, Prod.mk.injEq] at h
    obtain ⟨rfl, rfl⟩ := h
    obtain ⟨p, cp, rfl, hpc, hcp⟩ := hO.open
    exact ⟨p, cp, by simp, by simpa using hpc, by simpa using hcp, hb⟩
theorem gpk_u {l : List Int} {least : Nat} {most : Int} (h : unpack l most = none) : gpk l least most = none := by unfold gpk; rw [h]
theorem gpk_bad {l : List Int} {least : Nat} {most : Int} {ts : List (List Int)} {m : Nat} (h : unpack l most = some (ts, m)) (h2 : ¬ (m = l.length ∧ least ≤ ts.length)) : gpk l least most = none := by unfold gpk; rw [h]; simp only []; rw [if_neg h2]
theorem gpk_good {l : List Int} {least : Nat} {most : Int} {ts : List (List Int)} {m : Nat} (h : unpack l most = some (ts, m)) (h2 : m = l.length ∧ least ≤ ts.length) : gpk l least most = some ts := by unfold gpk; rw [h]; simp only []; rw [if_pos h2]

set_option maxHeartbeats 1000000 in
theorem getPack_any (a : Option Addr) (n c : Nat) (l : List Int) (least : Nat) (most : Int) (w : World) (hA : BS w a n l) (hC : CP a n c) (hm0 : 0 ≤ most) (hm1 : most ≤ 1000) (hl : least ≤ 1000) :
    Calls Try.prog 45 #[.slice a n c, .int .i64 (least : Int), .int .i64 most] w fun e w' => ((gpk l least most = none ∧ ∃ v, e = .returned (.tuple #[v, .bool false])) ∨ ∃ (ts : List (List Int)) (p : Option Addr) (cp : Nat), gpk l least most = some ts ∧ e = .returned (.tuple #[.slice p ts.length cp, .bool true]) ∧ PC w' p ts.length ts ∧ CP p ts.length cp) ∧ Below w.heap.size w w' := by
  have hn := hA.1
  have hmx := hA.2.1
  unfold maxLen at hmx
  rcases hu : unpack l most with _ | ⟨ts, m⟩
  · have HU := hide (unpackM_no a n c l most w hu hA hC hm0 hm1)
    have HE := hide (gpk_u (least := least) hu)
    clear hA hC hu hn
    go_enter Try.func45, Try.ntmps45
    go_wp2_with (go_at_call 66; refine HU.out.mono ?_; rintro e w1 ⟨rfl, hb⟩; have HB := hide hb; clear hb)
    go_ret2
    exact ⟨.inl ⟨HE.out, _, rfl⟩, HB.out⟩
  · have HU := hide (unpackM_yes a n c l most w ts m hu hA hC hm0 hm1)
    have h5 := unpack_le hA.2.2.1 hu
    have h6 := (unpack_some hA.2.2.1 hu).2.1
    obtain ⟨t, ht⟩ : ∃ t, t = ts.length := ⟨_, rfl⟩
    rw [← ht] at HU h5
    have Ht := hide ht
    by_cases k1 : m = n
    · have hm1 : ((m : Int) == (n : Int)) = true := by simp; omega
      by_cases k2 : (t : Int) ≥ (least : Int)
      · have HE := hide (gpk_good (least := least) hu ⟨by omega, by omega⟩)
        have k3 : decide (least ≤ t) = true := by rw [decide_eq_true_iff]; omega
        clear hA hC hu hn ht
        go_enter Try.func45, Try.ntmps45
        go_wp2_with (go_at_call 66; refine HU.out.mono ?_; rintro e w1 ⟨p, cp, rfl, hpc, hcp, hb⟩; have HB := hide hb; have HPC := hide hpc; have HCP := hide hcp; clear hb hpc hcp)
        go_ret2
        refine ⟨.inr ⟨ts, p, cp, HE.out, by have h := Ht.out; subst h; rfl, by rw [← Ht.out]; exact HPC.out, by rw [← Ht.out]; exact HCP.out⟩, HB.out⟩
      · have HE := hide (gpk_bad (least := least) hu (by omega))
        have k3 : decide (least ≤ t) = false := by rw [decide_eq_false_iff_not]; omega
        clear hA hC hu hn ht
        go_enter Try.func45, Try.ntmps45
        go_wp2_with (go_at_call 66; refine HU.out.mono ?_; rintro e w1 ⟨p, cp, rfl, hpc, hcp, hb⟩; have HB := hide hb; clear hb hpc hcp)
        go_ret2
        exact ⟨.inl ⟨HE.out, _, rfl⟩, HB.out⟩
    · have hm1 : ((m : Int) == (n : Int)) = false := by simp; omega
      have HE := hide (gpk_bad (least := least) hu (by omega))
      clear hA hC hu hn ht
      go_enter Try.func45, Try.ntmps45
      go_wp2_with (go_at_call 66; refine HU.out.mono ?_; rintro e w1 ⟨p, cp, rfl, hpc, hcp, hb⟩; have HB := hide hb; clear hb hpc hcp)
      go_ret2
      exact ⟨.inl ⟨HE.out, _, rfl⟩, HB.out⟩
end Go.Proofs.Ytooggheoaglbeaa

/- What 'getDot' and 'getEffect' do. -/
namespace Go.Proofs.Ytooggheoaglbeaa
open Go.RowKit
set_option linter.unusedVariables false

theorem results_ct {P : Program} {fn : Func} {p q : Tmp} {ty : TypeId} (h : fn.results = #[.cell p ty, .tmp q]) (tmps : Array Value) (w : World) (g : Nat) (t : TypeId) (cs : Array Value) (fr : Nat × Nat) (d : TypeDesc) (v : Value)
    (hp : tmps.getD p undef = .pointer (some ⟨g, 0, none⟩)) (hq : tmps.getD q undef = v) (hg : w.heap[g]? = some (.cells cs t fr))
    (hu : P.underlying ty = some d) (hd : (match d with | .struct _ | .array _ _ => true | _ => false) = true) (hi : (P.info? ty).map (·.size) = some cs.size) :
    (results fn tmps).run P w = .ok (.tuple #[.agg cs, v]) w := by
  have hp' : tmps[p]?.getD undef = .pointer (some ⟨g, 0, none⟩) := by simpa using hp
  have hq' : tmps[q]?.getD undef = v := by simpa using hq
  simp [results, h, hp', hq', asAddr, run_loadVar_row w g t ty cs fr d hg hu hd hi]
theorem Try.sizeDot : (Try.prog.info? 23).map (·.size) = some 2 := by kernel_rfl
theorem Try.sizeEff : (Try.prog.info? 35).map (·.size) = some 6 := by kernel_rfl
theorem Try.sizeEvt : (Try.prog.info? 28).map (·.size) = some 4 := by kernel_rfl
/-- All but one block is as it was. -/
def KP (g : Nat) (u W : World) : Prop := ∀ p v, u.cell? p = some v → p.block ≠ g → W.cell? p = some v
theorem KP.drew0 (g : Nat) (u : World) : KP g u u.drew := fun _ _ h _ => h
theorem KP.refl (g : Nat) (u : World) : KP g u u := fun _ _ h _ => h
theorem KP.drew {g : Nat} {u W : World} (h : KP g u W) : KP g u W.drew := h
theorem KP.set {g : Nat} {u W : World} (h : KP g u W) (i : Nat) (x : Value) : KP g u (W.setCell ⟨g, i, none⟩ x) := by
  intro p v hp hne
  have := h p v hp hne
  rw [World.cell?_setCell_far W ⟨g, i, none⟩ p x (fun e => hne e.symm)]
  exact this
theorem kcell {g : Nat} {u W : World} (h : KP g u W) {p : Addr} {v : Value} (hp : u.cell? p = some v) (hne : p.block ≠ g) : W.cell? p = some v := h p v hp hne
theorem BX.ne {u : World} {g : Nat} {C : Array Value} {t : TypeId} (h : BX u g C t) {p : Addr} {v : Value} (hp : u.cell? p = some v) (hv : ∀ i : Nat, C[i]? ≠ some v) : p.block ≠ g := by
  intro e
  obtain ⟨b, off, spot⟩ := p
  simp only at e
  subst e
  have hs := World.cell?_spot hp
  simp only at hs
  subst hs
  rw [cell_of_row u _ _ _ _ _ h] at hp
  exact hv off hp
theorem BX.drew {u : World} {g : Nat} {C : Array Value} {t : TypeId} (h : BX u g C t) : BX u.drew g C t := h
theorem BS.kp {g : Nat} {u W : World} {p : Option Addr} {n : Nat} {l : List Int} (h : BS u p n l) (hk : KP g u W) {C : Array Value} {t : TypeId} (hx : BX u g C t) (hv : ∀ (i : Nat) (n : Int), C[i]? ≠ some (Value.int .u8 n)) : BS W p n l := by
  obtain ⟨h1, h2, h3, h4⟩ := h
  refine ⟨h1, h2, h3, ?_⟩
  rcases h4 with h0 | ⟨b, off, ha, hc⟩
  · exact .inl h0
  · exact .inr ⟨b, off, ha, fun i hi => hk _ _ (hc i hi) (hx.ne (hc i hi) (fun j => hv j _))⟩
theorem conv_str {W : World} {p : Option Addr} {n c : Nat} {l : List Int} (h : BS W p n l) : (convert 37 9 (.slice p n c)).run Try.prog W = .ok (.string (strOfNums l)) W := by
  obtain ⟨h1, h2, h3, h4⟩ := h
  rcases h4 with h0 | ⟨b, off, rfl, hc⟩
  · subst h0
    obtain rfl : l = [] := List.eq_nil_of_length_eq_zero h1
    rw [run_convert_bytes_string W _ _ _ _ 0 c Try.underlying37 Try.underlying5 Try.underlying9]
    cases p <;> simp [Conv.bytesToString, loadCells]
    all_goals rfl
  · exact run_convert_bytes_arg W _ _ Try.underlying37 Try.underlying5 b off n c l h1 hc _ Try.underlying9
theorem PC.head {w : World} {a : Option Addr} {n : Nat} {ps : List (List Int)} (h : PC w a n ps) (k : Nat) (hk : k ≤ n) : PC w a k (ps.take k) := by
  obtain ⟨h1, h2, h4⟩ := h
  refine ⟨by rw [List.length_take]; omega, by omega, ?_⟩
  rcases h4 with h0 | ⟨b, off, ha, hc⟩
  · exact .inl (by omega)
  · refine .inr ⟨b, off, ha, fun i hi => ?_⟩
    have e : (ps.take k).getD i [] = ps.getD i [] := by simp [List.getD_eq_getElem?_getD, hi]
    rw [e]
    exact hc i (by omega)
theorem own_far {N : Nat} {w : World} {b off n c : Nat} {l : List Int} (h : OwnN N w (.slice (some ⟨b, off, none⟩) n c) l) : N ≤ b := by
  rcases h.2 with ⟨hh, _⟩ | ⟨g, cap, cur, hh, hb, _⟩
  · cases hh
  · cases hh; exact hb
theorem KP.put2 {g : Nat} {u W : World} (h : KP g u W) (a b : Value) : KP g u ((W.setCell ⟨g, 0, none⟩ a).setCell ⟨g, 1, none⟩ b) := (h.set 0 a).set 1 b
theorem KP.put6 {g : Nat} {u W : World} (h : KP g u W) (a b c d e f : Value) : KP g u ((((((W.setCell ⟨g, 0, none⟩ a).setCell ⟨g, 1, none⟩ b).setCell ⟨g, 2, none⟩ c).setCell ⟨g, 3, none⟩ d).setCell ⟨g, 4, none⟩ e).setCell ⟨g, 5, none⟩ f) := (((((h.set 0 a).set 1 b).set 2 c).set 3 d).set 4 e).set 5 f
theorem BX.put2 {u : World} {g : Nat} {x y : Value} {t : TypeId} (h : BX u g #[x, y] t) (a b : Value) : ((u.setCell ⟨g, 0, none⟩ a).setCell ⟨g, 1, none⟩ b).heap[g]? = some (.cells #[a, b] t (0, 0)) := (h.set 0 a).set 1 b
theorem BX.put4 {u : World} {g : Nat} {x y z v : Value} {t : TypeId} (h : BX u g #[x, y, z, v] t) (a b c d : Value) : ((((u.setCell ⟨g, 0, none⟩ a).setCell ⟨g, 1, none⟩ b).setCell ⟨g, 2, none⟩ c).setCell ⟨g, 3, none⟩ d).heap[g]? = some (.cells #[a, b, c, d] t (0, 0)) := (((h.set 0 a).set 1 b).set 2 c).set 3 d
theorem BX.put6 {u : World} {g : Nat} {x y z v x' y' : Value} {t : TypeId} (h : BX u g #[x, y, z, v, x', y'] t) (a b c d e f : Value) : ((((((u.setCell ⟨g, 0, none⟩ a).setCell ⟨g, 1, none⟩ b).setCell ⟨g, 2, none⟩ c).setCell ⟨g, 3, none⟩ d).setCell ⟨g, 4, none⟩ e).setCell ⟨g, 5, none⟩ f).heap[g]? = some (.cells #[a, b, c, d, e, f] t (0, 0)) := (((((h.set 0 a).set 1 b).set 2 c).set 3 d).set 4 e).set 5 f
theorem bel_put2 {w u : World} {g : Nat} (hb : Below w.heap.size w u) (hg : w.heap.size ≤ g) (a b : Value) : Below w.heap.size w ((u.setCell ⟨g, 0, none⟩ a).setCell ⟨g, 1, none⟩ b) := (hb.setCell (p := ⟨g, 0, none⟩) hg a).setCell (p := ⟨g, 1, none⟩) hg b
theorem bel_put4 {w u : World} {g : Nat} (hb : Below w.heap.size w u) (hg : w.heap.size ≤ g) (a b c d : Value) : Below w.heap.size w ((((u.setCell ⟨g, 0, none⟩ a).setCell ⟨g, 1, none⟩ b).setCell ⟨g, 2, none⟩ c).setCell ⟨g, 3, none⟩ d) := ((bel_put2 hb hg a b).setCell (p := ⟨g, 2, none⟩) hg c).setCell (p := ⟨g, 3, none⟩) hg d
theorem bel_put6 {w u : World} {g : Nat} (hb : Below w.heap.size w u) (hg : w.heap.size ≤ g) (a b c d e f : Value) : Below w.heap.size w ((((((u.setCell ⟨g, 0, none⟩ a).setCell ⟨g, 1, none⟩ b).setCell ⟨g, 2, none⟩ c).setCell ⟨g, 3, none⟩ d).setCell ⟨g, 4, none⟩ e).setCell ⟨g, 5, none⟩ f) := ((bel_put4 hb hg a b c d).setCell (p := ⟨g, 4, none⟩) hg e).setCell (p := ⟨g, 5, none⟩) hg f
abbrev bxD0 : Obj := .cells #[.int .i64 0, .int .i64 0] 23
theorem rdD_no1 {b : List Int} (h : gpk b 2 2 = none) : rdD b = none := by unfold rdD; rw [h]
theorem rdD_no2 {b : List Int} {ts : List (List Int)} (h : gpk b 2 2 = some ts) (h2 : rdAll ts = none) : rdD b = none := by unfold rdD; rw [h]; simp only [h2]
theorem rdD_yes {b : List Int} {ts : List (List Int)} {x y : Int} (h : gpk b 2 2 = some ts) (h2 : rdAll ts = some [x, y]) : rdD b = some (x, y) := by unfold rdD; rw [h]; simp only [h2]; rfl
theorem ret_bad {v : Value} : ∃ u, Ending.returned (.tuple #[v, .bool false]) = .returned (.tuple #[u, .bool false]) := ⟨v, rfl⟩
theorem bel_set {w u : World} {g : Nat} (hb : Below w.heap.size w u) (hg : w.heap.size ≤ g) (i : Nat) (x : Value) : Below w.heap.size w (u.setCell ⟨g, i, none⟩ x) := hb.setCell (p := ⟨g, i, none⟩) hg x

set_option maxHeartbeats 1000000 in
theorem getDot_any (a : Option Addr) (n c : Nat) (l : List Int) (w : World) (hA : BS w a n l) (hC : CP a n c) :
    Calls Try.prog 67 #[.slice a n c] w fun e w' => ((rdD l = none ∧ ∃ x y : Int, e = .returned (.tuple #[.agg #[.int .i64 x, .int .i64 y], .bool false])) ∨ ∃ x y : Int, rdD l = some (x, y) ∧ e = .returned (.tuple #[.agg #[.int .i64 x, .int .i64 y], .bool true])) ∧ Below w.heap.size w w' := by
  have HP := hide (getPack_any a n c l 2 2 (w.alloc bxD0) (hA.alloc _) hC (by decide) (by decide) (by decide))
  have HU := hide (bel1 w bxD0)
  have HX := hide (BX.new w _ rfl #[.int .i64 0, .int .i64 0] 23)
  have hby := hide hA.2.2.1
  clear hA hC
  go_enter Try.func67, Try.ntmps67
  go_wp2_with (go_at_call 45; refine Stop.at ?_)
  unfold Stop
  refine HP.out.mono ?_
  rintro e u ⟨(⟨hg, v, rfl⟩ | ⟨ts, p, cp, hg, rfl, hpc, hcp⟩), hb⟩
  · have HX2 := hide (HX.out.below hb)
    have HB2 := hide (bel_next HU.out hb)
    have HE := hide (rdD_no1 hg)
    clear hb hg HP HX
    have e0 := HX2.out.cell 0 _ rfl
    have e1 := HX2.out.cell 1 _ rfl
    have z0 := HX2.out.free 0
    have z1 := HX2.out.free 1
    go_wp2
    refine bodyPost_ret (results_ct rfl _ _ _ _ _ _ _ _ rfl rfl (HX2.out.put2 _ _) Try.underlying23 rfl Try.sizeDot) rfl ?_
    exact ⟨.inl ⟨HE.out, _, _, rfl⟩, bel_put2 HB2.out (Nat.le_refl _) _ _⟩
  · obtain ⟨_, hts, hl1, hl2⟩ := gpk_some hby.out hg
    have hlen : ts.length = 2 := by omega
    have HX2 := hide (HX.out.below hb)
    have HB2 := hide (bel_next HU.out hb)
    have hgu := HX2.out.size
    have HN := hide (getNumbers_any p ts.length cp ts u hpc (by omega))
    have HG := hide hg
    have HT := hide (fun t ht => (hts t ht).2)
    have HL := hide hlen
    rw [hlen] at HN ⊢
    clear hb hpc hcp hg hts hl1 hl2 hlen HP HX
    go_wp2_with (go_at_call 92; refine Stop.at ?_)
    unfold Stop
    refine HN.out.mono ?_
    rintro e u2 ⟨(⟨hg, rfl⟩ | ⟨c2, v, hg, rfl, hO⟩), hb⟩
    · have HX3 := hide (HX2.out.below hb)
      have HB3 := hide (bel_next HB2.out hb)
      have HE := hide (rdD_no2 HG.out hg)
      clear hb hg HN
      have e0 := HX3.out.cell 0 _ rfl
      have e1 := HX3.out.cell 1 _ rfl
      have z0 := HX3.out.free 0
      have z1 := HX3.out.free 1
      go_wp2
      refine bodyPost_ret (results_ct rfl _ _ _ _ _ _ _ _ rfl rfl (HX3.out.put2 _ _) Try.underlying23 rfl Try.sizeDot) rfl ?_
      exact ⟨.inl ⟨HE.out, _, _, rfl⟩, bel_put2 HB3.out (Nat.le_refl _) _ _⟩
    · have HX3 := hide (HX2.out.below hb)
      have HB3 := hide (bel_next HB2.out hb)
      obtain ⟨x, y, rfl⟩ := len2 c2 (by rw [(rdAll_is HT.out hg).2.1]; exact HL.out)
      have HE := hide (rdD_yes HG.out hg)
      obtain ⟨p2, k2, hv, hns, _⟩ := hO.open
      subst hv
      rcases hns.2.2 with h0 | ⟨b, off, rfl, hcl⟩
      · simp at h0
      · have f0 := hcl 0 (by simp)
        have f1 := hcl 1 (by simp)
        simp only [Nat.add_zero, List.getD_cons_zero, List.getD_cons_succ] at f0 f1
        have hne : b ≠ w.heap.size := by have := own_far hO; omega
        clear hb hg hns hcl hO HN
        go_wp2_with fail
        refine wp_region_held_drew (S := fun W => KP w.heap.size u2 W) (by kernel_rfl) (KP.drew0 _ _) (fun hS0 => ?_)
        refine takeInH 0 23 ?v1 rfl rfl (by kernel_rfl) (by kernel_rfl) (by kernel_rfl) (fun _ _ _ h => h) (by kernel_rfl) hS0 ?hy1 ?_
        case hy1 => (intro W hW; clear hW; go_simp; try rfl)
        simp only [Act.put, List.setIfInBounds_toArray, List.set_cons_zero, List.set_cons_succ]
        refine takeInH 1 24 ?v2 rfl rfl (by kernel_rfl) (by kernel_rfl) (by kernel_rfl) (fun _ _ _ h => h) (by kernel_rfl) hS0 ?hy2 ?_
        case hy2 => (intro W hW; clear hW; go_simp; try rfl)
        simp only [Act.put, List.setIfInBounds_toArray, List.set_cons_zero, List.set_cons_succ]
        refine takeInH 2 25 ?v3 rfl rfl (by kernel_rfl) (by kernel_rfl) (by kernel_rfl) (fun _ _ _ h => h) (by kernel_rfl) hS0 ?hy3 ?_
        case hy3 => (intro W hW; have e0 := (kcell hW f0 hne); have e1 := (kcell hW f1 hne); clear hW; go_simp; try rfl)
        simp only [Act.put, List.setIfInBounds_toArray, List.set_cons_zero, List.set_cons_succ]
        refine takeInH 3 26 ?v4 rfl rfl (by kernel_rfl) (by kernel_rfl) (by kernel_rfl) (fun _ _ _ h => h) (by kernel_rfl) hS0 ?hy4 ?_
        case hy4 => (intro W hW; clear hW; go_simp; try rfl)
        simp only [Act.put, List.setIfInBounds_toArray, List.set_cons_zero, List.set_cons_succ]
        refine takeInH 4 27 ?v5 rfl rfl (by kernel_rfl) (by kernel_rfl) (by kernel_rfl) (fun _ _ _ h => h) (by kernel_rfl) hS0 ?hy5 ?_
        case hy5 => (intro W hW; clear hW; go_simp; try rfl)
        simp only [Act.put, List.setIfInBounds_toArray, List.set_cons_zero, List.set_cons_succ]
        refine takeInH 5 28 ?v6 rfl rfl (by kernel_rfl) (by kernel_rfl) (by kernel_rfl) (fun _ _ _ h => h) (by kernel_rfl) hS0 ?hy6 ?_
        case hy6 => (intro W hW; have e0 := (kcell hW f0 hne); have e1 := (kcell hW f1 hne); clear hW; go_simp; try rfl)
        simp only [Act.put, List.setIfInBounds_toArray, List.set_cons_zero, List.set_cons_succ]
        refine takeInH 6 29 ?v7 rfl rfl (by kernel_rfl) (by kernel_rfl) (by kernel_rfl) (fun _ _ _ h => h) (by kernel_rfl) hS0 ?hy7 ?_
        case hy7 => (intro W hW; clear hW; go_simp; try rfl)
        simp only [Act.put, List.setIfInBounds_toArray, List.set_cons_zero, List.set_cons_succ]
        refine wpAnyH_ready (rs := [7]) (by kernel_rfl) (by simp) ?_
        refine AllReadyH.cons rfl (fun K hK => ?_) AllReadyH.nil
        have e0 := HX3.out.cell 0 _ rfl
        have e1 := HX3.out.cell 1 _ rfl
        have z0 := HX3.out.free 0
        have z1 := HX3.out.free 1
        go_simp
        refine hK.out _ _ ?hs8 (fun hS1 => ?_)
        case hs8 => exact ((KP.refl w.heap.size u2).put2 _ _).drew
        clear hK K
        try simp only [Act.put, List.setIfInBounds_toArray, List.set_cons_zero, List.set_cons_succ]
        refine takeInH 8 3 ?v9 rfl rfl (by kernel_rfl) (by kernel_rfl) (by kernel_rfl) (fun _ _ _ h => h) (by kernel_rfl) hS1 ?hy9 ?_
        case hy9 => (intro W hW; clear hW; go_simp; try rfl)
        simp only [Act.put, List.setIfInBounds_toArray, List.set_cons_zero, List.set_cons_succ]
        refine wpAnyH_done (by kernel_rfl) ?_ _
        go_wp2
        refine bodyPost_ret (results_ct rfl _ _ _ _ _ _ _ _ rfl rfl (BX.drew (HX3.out.put2 _ _)) Try.underlying23 rfl Try.sizeDot) rfl ?_
        exact ⟨.inr ⟨x, y, HE.out, rfl⟩, (bel_put2 HB3.out (Nat.le_refl _) _ _).drew⟩

abbrev bxF0 : Obj := .cells #[.int .i64 0, .int .i64 0, .string ⟨#[]⟩, .int .i64 0, .int .i64 0, .string ⟨#[]⟩] 35
theorem noU8 : ∀ (i : Nat) (n : Int), (#[.int .i64 0, .int .i64 0, .string ⟨#[]⟩, .int .i64 0, .int .i64 0, .string ⟨#[]⟩] : Array Value)[i]? ≠ some (.int .u8 n) := by
  intro i n
  rcases i with _ | _ | _ | _ | _ | _ | i <;> simp
theorem noSl : ∀ (i : Nat) (p : Option Addr) (n c : Nat), (#[.int .i64 0, .int .i64 0, .string ⟨#[]⟩, .int .i64 0, .int .i64 0, .string ⟨#[]⟩] : Array Value)[i]? ≠ some (.slice p n c) := by
  intro i p n c
  rcases i with _ | _ | _ | _ | _ | _ | i <;> simp
theorem rdF_no1 {b : List Int} (h : gpk b 6 6 = none) : rdF b = none := by unfold rdF; rw [h]
theorem rdF_no2 {b : List Int} {ts : List (List Int)} (h : gpk b 6 6 = some ts) (h2 : rdAll (ts.take 4) = none) : rdF b = none := by unfold rdF; rw [h]; simp only [h2]
theorem rdF_yes {b : List Int} {ts : List (List Int)} {x y z v : Int} {t4 t5 : List Int} (h : gpk b 6 6 = some ts) (h2 : rdAll (ts.take 4) = some [x, y, z, v]) (h4 : ts.getD 4 [] = t4) (h5 : ts.getD 5 [] = t5) : rdF b = some (x, y, t4, z, v, t5) := by unfold rdF; rw [h]; simp only [h2, h4, h5]; rfl
/-- An effect's value. -/
abbrev effV (x : Eff) : Value := .agg #[.int .i64 x.1, .int .i64 x.2.1, .string (strOfNums x.2.2.1), .int .i64 x.2.2.2.1, .int .i64 x.2.2.2.2.1, .string (strOfNums x.2.2.2.2.2)]
set_option maxHeartbeats 8000000 in
theorem getEffect_any (a : Option Addr) (n c : Nat) (l : List Int) (w : World) (hA : BS w a n l) (hC : CP a n c) :
    Calls Try.prog 69 #[.slice a n c] w fun e w' => ((rdF l = none ∧ ∃ x : Eff, e = .returned (.tuple #[effV x, .bool false])) ∨ ∃ x : Eff, rdF l = some x ∧ e = .returned (.tuple #[effV x, .bool true])) ∧ Below w.heap.size w w' := by
  have HP := hide (getPack_any a n c l 6 6 (w.alloc bxF0) (hA.alloc _) hC (by decide) (by decide) (by decide))
  have HU := hide (bel1 w bxF0)
  have HX := hide (BX.new w _ rfl #[.int .i64 0, .int .i64 0, .string ⟨#[]⟩, .int .i64 0, .int .i64 0, .string ⟨#[]⟩] 35)
  have hby := hide hA.2.2.1
  clear hA hC
  go_enter Try.func69, Try.ntmps69
  go_wp2_with (go_at_call 45; refine Stop.at ?_)
  unfold Stop
  refine HP.out.mono ?_
  rintro e u ⟨(⟨hg, v, rfl⟩ | ⟨ts, p, cp, hg, rfl, hpc, hcp⟩), hb⟩
  · have HX2 := hide (HX.out.below hb)
    have HB2 := hide (bel_next HU.out hb)
    have HE := hide (rdF_no1 hg)
    clear hb hg HP HX
    have e0 := HX2.out.cell 0 _ rfl
    have e1 := HX2.out.cell 1 _ rfl
    have e2 := HX2.out.cell 2 _ rfl
    have e3 := HX2.out.cell 3 _ rfl
    have e4 := HX2.out.cell 4 _ rfl
    have e5 := HX2.out.cell 5 _ rfl
    have z0 := HX2.out.free 0
    have z1 := HX2.out.free 1
    have z2 := HX2.out.free 2
    have z3 := HX2.out.free 3
    have z4 := HX2.out.free 4
    have z5 := HX2.out.free 5
    go_wp2
    refine bodyPost_ret (results_ct rfl _ _ _ _ _ _ _ _ rfl rfl (HX2.out.put6 _ _ _ _ _ _) Try.underlying35 rfl Try.sizeEff) rfl ?_
    exact ⟨.inl ⟨HE.out, (0, 0, [], 0, 0, []), rfl⟩, bel_put6 HB2.out (Nat.le_refl _) _ _ _ _ _ _⟩
  · obtain ⟨_, hts, hl1, hl2⟩ := gpk_some hby.out hg
    have hlen : ts.length = 6 := by omega
    have HX2 := hide (HX.out.below hb)
    have HB2 := hide (bel_next HU.out hb)
    have hgu := HX2.out.size
    have HN := hide (getNumbers_any p 4 cp (ts.take 4) u (hpc.head 4 (by omega)) (by omega))
    have HG := hide hg
    have HT : Hid (∀ t ∈ ts.take 4, By t) := fun t ht => (hts t (List.mem_of_mem_take ht)).2
    have HL := hide hlen
    have hcp6 : 6 ≤ cp := by have := hcp.1; omega
    have hcpm : cp ≤ 9223372036854775807 := hcp.2.1
    rw [hlen] at hpc ⊢
    have HPC := hide hpc
    clear hb hpc hcp hg hts hl1 hl2 hlen HP HX
    go_wp2_with (go_at_call 92; refine Stop.at ?_)
    unfold Stop
    refine HN.out.mono ?_
    rintro e u2 ⟨(⟨hg, rfl⟩ | ⟨c2, v, hg, rfl, hO⟩), hb⟩
    · have HX3 := hide (HX2.out.below hb)
      have HB3 := hide (bel_next HB2.out hb)
      have HE := hide (rdF_no2 HG.out hg)
      clear hb hg HN
      have e0 := HX3.out.cell 0 _ rfl
      have e1 := HX3.out.cell 1 _ rfl
      have e2 := HX3.out.cell 2 _ rfl
      have e3 := HX3.out.cell 3 _ rfl
      have e4 := HX3.out.cell 4 _ rfl
      have e5 := HX3.out.cell 5 _ rfl
      have z0 := HX3.out.free 0
      have z1 := HX3.out.free 1
      have z2 := HX3.out.free 2
      have z3 := HX3.out.free 3
      have z4 := HX3.out.free 4
      have z5 := HX3.out.free 5
      go_wp2
      refine bodyPost_ret (results_ct rfl _ _ _ _ _ _ _ _ rfl rfl (HX3.out.put6 _ _ _ _ _ _) Try.underlying35 rfl Try.sizeEff) rfl ?_
      exact ⟨.inl ⟨HE.out, (0, 0, [], 0, 0, []), rfl⟩, bel_put6 HB3.out (Nat.le_refl _) _ _ _ _ _ _⟩
    · have HX3 := hide (HX2.out.below hb)
      have HB3 := hide (bel_next HB2.out hb)
      obtain ⟨x, y, z, v, rfl⟩ := len4 c2 (by rw [(rdAll_is HT.out hg).2.1, List.length_take, HL.out]; rfl)
      obtain ⟨t4, h4⟩ : ∃ t, ts.getD 4 [] = t := ⟨_, rfl⟩
      obtain ⟨t5, h5⟩ : ∃ t, ts.getD 5 [] = t := ⟨_, rfl⟩
      have HE := hide (rdF_yes HG.out hg h4 h5)
      obtain ⟨p2, k2, hv, hns, _⟩ := hO.open
      subst hv
      rcases HPC.out.2.2 with h0 | ⟨bt, offt, rfl, hct⟩
      · omega
      obtain ⟨x4, n4, k4, g4, hb4, hc4⟩ := hct 4 (by decide)
      obtain ⟨x5, n5, k5, g5, hb5, hc5⟩ := hct 5 (by decide)
      rw [h4] at hb4
      rw [h5] at hb5
      have HB4 := hide (hb4.below hb)
      have HB5 := hide (hb5.below hb)
      replace g4 := bcell hb g4
      replace g5 := bcell hb g5
      have hne2 : bt ≠ w.heap.size := HX3.out.ne g4 (fun i => noSl i _ _ _)
      rcases hns.2.2 with h0 | ⟨b, off, rfl, hcl⟩
      · simp at h0
      · have f0 := hcl 0 (by simp)
        have f1 := hcl 1 (by simp)
        have f2 := hcl 2 (by simp)
        have f3 := hcl 3 (by simp)
        simp only [Nat.add_zero, List.getD_cons_zero, List.getD_cons_succ] at f0 f1 f2 f3
        have hne : b ≠ w.heap.size := by have := own_far hO; omega
        clear hb hg hns hcl hO HN hb4 hb5 hc4 hc5 hct h4 h5
        go_wp2_with fail
        refine wp_region_held_drew (S := fun W => KP w.heap.size u2 W) (by kernel_rfl) (KP.drew0 _ _) (fun hS0 => ?_)
        refine takeInH 0 24 ?v10 rfl rfl (by kernel_rfl) (by kernel_rfl) (by kernel_rfl) (fun _ _ _ h => h) (by kernel_rfl) hS0 ?hy10 ?_
        case hy10 => (intro W hW; clear hW; go_simp; try rfl)
        simp only [Act.put, List.setIfInBounds_toArray, List.set_cons_zero, List.set_cons_succ]
        refine takeInH 1 25 ?v11 rfl rfl (by kernel_rfl) (by kernel_rfl) (by kernel_rfl) (fun _ _ _ h => h) (by kernel_rfl) hS0 ?hy11 ?_
        case hy11 => (intro W hW; clear hW; go_simp; try rfl)
        simp only [Act.put, List.setIfInBounds_toArray, List.set_cons_zero, List.set_cons_succ]
        refine takeInH 2 26 ?v12 rfl rfl (by kernel_rfl) (by kernel_rfl) (by kernel_rfl) (fun _ _ _ h => h) (by kernel_rfl) hS0 ?hy12 ?_
        case hy12 => (intro W hW; have e0 := (kcell hW f0 hne); have e1 := (kcell hW f1 hne); have e2 := (kcell hW f2 hne); have e3 := (kcell hW f3 hne); have e4 := (kcell hW g4 hne2); have e5 := (kcell hW g5 hne2); clear hW; go_simp; try rfl)
        simp only [Act.put, List.setIfInBounds_toArray, List.set_cons_zero, List.set_cons_succ]
        refine takeInH 3 27 ?v13 rfl rfl (by kernel_rfl) (by kernel_rfl) (by kernel_rfl) (fun _ _ _ h => h) (by kernel_rfl) hS0 ?hy13 ?_
        case hy13 => (intro W hW; clear hW; go_simp; try rfl)
        simp only [Act.put, List.setIfInBounds_toArray, List.set_cons_zero, List.set_cons_succ]
        refine takeInH 4 28 ?v14 rfl rfl (by kernel_rfl) (by kernel_rfl) (by kernel_rfl) (fun _ _ _ h => h) (by kernel_rfl) hS0 ?hy14 ?_
        case hy14 => (intro W hW; clear hW; go_simp; try rfl)
        simp only [Act.put, List.setIfInBounds_toArray, List.set_cons_zero, List.set_cons_succ]
        refine takeInH 5 29 ?v15 rfl rfl (by kernel_rfl) (by kernel_rfl) (by kernel_rfl) (fun _ _ _ h => h) (by kernel_rfl) hS0 ?hy15 ?_
        case hy15 => (intro W hW; have e0 := (kcell hW f0 hne); have e1 := (kcell hW f1 hne); have e2 := (kcell hW f2 hne); have e3 := (kcell hW f3 hne); have e4 := (kcell hW g4 hne2); have e5 := (kcell hW g5 hne2); clear hW; go_simp; try rfl)
        simp only [Act.put, List.setIfInBounds_toArray, List.set_cons_zero, List.set_cons_succ]
        refine takeInH 6 30 ?v16 rfl rfl (by kernel_rfl) (by kernel_rfl) (by kernel_rfl) (fun _ _ _ h => h) (by kernel_rfl) hS0 ?hy16 ?_
        case hy16 => (intro W hW; clear hW; go_simp; try rfl)
        simp only [Act.put, List.setIfInBounds_toArray, List.set_cons_zero, List.set_cons_succ]
        refine takeInH 7 31 ?v17 rfl rfl (by kernel_rfl) (by kernel_rfl) (by kernel_rfl) (fun _ _ _ h => h) (by kernel_rfl) hS0 ?hy17 ?_
        case hy17 => (intro W hW; clear hW; go_simp; try rfl)
        simp only [Act.put, List.setIfInBounds_toArray, List.set_cons_zero, List.set_cons_succ]
        refine takeInH 8 32 ?v18 rfl rfl (by kernel_rfl) (by kernel_rfl) (by kernel_rfl) (fun _ _ _ h => h) (by kernel_rfl) hS0 ?hy18 ?_
        case hy18 => (intro W hW; have e0 := (kcell hW f0 hne); have e1 := (kcell hW f1 hne); have e2 := (kcell hW f2 hne); have e3 := (kcell hW f3 hne); have e4 := (kcell hW g4 hne2); have e5 := (kcell hW g5 hne2); clear hW; go_simp; try rfl)
        simp only [Act.put, List.setIfInBounds_toArray, List.set_cons_zero, List.set_cons_succ]
        refine takeInH 9 33 ?v19 rfl rfl (by kernel_rfl) (by kernel_rfl) (by kernel_rfl) (fun _ _ _ h => h) (by kernel_rfl) hS0 ?hy19 ?_
        case hy19 => (intro W hW; clear hW; go_simp; try rfl)
        simp only [Act.put, List.setIfInBounds_toArray, List.set_cons_zero, List.set_cons_succ]
        refine takeInH 10 34 ?v20 rfl rfl (by kernel_rfl) (by kernel_rfl) (by kernel_rfl) (fun _ _ _ h => h) (by kernel_rfl) hS0 ?hy20 ?_
        case hy20 => (intro W hW; clear hW; go_simp; try rfl)
        simp only [Act.put, List.setIfInBounds_toArray, List.set_cons_zero, List.set_cons_succ]
        refine takeInH 11 35 ?v21 rfl rfl (by kernel_rfl) (by kernel_rfl) (by kernel_rfl) (fun _ _ _ h => h) (by kernel_rfl) hS0 ?hy21 ?_
        case hy21 => (intro W hW; have e0 := (kcell hW f0 hne); have e1 := (kcell hW f1 hne); have e2 := (kcell hW f2 hne); have e3 := (kcell hW f3 hne); have e4 := (kcell hW g4 hne2); have e5 := (kcell hW g5 hne2); clear hW; go_simp; try rfl)
        simp only [Act.put, List.setIfInBounds_toArray, List.set_cons_zero, List.set_cons_succ]
        refine takeInH 12 36 ?v22 rfl rfl (by kernel_rfl) (by kernel_rfl) (by kernel_rfl) (fun _ _ _ h => h) (by kernel_rfl) hS0 ?hy22 ?_
        case hy22 => (intro W hW; clear hW; go_simp; try rfl)
        simp only [Act.put, List.setIfInBounds_toArray, List.set_cons_zero, List.set_cons_succ]
        refine takeInH 13 37 ?v23 rfl rfl (by kernel_rfl) (by kernel_rfl) (by kernel_rfl) (fun _ _ _ h => h) (by kernel_rfl) hS0 ?hy23 ?_
        case hy23 => (intro W hW; clear hW; go_simp; try rfl)
        simp only [Act.put, List.setIfInBounds_toArray, List.set_cons_zero, List.set_cons_succ]
        refine takeInH 14 38 ?v24 rfl rfl (by kernel_rfl) (by kernel_rfl) (by kernel_rfl) (fun _ _ _ h => h) (by kernel_rfl) hS0 ?hy24 ?_
        case hy24 => (intro W hW; have e0 := (kcell hW f0 hne); have e1 := (kcell hW f1 hne); have e2 := (kcell hW f2 hne); have e3 := (kcell hW f3 hne); have e4 := (kcell hW g4 hne2); have e5 := (kcell hW g5 hne2); clear hW; go_simp; try rfl)
        simp only [Act.put, List.setIfInBounds_toArray, List.set_cons_zero, List.set_cons_succ]
        refine takeInH 15 39 ?v25 rfl rfl (by kernel_rfl) (by kernel_rfl) (by kernel_rfl) (fun _ _ _ h => h) (by kernel_rfl) hS0 ?hy25 ?_
        case hy25 => (intro W hW; have q := conv_str (c := k4) (HB4.out.kp hW HX3.out noU8); clear hW; go_simp; try rfl)
        simp only [Act.put, List.setIfInBounds_toArray, List.set_cons_zero, List.set_cons_succ]
        refine takeInH 16 40 ?v26 rfl rfl (by kernel_rfl) (by kernel_rfl) (by kernel_rfl) (fun _ _ _ h => h) (by kernel_rfl) hS0 ?hy26 ?_
        case hy26 => (intro W hW; clear hW; go_simp; try rfl)
        simp only [Act.put, List.setIfInBounds_toArray, List.set_cons_zero, List.set_cons_succ]
        refine takeInH 17 41 ?v27 rfl rfl (by kernel_rfl) (by kernel_rfl) (by kernel_rfl) (fun _ _ _ h => h) (by kernel_rfl) hS0 ?hy27 ?_
        case hy27 => (intro W hW; clear hW; go_simp; try rfl)
        simp only [Act.put, List.setIfInBounds_toArray, List.set_cons_zero, List.set_cons_succ]
        refine takeInH 18 42 ?v28 rfl rfl (by kernel_rfl) (by kernel_rfl) (by kernel_rfl) (fun _ _ _ h => h) (by kernel_rfl) hS0 ?hy28 ?_
        case hy28 => (intro W hW; have e0 := (kcell hW f0 hne); have e1 := (kcell hW f1 hne); have e2 := (kcell hW f2 hne); have e3 := (kcell hW f3 hne); have e4 := (kcell hW g4 hne2); have e5 := (kcell hW g5 hne2); clear hW; go_simp; try rfl)
        simp only [Act.put, List.setIfInBounds_toArray, List.set_cons_zero, List.set_cons_succ]
        refine takeInH 19 43 ?v29 rfl rfl (by kernel_rfl) (by kernel_rfl) (by kernel_rfl) (fun _ _ _ h => h) (by kernel_rfl) hS0 ?hy29 ?_
        case hy29 => (intro W hW; have q := conv_str (c := k5) (HB5.out.kp hW HX3.out noU8); clear hW; go_simp; try rfl)
        simp only [Act.put, List.setIfInBounds_toArray, List.set_cons_zero, List.set_cons_succ]
        refine takeInH 20 44 ?v30 rfl rfl (by kernel_rfl) (by kernel_rfl) (by kernel_rfl) (fun _ _ _ h => h) (by kernel_rfl) hS0 ?hy30 ?_
        case hy30 => (intro W hW; clear hW; go_simp; try rfl)
        simp only [Act.put, List.setIfInBounds_toArray, List.set_cons_zero, List.set_cons_succ]
        refine wpAnyH_ready (rs := [21]) (by kernel_rfl) (by simp) ?_
        refine AllReadyH.cons rfl (fun K hK => ?_) AllReadyH.nil
        have e0 := HX3.out.cell 0 _ rfl
        have e1 := HX3.out.cell 1 _ rfl
        have e2 := HX3.out.cell 2 _ rfl
        have e3 := HX3.out.cell 3 _ rfl
        have e4 := HX3.out.cell 4 _ rfl
        have e5 := HX3.out.cell 5 _ rfl
        have z0 := HX3.out.free 0
        have z1 := HX3.out.free 1
        have z2 := HX3.out.free 2
        have z3 := HX3.out.free 3
        have z4 := HX3.out.free 4
        have z5 := HX3.out.free 5
        go_simp
        refine hK.out _ _ ?hs31 (fun hS1 => ?_)
        case hs31 => exact ((KP.refl w.heap.size u2).put6 _ _ _ _ _ _).drew
        clear hK K
        try simp only [Act.put, List.setIfInBounds_toArray, List.set_cons_zero, List.set_cons_succ]
        refine takeInH 22 3 ?v32 rfl rfl (by kernel_rfl) (by kernel_rfl) (by kernel_rfl) (fun _ _ _ h => h) (by kernel_rfl) hS1 ?hy32 ?_
        case hy32 => (intro W hW; clear hW; go_simp; try rfl)
        simp only [Act.put, List.setIfInBounds_toArray, List.set_cons_zero, List.set_cons_succ]
        refine wpAnyH_done (by kernel_rfl) ?_ _
        go_wp2
        refine bodyPost_ret (results_ct rfl _ _ _ _ _ _ _ _ rfl rfl (BX.drew (HX3.out.put6 _ _ _ _ _ _)) Try.underlying35 rfl Try.sizeEff) rfl ?_
        exact ⟨.inr ⟨(x, y, t4, z, v, t5), HE.out, rfl⟩, (bel_put6 HB3.out (Nat.le_refl _) _ _ _ _ _ _).drew⟩

end Go.Proofs.Ytooggheoaglbeaa

/- What 'getParts' and 'Get' do. -/
namespace Go.Proofs.Ytooggheoaglbeaa
open Go.RowKit
set_option linter.unusedVariables false

section
variable {α : Type} {enc : α → List Value} {k : Nat} {T : TypeId}
theorem OwnR.off {N : Nat} {w : World} {v : Value} {l : List α} {g : Nat} {C : Array Value} {t : TypeId} (h : OwnR enc k T N w v l) (hx : BX w g C t) (hne : T ≠ t) : v.ownBlock ≠ some g := by
  rcases h.2 with ⟨rfl, _⟩ | ⟨g', cap, cur, rfl, _, hg, _⟩
  · intro hh; simp [Value.ownBlock] at hh
  · intro hh
    simp [Value.ownBlock] at hh
    subst hh
    unfold BX at hx
    rw [hg] at hx
    simp at hx
    exact hne hx.2
theorem OwnR.set {N : Nat} {w : World} {v : Value} {l : List α} {g : Nat} (h : OwnR enc k T N w v l) (ho : v.ownBlock ≠ some g) (i : Nat) (x : Value) : OwnR enc k T N (w.setCell ⟨g, i, none⟩ x) v l := by
  refine ⟨h.1, ?_⟩
  rcases h.2 with hn | ⟨g', cap, cur, rfl, hb', hgg, rest⟩
  · exact .inl hn
  · refine .inr ⟨g', cap, cur, rfl, hb', ?_, rest⟩
    have hne : g ≠ g' := fun e => ho (by simp [Value.ownBlock, e])
    rw [← hgg]
    simp [World.setCell, Array.getElem?_modify, hne]
end
theorem BX.grown {w w' : World} {r : Option Nat} {g : Nat} {C : Array Value} {t : TypeId} (h : BX w g C t) (hg : w.grownBy w' r) (hr : r ≠ some g) : BX w' g C t := by
  unfold BX
  rw [hg.block g h.size (fun e => hr e.symm)]
  exact h
theorem KP.put4 {g : Nat} {u W : World} (h : KP g u W) (a b c d : Value) : KP g u ((((W.setCell ⟨g, 0, none⟩ a).setCell ⟨g, 1, none⟩ b).setCell ⟨g, 2, none⟩ c).setCell ⟨g, 3, none⟩ d) := (((h.set 0 a).set 1 b).set 2 c).set 3 d
theorem NS.kp {g : Nat} {u W : World} {p : Option Addr} {n : Nat} {l : List Int} (h : NS u p n l) (hk : KP g u W) (hp : ∀ a, p = some a → a.block ≠ g) : NS W p n l := by
  obtain ⟨h1, h2, h4⟩ := h
  refine ⟨h1, h2, ?_⟩
  rcases h4 with h0 | ⟨b, off, ha, hc⟩
  · exact .inl h0
  · exact .inr ⟨b, off, ha, fun i hi => hk _ _ (hc i hi) (show b ≠ g from hp _ ha)⟩
theorem ES.kp {g : Nat} {u W : World} {p : Option Addr} {n : Nat} {l : List Eff} (h : ES u p n l) (hk : KP g u W) (hp : ∀ a, p = some a → a.block ≠ g) : ES W p n l := by
  obtain ⟨⟨h1, h2, h4⟩, h5⟩ := h
  refine ⟨⟨h1, h2, ?_⟩, h5⟩
  rcases h4 with h0 | ⟨b, off, ha, hc⟩
  · exact .inl h0
  · exact .inr ⟨b, off, ha, fun i x hi j v hj => hk _ _ (hc i x hi j v hj) (show b ≠ g from hp _ ha)⟩
theorem own_lo {e : TypeId} {k : Nat} {N : Nat} {w : World} {p : Option Addr} {n c m : Nat} {xs : List Value} (h : w.ownsRow N e k (.slice p n c) m xs) : ∀ a, p = some a → N ≤ a.block := by
  intro a ha
  rcases h.2 with ⟨hh, _⟩ | ⟨g, cap, cur, hh, hb, _⟩
  · cases hh; cases ha
  · cases hh; cases ha; exact hb
abbrev bxE0 : Obj := .cells #[.int .i64 0, .int .i64 0, .slice none 0 0, .slice none 0 0] 28
theorem rdFs_step {ts : List (List Int)} {k : Nat} {x : Eff} {acc : List Eff} (hk : k < ts.length) (h : rdFs ts = (rdFs (ts.drop k)).map (acc ++ ·)) (hx : rdF (ts.getD k []) = some x) : rdFs ts = (rdFs (ts.drop (k + 1))).map ((acc ++ [x]) ++ ·) := by
  have e : ts.getD k [] = ts[k] := by simp [List.getD_eq_getElem?_getD, hk]
  rw [e] at hx
  rw [h, List.drop_eq_getElem_cons hk]
  simp only [rdFs, hx, Option.map_map]
  congr 1
  funext y
  simp
theorem rdFs_bad {ts : List (List Int)} {k : Nat} {acc : List Eff} (hk : k < ts.length) (h : rdFs ts = (rdFs (ts.drop k)).map (acc ++ ·)) (hx : rdF (ts.getD k []) = none) : rdFs ts = none := by
  have e : ts.getD k [] = ts[k] := by simp [List.getD_eq_getElem?_getD, hk]
  rw [e] at hx
  rw [h, List.drop_eq_getElem_cons hk]
  simp only [rdFs, hx, Option.map_none]
theorem rdP_no1 {ts : List (List Int)} (h : rdD (ts.getD 0 []) = none) : rdP ts = none := by unfold rdP; rw [h]
theorem rdP_no2 {ts : List (List Int)} (h : rdW (ts.getD 1 []) = none) : rdP ts = none := by
  unfold rdP
  rcases rdD (ts.getD 0 []) with _ | d
  · rfl
  · simp only [h]
theorem rdP_no3 {ts : List (List Int)} (h : rdFs (ts.drop 2) = none) : rdP ts = none := by
  unfold rdP
  rcases rdD (ts.getD 0 []) with _ | d
  · rfl
  · rcases hw : rdW (ts.getD 1 []) with _ | c
    · rfl
    · simp only [h]
theorem rdP_yes {ts : List (List Int)} {x y : Int} {c : List Int} {l : List Eff} (h : rdD (ts.getD 0 []) = some (x, y)) (h2 : rdW (ts.getD 1 []) = some c) (h3 : rdFs (ts.drop 2) = some l) : rdP ts = some ((x, y), c, l) := by
  unfold rdP; rw [h]; simp only [h2, h3]
theorem rdW_no {t : List Int} (h : rdC t = none) : rdW t = none := by unfold rdW; rw [h]
theorem rdW_bad {t c : List Int} {m : Nat} (h : rdC t = some (c, m)) (h2 : ¬ m = t.length) : rdW t = none := by unfold rdW; rw [h]; simp only []; rw [if_neg h2]
theorem rdW_yes {t c : List Int} {m : Nat} (h : rdC t = some (c, m)) (h2 : m = t.length) : rdW t = some c := by unfold rdW; rw [h]; simp only []; rw [if_pos h2]

/-- An event, or none, that was read. -/
def OutP (w : World) (ts : List (List Int)) (e : Ending) (w' : World) : Prop :=
  ((rdP ts = none ∧ e = .returned (.tuple #[.agg #[.int .i64 0, .int .i64 0, .slice none 0 0, .slice none 0 0], .bool false])) ∨
    ∃ (x y : Int) (pa : Option Addr) (na ca : Nat) (pe : Option Addr) (ne ce : Nat) (c : List Int) (l : List Eff), rdP ts = some ((x, y), c, l) ∧ e = .returned (.tuple #[.agg #[.int .i64 x, .int .i64 y, .slice pa na ca, .slice pe ne ce], .bool true]) ∧ NS w' pa na c ∧ CP pa na ca ∧ ES w' pe ne l ∧ CP pe ne ce ∧ (∀ a, pa = some a → w.heap.size ≤ a.block) ∧ (∀ a, pe = some a → w.heap.size ≤ a.block)) ∧ Below w.heap.size w w'
set_option maxHeartbeats 8000000 in
theorem getParts_any (p : Option Addr) (t cp : Nat) (ts : List (List Int)) (w : World) (hP : PC w p t ts) (hC : CP p t cp) (h3 : 3 ≤ t) (h18 : t ≤ 18) :
    Calls Try.prog 46 #[.slice p t cp] w (OutP w ts) := by
  obtain ⟨m2, rfl⟩ : ∃ m2, t = m2 + 2 := ⟨t - 2, by omega⟩
  have hlen := hP.1
  have hby := hP.by
  rcases hP.2.2 with h0 | ⟨b, off, rfl, hc⟩
  · omega
  obtain ⟨q0, n0, k0, g0, hb0, hc0⟩ := hc 0 (by omega)
  obtain ⟨q1, n1, k1, g1, hb1, hc1⟩ := hc 1 (by omega)
  rw [Nat.add_zero] at g0
  have hct : 3 ≤ cp := Nat.le_trans h3 hC.1
  have hcm : cp ≤ 9223372036854775807 := hC.2.1
  have HU := hide (bel1 w bxE0)
  have HX := hide (BX.new w _ rfl #[.int .i64 0, .int .i64 0, .slice none 0 0, .slice none 0 0] 28)
  have HPC := hide (hP.alloc bxE0)
  have hl0 := hb0.1
  have hl1 := hb1.1
  have hm1 := hb1.2.1
  unfold maxLen at hm1
  have HD := hide (getDot_any q0 n0 k0 _ (w.alloc bxE0) (hb0.alloc _) hc0)
  have HR := hide (fun W (hb : BS W q1 n1 (ts.getD 1 [])) => Read_any q1 n1 k1 _ W hb hc1)
  have B1 := hide (hb1.alloc bxE0)
  replace g0 := cell_old bxE0 g0
  replace g1 := cell_old bxE0 g1
  have HL := hide hlen
  have HBY := hide hby
  have hn1 := hide hl1
  clear hP hC hc hb0 hb1 hc0 hc1 hlen hby hl0 hl1
  go_enter Try.func46, Try.ntmps46
  go_wp2_with (go_at_call 67; refine Stop.at ?_)
  unfold Stop
  refine HD.out.mono ?_
  rintro e u ⟨(⟨hg, x, y, rfl⟩ | ⟨x, y, hg, rfl⟩), hb⟩
  · have HE := hide (rdP_no1 hg)
    replace g1 := cell_old (bxD x y) (bcell hb g1)
    replace HX := hide ((HX.out.below hb).alloc (bxD x y))
    replace HU := hide (bel_next (bel_next HU.out hb) (bel1 u (bxD x y)))
    replace B1 := hide ((B1.out.below hb).alloc (bxD x y))
    clear hb hg HD g0
    go_wp2_with (go_at_call 68; refine Stop.at ?_)
    unfold Stop
    refine (HR.out _ B1.out).mono ?_
    rintro e u2 ⟨(⟨hg, rfl⟩ | ⟨c, m, v, hg, rfl, hO⟩), hb⟩
    · replace HX := hide (HX.out.below hb)
      replace HU := hide (bel_next HU.out hb)
      have e0 := HX.out.cell 0 _ rfl
      have e1 := HX.out.cell 1 _ rfl
      have e2 := HX.out.cell 2 _ rfl
      have e3 := HX.out.cell 3 _ rfl
      have z0 := HX.out.free 0
      have z1 := HX.out.free 1
      have z2 := HX.out.free 2
      have z3 := HX.out.free 3
      clear hb hg HR
      go_wp2
      refine bodyPost_ret (results_ct rfl _ _ _ _ _ _ _ _ rfl rfl (HX.out.put4 _ _ _ _) Try.underlying28 rfl Try.sizeEvt) rfl ?_
      exact ⟨.inl ⟨HE.out, rfl⟩, bel_put4 HU.out (Nat.le_refl _) _ _ _ _⟩
    · replace HX := hide (HX.out.below hb)
      replace HU := hide (bel_next HU.out hb)
      have e0 := HX.out.cell 0 _ rfl
      have e1 := HX.out.cell 1 _ rfl
      have e2 := HX.out.cell 2 _ rfl
      have e3 := HX.out.cell 3 _ rfl
      have z0 := HX.out.free 0
      have z1 := HX.out.free 1
      have z2 := HX.out.free 2
      have z3 := HX.out.free 3
      clear hb hg HR hO
      go_wp2
      refine bodyPost_ret (results_ct rfl _ _ _ _ _ _ _ _ rfl rfl (HX.out.put4 _ _ _ _) Try.underlying28 rfl Try.sizeEvt) rfl ?_
      exact ⟨.inl ⟨HE.out, rfl⟩, bel_put4 HU.out (Nat.le_refl _) _ _ _ _⟩
  · have HG := hide hg
    replace g1 := cell_old (bxD x y) (bcell hb g1)
    have d0 : (u.alloc (bxD x y)).cell? ⟨u.heap.size, 0, none⟩ = some (.int .i64 x) := cell_new u _ _ _ rfl 0 _ rfl
    have d1 : (u.alloc (bxD x y)).cell? ⟨u.heap.size, 1, none⟩ = some (.int .i64 y) := cell_new u _ _ _ rfl 1 _ rfl
    replace HX := hide ((HX.out.below hb).alloc (bxD x y))
    replace HU := hide (bel_next (bel_next HU.out hb) (bel1 u (bxD x y)))
    replace B1 := hide ((B1.out.below hb).alloc (bxD x y))
    replace HPC := hide ((HPC.out.below hb).alloc (bxD x y))
    have hgx := hide HX.out.size
    clear hb hg HD g0
    go_wp2_with (go_at_call 68; refine Stop.at ?_)
    unfold Stop
    refine (HR.out _ B1.out).mono ?_
    rintro e u2 ⟨(⟨hg, rfl⟩ | ⟨c, m, v, hg, rfl, hO⟩), hb⟩
    · have HE := hide (rdP_no2 (rdW_no hg))
      replace HX := hide (HX.out.below hb)
      replace HU := hide (bel_next HU.out hb)
      have e0 := HX.out.cell 0 _ rfl
      have e1 := HX.out.cell 1 _ rfl
      have e2 := HX.out.cell 2 _ rfl
      have e3 := HX.out.cell 3 _ rfl
      have z0 := HX.out.free 0
      have z1 := HX.out.free 1
      have z2 := HX.out.free 2
      have z3 := HX.out.free 3
      clear hb hg HR d0 d1
      go_wp2
      refine bodyPost_ret (results_ct rfl _ _ _ _ _ _ _ _ rfl rfl (HX.out.put4 _ _ _ _) Try.underlying28 rfl Try.sizeEvt) rfl ?_
      exact ⟨.inl ⟨HE.out, rfl⟩, bel_put4 HU.out (Nat.le_refl _) _ _ _ _⟩
    · by_cases hm : m = n1
      · have HW := hide (rdW_yes hg (by rw [hn1.out]; exact hm))
        have hm2 : ((m : Int) == (n1 : Int)) = true := by simp; omega
        have hm3 : (m : Int) = (n1 : Int) := by omega
        replace g1 := bcell hb g1
        replace d0 := bcell hb d0
        replace d1 := bcell hb d1
        replace HX := hide (HX.out.below hb)
        replace HU := hide (bel_next HU.out hb)
        replace HPC := hide (HPC.out.below hb)
        have hgu := HX.out.size
        obtain ⟨pa, ca, hv, hns, hcp⟩ := hO.open
        subst hv
        have hla : Hid (∀ a, pa = some a → w.heap.size ≤ a.block) := fun a ha => by have h1 := own_lo hO a ha; have h2 := hgx.out; omega
        have hfa : Hid (∀ a, pa = some a → a.block ≠ w.heap.size) := fun a ha => by have h1 := own_lo hO a ha; have h2 := hgx.out; omega
        have HNS := hide hns
        have HCP := hide hcp
        clear hb hg HR hO hns hcp hm
        obtain ⟨na, hna⟩ : ∃ na, c.length = na := ⟨_, rfl⟩
        rw [hna] at HNS HCP ⊢
        clear hna
        have hcap : ¬ cp = 2 := by omega
        have HX0 := hide (BX.new u2 _ rfl #[.int .i64 x, .int .i64 y, .slice pa na ca, .slice none 0 0] 28)
        have HB0 := hide (bel1 u2 (bxE x y pa na ca none 0 0))
        go_wp2
        clear g1 d0 d1 hm2 hm3
        go_loopw [50] (fun i wr => ∃ (k : Nat) (acc : List Eff) (vE : Value), k ≤ m2 ∧ i = .int .i64 k ∧ Hid (acc.length = k) ∧ Hid (BX wr u2.heap.size #[.int .i64 x, .int .i64 y, .slice pa na ca, vE] 28) ∧ Hid (OwnR encF 6 35 u2.heap.size wr vE acc) ∧ Hid (∀ x ∈ acc, ByF x) ∧ Hid (rdFs (ts.drop 2) = (rdFs ((ts.drop 2).drop k)).map (acc ++ ·)) ∧ Hid (Below u2.heap.size u2 wr)) (fun i _ => m2 - (intOf i).toNat)
        case atStart => exact ⟨0, [], _, by omega, rfl, rfl, HX0, OwnR.nil _ _, (fun x hx => by cases hx), by unfold Hid; simp, HB0⟩
        case round =>
          obtain ⟨k, acc, vE, hk, rfl, hal, hX, hO, hBF, hR, hB⟩ := hrel
          obtain ⟨pe, ce, hv, hes, hcpe⟩ := hO.out.open encF_len
          subst hv
          have e0 := hX.out.cell 0 _ rfl
          have e1 := hX.out.cell 1 _ rfl
          have e2 := hX.out.cell 2 _ rfl
          have e3 := hX.out.cell 3 _ rfl
          have z3 := hX.out.free 3
          by_cases hlt : k < m2
          · rcases HPC.out.2.2 with h0 | ⟨bb, oo, hh, hc⟩
            · omega
            cases hh
            obtain ⟨q, len, cpx, hcell, hbs, hcp⟩ := hc (2 + k) (by omega)
            have hck := bcell hB.out hcell
            rw [← Nat.add_assoc] at hck
            have HBS := hide (hbs.below hB.out)
            have hgd : (ts.drop 2).getD k [] = ts.getD (2 + k) [] := by simp [List.getD_eq_getElem?_getD]
            rw [← hgd] at HBS
            have HGE := hide (getEffect_any q len cpx _ wr HBS.out hcp)
            have hkl : k < (ts.drop 2).length := by rw [List.length_drop]; have := HL.out; omega
            have hkl2 := hide hkl
            clear hc hcell hbs hcp HBS hgd hkl
            go_wp2_with (go_at_call 69; refine Stop.at ?_)
            unfold Stop
            refine HGE.out.mono ?_
            rintro e w3 ⟨(⟨hg, xx, rfl⟩ | ⟨xx, hg, rfl⟩), hb⟩
            · have HE := hide (rdP_no3 (rdFs_bad hkl2.out hR.out hg))
              have HX4 := hide (((HX.out.below hB.out).below hb).alloc (bxF xx.1 xx.2.1 xx.2.2.2.1 xx.2.2.2.2.1 (strOfNums xx.2.2.1) (strOfNums xx.2.2.2.2.2)))
              have HU4 := hide (bel_next (bel_next (bel_next HU.out hB.out) hb) (bel1 w3 (bxF xx.1 xx.2.1 xx.2.2.2.1 xx.2.2.2.2.1 (strOfNums xx.2.2.1) (strOfNums xx.2.2.2.2.2))))
              obtain ⟨xk, xo, xky, xn, xt, xw⟩ := xx
              clear e0 e1 e2 e3 z3 hb hg HGE hR hO hX hes hcpe hB HX
              have e0 := HX4.out.cell 0 _ rfl
              have e1 := HX4.out.cell 1 _ rfl
              have e2 := HX4.out.cell 2 _ rfl
              have e3 := HX4.out.cell 3 _ rfl
              have z0 := HX4.out.free 0
              have z1 := HX4.out.free 1
              have z2 := HX4.out.free 2
              have z3 := HX4.out.free 3
              go_wp2
              refine bodyPost_ret (results_ct rfl _ _ _ _ _ _ _ _ rfl rfl (HX4.out.put4 _ _ _ _) Try.underlying28 rfl Try.sizeEvt) rfl ?_
              exact ⟨.inl ⟨HE.out, rfl⟩, bel_put4 HU4.out (Nat.le_refl _) _ _ _ _⟩
            · have HR2 := hide (rdFs_step hkl2.out hR.out hg)
              have hbF : Hid (ByF xx) := (rdF_some (by
                have hmem : (ts.drop 2).getD k [] ∈ ts := by
                  rw [List.getD_eq_getElem?_getD, List.getElem?_eq_getElem hkl2.out]
                  exact List.mem_of_mem_drop (List.getElem_mem _)
                exact HBY.out _ hmem) hg).2
              have hsz3 : u2.heap.size ≤ w3.heap.size := Nat.le_trans hB.out.size hb.size
              obtain ⟨xk, xo, xky, xn, xt, xw⟩ := xx
              simp only []
              have HX4 := hide (hX.out.below hb)
              have HO4 := hide (hO.out.below hb)
              have HB4 := hide (bel_next hB.out hb)
              clear e0 e1 e2 e3 z3 hb hg HGE hR hO hX hes hcpe hB
              have e3 := cell_old (bxF xk xo xn xt (strOfNums xky) (strOfNums xw)) (HX4.out.cell 3 _ rfl)
              go_wp2_with (at_builtin; refine Stop.at ?_)
              unfold Stop
              have hoff := HO4.out.off HX4.out (by decide)
              refine append_rows (enc := encF) (k := 6) rfl _ _ 26 rfl Try.underlying26 Try.infoEff rfl (by decide) (by decide) encF_len encF_one u2.heap.size (.slice pe acc.length ce) acc [(xk, xo, xky, xn, xt, xw)] rfl ((HO4.out.alloc _).alloc _) _ 1 1 rfl (fun h => by cases h) (RS.new encF_len (w3.alloc (bxF xk xo xn xt (strOfNums xky) (strOfNums xw))) _ (by simp) [(xk, xo, xky, xn, xt, xw)] _ rfl _ _ 1 rfl (by decide)) (by have := hal.out; simp; omega) (by simp; omega) ?_
              intro v' w5 q1 q2 q3
              have HX5 := hide (((HX4.out.alloc _).alloc _).grown q2 hoff)
              have hoff5 := q1.off HX5.out (by decide)
              obtain ⟨p5, c5, hv5, _, _⟩ := q1.open encF_len
              subst hv5
              have HB5 := hide (q3 u2 ((HB4.out.alloc hsz3 _).alloc (by simp; omega) _))
              have HO5 := hide (q1.set hoff5 3 (.slice p5 (acc ++ [(xk, xo, xky, xn, xt, xw)]).length c5))
              have HX6 := hide (HX5.out.set 3 (.slice p5 (acc ++ [(xk, xo, xky, xn, xt, xw)]).length c5))
              have HB6 := hide (bel_set HB5.out (Nat.le_refl _) 3 (.slice p5 (acc ++ [(xk, xo, xky, xn, xt, xw)]).length c5))
              have HBF : Hid (∀ x ∈ acc ++ [(xk, xo, xky, xn, xt, xw)], ByF x) := fun x hx => by
                rcases List.mem_append.1 hx with h | h
                · exact hBF.out x h
                · rw [List.mem_singleton.1 h]; exact hbF.out
              have HAL : Hid ((acc ++ [(xk, xo, xky, xn, xt, xw)]).length = k + 1) := by unfold Hid; simp [hal.out]
              clear q1 q2 q3 e3 HO4 HX4 hoff hoff5
              generalize (acc ++ [(xk, xo, xky, xn, xt, xw)]) = acc' at *
              have e3 := HX5.out.cell 3 _ rfl
              have z3 := HX5.out.free 3
              go_wp2
              go_roundw
              case rel => exact ⟨k + 1, acc', _, by omega, by go_num, HAL, HX6, HO5, HBF, HR2, HB6⟩
              case measure => simp [intOf]; omega
          · have hkl : k = m2 := by omega
            subst hkl
            have hall : rdFs (ts.drop 2) = some acc := by
              have h := hR.out
              rw [show (ts.drop 2).drop k = [] from List.drop_of_length_le (by rw [List.length_drop, HL.out]; omega)] at h
              simpa [rdFs] using h
            have HE := hide (rdP_yes HG.out HW.out hall)
            have HXr := hide (HX.out.below hB.out)
            have HUr := hide (bel_next HU.out hB.out)
            have HNr := hide (HNS.out.below hB.out)
            have HEr : Hid (ES wr pe acc.length acc) := ⟨hes, hBF.out⟩
            have HCr := hide hcpe
            have y0 := HXr.out.cell 0 _ rfl
            have y1 := HXr.out.cell 1 _ rfl
            have y2 := HXr.out.cell 2 _ rfl
            have y3 := HXr.out.cell 3 _ rfl
            have x0 := HXr.out.free 0
            have x1 := HXr.out.free 1
            have x2 := HXr.out.free 2
            have x3 := HXr.out.free 3
            have hle : Hid (∀ a, pe = some a → w.heap.size ≤ a.block) := fun a ha => by have h1 := own_lo hO.out a ha; omega
            have hfe : Hid (∀ a, pe = some a → a.block ≠ w.heap.size) := fun a ha => by have h1 := own_lo hO.out a ha; omega
            clear hR hall hes hcpe hO
            go_wp2
            refine bodyPost_ret (results_ct rfl _ _ _ _ _ _ _ _ rfl rfl (HXr.out.put4 _ _ _ _) Try.underlying28 rfl Try.sizeEvt) rfl ?_
            exact ⟨.inr ⟨x, y, pa, na, ca, pe, acc.length, ce, c, acc, HE.out, rfl, HNr.out.kp ((KP.refl _ _).put4 _ _ _ _) hfa.out, HCP.out, HEr.out.kp ((KP.refl _ _).put4 _ _ _ _) hfe.out, HCr.out, hla.out, hle.out⟩, bel_put4 HUr.out (Nat.le_refl _) _ _ _ _⟩
      · have HE := hide (rdP_no2 (rdW_bad hg (by rw [hn1.out]; exact hm)))
        have hm2 : ((m : Int) == (n1 : Int)) = false := by simp; omega
        have hm3 : ¬ (m : Int) = (n1 : Int) := by omega
        replace g1 := bcell hb g1
        replace HX := hide (HX.out.below hb)
        replace HU := hide (bel_next HU.out hb)
        have e0 := HX.out.cell 0 _ rfl
        have e1 := HX.out.cell 1 _ rfl
        have e2 := HX.out.cell 2 _ rfl
        have e3 := HX.out.cell 3 _ rfl
        have z0 := HX.out.free 0
        have z1 := HX.out.free 1
        have z2 := HX.out.free 2
        have z3 := HX.out.free 3
        clear hb hg HR hO hm d0 d1
        go_wp2
        refine bodyPost_ret (results_ct rfl _ _ _ _ _ _ _ _ rfl rfl (HX.out.put4 _ _ _ _) Try.underlying28 rfl Try.sizeEvt) rfl ?_
        exact ⟨.inl ⟨HE.out, rfl⟩, bel_put4 HU.out (Nat.le_refl _) _ _ _ _⟩
/-- An event, or none, that was got. -/
def OutG (w : World) (b : List Int) (e : Ending) (w' : World) : Prop :=
  ((rdE b = none ∧ e = .returned (.tuple #[.agg #[.int .i64 0, .int .i64 0, .slice none 0 0, .slice none 0 0], .int .i64 2])) ∨
    ∃ (x y : Int) (pa : Option Addr) (na ca : Nat) (pe : Option Addr) (ne ce : Nat) (c : List Int) (l : List Eff), rdE b = some ((x, y), c, l) ∧ e = .returned (.tuple #[.agg #[.int .i64 x, .int .i64 y, .slice pa na ca, .slice pe ne ce], .int .i64 0]) ∧ NS w' pa na c ∧ CP pa na ca ∧ ES w' pe ne l ∧ CP pe ne ce) ∧ Below w.heap.size w w'
theorem rdE_no1 {b : List Int} (h : gpk b 3 18 = none) : rdE b = none := by unfold rdE; rw [h]
theorem rdE_no2 {b : List Int} {ts : List (List Int)} (h : gpk b 3 18 = some ts) (h2 : rdP ts = none) : rdE b = none := by unfold rdE; rw [h]; simp only [h2]
theorem rdE_no3 {b : List Int} {ts : List (List Int)} {e : Evt} (h : gpk b 3 18 = some ts) (h2 : rdP ts = some e) (h3 : mayE e = false) : rdE b = none := by unfold rdE; rw [h]; simp only [h2]; rw [h3]; rfl
theorem rdE_yes {b : List Int} {ts : List (List Int)} {e : Evt} (h : gpk b 3 18 = some ts) (h2 : rdP ts = some e) (h3 : mayE e = true) : rdE b = some e := by unfold rdE; rw [h]; simp only [h2]; rw [h3]; rfl
set_option maxHeartbeats 4000000 in
theorem GetE_any (a : Option Addr) (n cap : Nat) (b : List Int) (w : World) (hA : BS w a n b) (hC : CP a n cap) :
    Calls Try.prog 17 #[.slice a n cap] w (OutG w b) := by
  have HP := hide (getPack_any a n cap b 3 18 (w.alloc bxE0) (hA.alloc _) hC (by decide) (by decide) (by decide))
  have HU := hide (bel1 w bxE0)
  have HX := hide (BX.new w _ rfl #[.int .i64 0, .int .i64 0, .slice none 0 0, .slice none 0 0] 28)
  have hby := hide hA.2.2.1
  clear hA hC
  go_enter Try.func17, Try.ntmps17
  go_wp2_with (go_at_call 45; refine Stop.at ?_)
  unfold Stop
  refine HP.out.mono ?_
  rintro e u ⟨(⟨hg, v, rfl⟩ | ⟨ts, p, cp, hg, rfl, hpc, hcp⟩), hb⟩
  · replace HX := hide (HX.out.below hb)
    replace HU := hide (bel_next HU.out hb)
    have HE := hide (rdE_no1 hg)
    clear hb hg HP
    have e0 := HX.out.cell 0 _ rfl
    have e1 := HX.out.cell 1 _ rfl
    have e2 := HX.out.cell 2 _ rfl
    have e3 := HX.out.cell 3 _ rfl
    have z0 := HX.out.free 0
    have z1 := HX.out.free 1
    have z2 := HX.out.free 2
    have z3 := HX.out.free 3
    go_wp2
    refine bodyPost_ret (results_ct rfl _ _ _ _ _ _ _ _ rfl rfl (HX.out.put4 _ _ _ _) Try.underlying28 rfl Try.sizeEvt) rfl ?_
    exact ⟨.inl ⟨HE.out, rfl⟩, bel_put4 HU.out (Nat.le_refl _) _ _ _ _⟩
  · obtain ⟨_, hts, hl1, hl2⟩ := gpk_some hby.out hg
    replace HX := hide (HX.out.below hb)
    replace HU := hide (bel_next HU.out hb)
    have HG := hide hg
    have HN := hide (getParts_any p ts.length cp ts u hpc hcp hl1 (by omega))
    have hgu := hide HX.out.size
    clear hb hpc hcp hg hts hl1 hl2 HP
    generalize ts.length = t at HN ⊢
    go_wp2_with (go_at_call 46; refine Stop.at ?_)
    unfold Stop
    refine HN.out.mono ?_
    rintro e u2 ⟨(⟨hg, rfl⟩ | ⟨x, y, pa, na, ca, pe, ne, ce, c, l, hg, rfl, hns, hca, hes, hce, hla, hle⟩), hb⟩
    · replace HX := hide ((HX.out.below hb).alloc (bxE 0 0 none 0 0 none 0 0))
      replace HU := hide (bel_next (bel_next HU.out hb) (bel1 u2 (bxE 0 0 none 0 0 none 0 0)))
      have HE := hide (rdE_no2 HG.out hg)
      clear hb hg HN
      have e0 := HX.out.cell 0 _ rfl
      have e1 := HX.out.cell 1 _ rfl
      have e2 := HX.out.cell 2 _ rfl
      have e3 := HX.out.cell 3 _ rfl
      have z0 := HX.out.free 0
      have z1 := HX.out.free 1
      have z2 := HX.out.free 2
      have z3 := HX.out.free 3
      go_wp2
      refine bodyPost_ret (results_ct rfl _ _ _ _ _ _ _ _ rfl rfl (HX.out.put4 _ _ _ _) Try.underlying28 rfl Try.sizeEvt) rfl ?_
      exact ⟨.inl ⟨HE.out, rfl⟩, bel_put4 HU.out (Nat.le_refl _) _ _ _ _⟩
    · have c0 : (u2.alloc (bxE x y pa na ca pe ne ce)).cell? ⟨u2.heap.size, 0, none⟩ = some (.int .i64 x) := cell_new u2 _ _ _ rfl 0 _ rfl
      have c1 : (u2.alloc (bxE x y pa na ca pe ne ce)).cell? ⟨u2.heap.size, 1, none⟩ = some (.int .i64 y) := cell_new u2 _ _ _ rfl 1 _ rfl
      have c2 : (u2.alloc (bxE x y pa na ca pe ne ce)).cell? ⟨u2.heap.size, 2, none⟩ = some (.slice pa na ca) := cell_new u2 _ _ _ rfl 2 _ rfl
      have c3 : (u2.alloc (bxE x y pa na ca pe ne ce)).cell? ⟨u2.heap.size, 3, none⟩ = some (.slice pe ne ce) := cell_new u2 _ _ _ rfl 3 _ rfl
      replace HX := hide ((HX.out.below hb).alloc (bxE x y pa na ca pe ne ce))
      replace HU := hide (bel_next (bel_next HU.out hb) (bel1 u2 (bxE x y pa na ca pe ne ce)))
      have HNS := hide (hns.alloc (bxE x y pa na ca pe ne ce))
      have HES := hide (hes.alloc (bxE x y pa na ca pe ne ce))
      have HK := hide (CheckE_any x y pa na ca pe ne ce c l _ HNS.out HES.out)
      have hfa : Hid (∀ a, pa = some a → a.block ≠ w.heap.size) := fun a ha => by have h1 := hla a ha; have h2 := hgu.out; omega
      have hfe : Hid (∀ a, pe = some a → a.block ≠ w.heap.size) := fun a ha => by have h1 := hle a ha; have h2 := hgu.out; omega
      have HCA := hide hca
      have HCE := hide hce
      have HP2 := hide hg
      clear hb hns hes hca hce hg HN hla hle
      rcases hm : mayE ((x, y), c, l) with _ | _
      · rw [hm] at HK
        have q1 : errB false = 1 := rfl
        rw [q1] at HK
        have HE := hide (rdE_no3 HG.out HP2.out hm)
        clear hm q1
        go_wp2_with (go_at_call 16; refine HK.out.mono ?_; rintro e u3 ⟨rfl, hb⟩; have HX3 := hide (HX.out.below hb); have HU3 := hide (bel_next HU.out hb); clear hb; have e0 := HX3.out.cell 0 _ rfl; have e1 := HX3.out.cell 1 _ rfl; have e2 := HX3.out.cell 2 _ rfl; have e3 := HX3.out.cell 3 _ rfl; have z0 := HX3.out.free 0; have z1 := HX3.out.free 1; have z2 := HX3.out.free 2; have z3 := HX3.out.free 3)
        refine bodyPost_ret (results_ct rfl _ _ _ _ _ _ _ _ rfl rfl (HX3.out.put4 _ _ _ _) Try.underlying28 rfl Try.sizeEvt) rfl ?_
        exact ⟨.inl ⟨HE.out, rfl⟩, bel_put4 HU3.out (Nat.le_refl _) _ _ _ _⟩
      · rw [hm] at HK
        have q1 : errB true = 0 := rfl
        rw [q1] at HK
        have HE := hide (rdE_yes HG.out HP2.out hm)
        clear hm q1
        go_wp2_with (go_at_call 16; refine HK.out.mono ?_; rintro e u3 ⟨rfl, hb⟩; have HX3 := hide (HX.out.below hb); have HU3 := hide (bel_next HU.out hb); have N3 := hide (HNS.out.below hb); have E3 := hide (HES.out.below hb); have d0 := bcell hb c0; have d1 := bcell hb c1; have d2 := bcell hb c2; have d3 := bcell hb c3; clear hb; have e0 := HX3.out.cell 0 _ rfl; have e1 := HX3.out.cell 1 _ rfl; have e2 := HX3.out.cell 2 _ rfl; have e3 := HX3.out.cell 3 _ rfl; have z0 := HX3.out.free 0; have z1 := HX3.out.free 1; have z2 := HX3.out.free 2; have z3 := HX3.out.free 3)
        refine bodyPost_ret (results_ct rfl _ _ _ _ _ _ _ _ rfl rfl (HX3.out.put4 _ _ _ _) Try.underlying28 rfl Try.sizeEvt) rfl ?_
        exact ⟨.inr ⟨x, y, pa, na, ca, pe, ne, ce, c, l, HE.out, rfl, N3.out.kp ((KP.refl _ _).put4 _ _ _ _) hfa.out, HCA.out, E3.out.kp ((KP.refl _ _).put4 _ _ _ _) hfe.out, HCE.out⟩, bel_put4 HU3.out (Nat.le_refl _) _ _ _ _⟩
end Go.Proofs.Ytooggheoaglbeaa

/- Events in memory. -/
namespace Go.Proofs.Ytooggheoaglbeaa
open Go.RowKit
set_option linter.unusedVariables false

/-- An event's cells. -/
abbrev Rv := Int × Int × (Option Addr × Nat × Nat) × (Option Addr × Nat × Nat)
def encV (x : Rv) : List Value := [.int .i64 x.1, .int .i64 x.2.1, .slice x.2.2.1.1 x.2.2.1.2.1 x.2.2.1.2.2, .slice x.2.2.2.1 x.2.2.2.2.1 x.2.2.2.2.2]
theorem encV_len (x : Rv) : (encV x).length = 4 := rfl
theorem encV_one (x : Rv) : ∀ v ∈ encV x, v.oneCell' = true := by
  intro v hv
  simp only [encV, List.mem_cons, List.not_mem_nil, or_false] at hv
  rcases hv with rfl | rfl | rfl | rfl <;> rfl
/-- What an event's cells say. -/
def Rel (w : World) (x : Rv) (e : Evt) : Prop := e.1 = (x.1, x.2.1) ∧ (NS w x.2.2.1.1 x.2.2.1.2.1 e.2.1 ∧ CP x.2.2.1.1 x.2.2.1.2.1 x.2.2.1.2.2) ∧ (ES w x.2.2.2.1 x.2.2.2.2.1 e.2.2 ∧ CP x.2.2.2.1 x.2.2.2.2.1 x.2.2.2.2.2)
theorem Rel.below {w w' : World} {x : Rv} {e : Evt} (h : Rel w x e) (hb : Below w.heap.size w w') : Rel w' x e := ⟨h.1, ⟨h.2.1.1.below hb, h.2.1.2⟩, ⟨h.2.2.1.below hb, h.2.2.2⟩⟩
theorem Rel.alloc {w : World} {x : Rv} {e : Evt} (h : Rel w x e) (o : Obj) : Rel (w.alloc o) x e := h.below (bel1 w o)
/-- A slice's events. -/
def EVS (w : World) (a : Option Addr) (n : Nat) (es : List Evt) : Prop := ∃ xs : List Rv, RS encV 4 w a n xs ∧ es.length = n ∧ ∀ (i : Nat) x e, xs[i]? = some x → es[i]? = some e → Rel w x e
theorem EVS.below {w w' : World} {a : Option Addr} {n : Nat} {es : List Evt} (h : EVS w a n es) (hb : Below w.heap.size w w') : EVS w' a n es := by
  obtain ⟨xs, h1, h2, h3⟩ := h
  exact ⟨xs, h1.below hb, h2, fun i x e hx he => (h3 i x e hx he).below hb⟩
theorem EVS.alloc {w : World} {a : Option Addr} {n : Nat} {es : List Evt} (h : EVS w a n es) (o : Obj) : EVS (w.alloc o) a n es := h.below (bel1 w o)
theorem EVS.len {w : World} {a : Option Addr} {n : Nat} {es : List Evt} (h : EVS w a n es) : es.length = n := h.choose_spec.2.1
theorem EVS.max {w : World} {a : Option Addr} {n : Nat} {es : List Evt} (h : EVS w a n es) : n ≤ maxLen := h.choose_spec.1.2.1
theorem EVS.addr {w : World} {a : Option Addr} {n : Nat} {es : List Evt} (h : EVS w a n es) (h0 : 0 < n) : ∃ b off, a = some ⟨b, off, none⟩ := by
  obtain ⟨xs, h1, h2, h3⟩ := h
  rcases h1.2.2 with hz | ⟨b, off, ha, _⟩
  · omega
  · exact ⟨b, off, ha⟩
theorem EVS.at {w : World} {b off n : Nat} {es : List Evt} (h : EVS w (some ⟨b, off, none⟩) n es) (i : Nat) (hi : i < n) :
    ∃ (r s : Int) (pa : Option Addr) (na ca : Nat) (pe : Option Addr) (ne ce : Nat) (c : List Int) (l : List Eff), es[i]? = some ((r, s), c, l) ∧ w.cell? ⟨b, off + i * 4, none⟩ = some (.int .i64 r) ∧ w.cell? ⟨b, off + i * 4 + 1, none⟩ = some (.int .i64 s) ∧ w.cell? ⟨b, off + i * 4 + 2, none⟩ = some (.slice pa na ca) ∧ w.cell? ⟨b, off + i * 4 + 3, none⟩ = some (.slice pe ne ce) ∧ NS w pa na c ∧ CP pa na ca ∧ ES w pe ne l ∧ CP pe ne ce := by
  obtain ⟨xs, h1, h2, h3⟩ := h
  obtain ⟨x, hx⟩ : ∃ x, xs[i]? = some x := ⟨_, List.getElem?_eq_getElem (by rw [h1.1]; exact hi)⟩
  obtain ⟨e, he⟩ : ∃ e, es[i]? = some e := ⟨_, List.getElem?_eq_getElem (by rw [h2]; exact hi)⟩
  rcases h1.2.2 with hz | ⟨b', off', ha, hc⟩
  · omega
  · cases ha
    have q := hc i _ hx
    have hr := h3 i _ _ hx he
    obtain ⟨r, s, ⟨pa, na, ca⟩, pe, ne, ce⟩ := x
    obtain ⟨d, c, l⟩ := e
    obtain ⟨hd, ⟨k1, k2⟩, k3, k4⟩ := hr
    simp only at hd k1 k2 k3 k4
    subst hd
    exact ⟨r, s, pa, na, ca, pe, ne, ce, c, l, he, q 0 _ rfl, q 1 _ rfl, q 2 _ rfl, q 3 _ rfl, k1, k2, k3, k4⟩
theorem EVS.nil (w : World) (p : Option Addr) : EVS w p 0 [] := ⟨[], RS.nil w p, rfl, fun i x e hx => by simp at hx⟩
theorem EVS.new (w : World) (g : Nat) (hg : g = w.heap.size) (xs : List Rv) (es : List Evt) (C : Array Value) (hC : C = (xs.flatMap encV).toArray) (t : TypeId) (fr : Nat × Nat) (n : Nat) (hn : xs.length = n) (hm : es.length = n) (hmax : n ≤ maxLen) (h : ∀ (i : Nat) x e, xs[i]? = some x → es[i]? = some e → Rel w x e) :
    EVS (w.alloc (.cells C t fr)) (some ⟨g, 0, none⟩) n es := ⟨xs, RS.new encV_len w g hg xs C hC t fr n hn hmax, hm, fun i x e hx he => (h i x e hx he).alloc _⟩
theorem Try.infoEvt : (Try.prog.info? 28).map (fun i => (i.zero, i.size, i.bytes)) = some (some (.agg #[.int .i64 0, .int .i64 0, .slice none 0 0, .slice none 0 0]), 4, 64) := by kernel_rfl
end Go.Proofs.Ytooggheoaglbeaa

/- Where the contracts of the library lie in this program: numbers alone. -/
namespace Go.Proofs.Ytooggheoaglbeaa
open Go.Shelf

def sortD_ren : Go.Shelf.Ren := ⟨fun | 6 => 83 | 15 => 99 | 14 => 98 | 28 => 114 | 29 => 87 | 20 => 106 | 21 => 107 | 22 => 108 | 23 => 109 | 24 => 110 | 25 => 111 | 26 => 112 | 27 => 113 | 46 => 116 | 47 => 117 | 48 => 118 | 49 => 119 | 50 => 120 | 57 => 121 | n => n, fun | 22 => 79 | 24 => 23 | 25 => 106 | 3 => 3 | 39 => 124 | 0 => 0 | 53 => 135 | 55 => 84 | 4 => 4 | 46 => 129 | 45 => 128 | 50 => 72 | 5 => 5 | 9 => 9 | 66 => 136 | 70 => 140 | 76 => 142 | 77 => 143 | n => n, fun | n => n⟩
theorem sortD : Go.Proofs.SlLaysF0.n6 Try.prog sortD_ren := {
  mixed := by kernel_rfl,
  f6 := ⟨Try.f83.name, by decide, Try.func83.trans (congrArg some (by kernel_rfl))⟩,
  f14 := ⟨Try.f98.name, by decide, Try.func98.trans (congrArg some (by kernel_rfl))⟩,
  f15 := Try.func99.trans (congrArg some (by kernel_rfl)),
  f20 := ⟨Try.f106.name, by decide, Try.func106.trans (congrArg some (by kernel_rfl))⟩,
  f21 := ⟨Try.f107.name, by decide, Try.func107.trans (congrArg some (by kernel_rfl))⟩,
  f22 := ⟨Try.f108.name, by decide, Try.func108.trans (congrArg some (by kernel_rfl))⟩,
  f23 := ⟨Try.f109.name, by decide, Try.func109.trans (congrArg some (by kernel_rfl))⟩,
  f24 := ⟨Try.f110.name, by decide, Try.func110.trans (congrArg some (by kernel_rfl))⟩,
  f25 := ⟨Try.f111.name, by decide, Try.func111.trans (congrArg some (by kernel_rfl))⟩,
  f26 := ⟨Try.f112.name, by decide, Try.func112.trans (congrArg some (by kernel_rfl))⟩,
  f27 := ⟨Try.f113.name, by decide, Try.func113.trans (congrArg some (by kernel_rfl))⟩,
  f28 := Try.func114.trans (congrArg some (by kernel_rfl)),
  f29 := Try.func87.trans (congrArg some (by kernel_rfl)),
  f46 := ⟨Try.f116.name, by decide, Try.func116.trans (congrArg some (by kernel_rfl))⟩,
  f47 := Try.func117.trans (congrArg some (by kernel_rfl)),
  f48 := Try.func118.trans (congrArg some (by kernel_rfl)),
  f49 := ⟨Try.f119.name, by decide, Try.func119.trans (congrArg some (by kernel_rfl))⟩,
  f50 := ⟨Try.f120.name, by decide, Try.func120.trans (congrArg some (by kernel_rfl))⟩,
  f57 := ⟨Try.f121.name, by decide, Try.func121.trans (congrArg some (by kernel_rfl))⟩,
  t0 := Try.underlying0,
  a0 := Try.isAgg0,
  z0 := Try.sizeOf0,
  v0 := Try.zeroValue0,
  t3 := Try.underlying3,
  a3 := Try.isAgg3,
  z3 := Try.sizeOf3,
  v3 := Try.zeroValue3,
  t4 := Try.underlying4,
  a4 := Try.isAgg4,
  z4 := Try.sizeOf4,
  v4 := Try.zeroValue4,
  t5 := Try.underlying5,
  a5 := Try.isAgg5,
  z5 := Try.sizeOf5,
  v5 := Try.zeroValue5,
  t9 := Try.underlying9,
  a9 := Try.isAgg9,
  z9 := Try.sizeOf9,
  v9 := Try.zeroValue9,
  t22 := Try.underlying79,
  a22 := Try.isAgg79,
  z22 := Try.sizeOf79,
  v22 := Try.zeroValue79,
  t25 := Try.underlying106,
  a25 := Try.isAgg106,
  z25 := Try.sizeOf106,
  v25 := Try.zeroValue106,
  t39 := Try.underlying124,
  a39 := Try.isAgg124,
  z39 := Try.sizeOf124,
  v39 := Try.zeroValue124,
  t45 := Try.underlying128,
  a45 := Try.isAgg128,
  z45 := Try.sizeOf128,
  v45 := Try.zeroValue128,
  t46 := Try.underlying129,
  a46 := Try.isAgg129,
  z46 := Try.sizeOf129,
  v46 := Try.zeroValue129,
  t50 := Try.underlying72,
  a50 := Try.isAgg72,
  z50 := Try.sizeOf72,
  v50 := Try.zeroValue72,
  t53 := Try.underlying135,
  a53 := Try.isAgg135,
  z53 := Try.sizeOf135,
  v53 := Try.zeroValue135,
  t55 := Try.underlying84,
  a55 := Try.isAgg84,
  z55 := Try.sizeOf84,
  v55 := Try.zeroValue84,
  t66 := Try.underlying136,
  a66 := Try.isAgg136,
  z66 := Try.sizeOf136,
  v66 := Try.zeroValue136,
  t70 := Try.underlying140,
  a70 := Try.isAgg140,
  z70 := Try.sizeOf140,
  v70 := Try.zeroValue140,
  t76 := Try.underlying142,
  a76 := Try.isAgg142,
  z76 := Try.sizeOf142,
  v76 := Try.zeroValue142,
  t77 := Try.underlying143,
  a77 := Try.isAgg143,
  z77 := Try.sizeOf143,
  v77 := Try.zeroValue143 }

end Go.Proofs.Ytooggheoaglbeaa

/- Sorted and compacted, dots are in order, each once; rows of dots in a block of the call's own. -/
namespace Go.Proofs.Ytooggheoaglbeaa
open Go.RowKit Go.Lib Go.Sort
set_option linter.unusedVariables false

theorem ltOf_cmpD (x y : Dot) : ltOf cmpD x y = lessD x y := by
  unfold ltOf; rw [Bool.eq_iff_iff, decide_eq_true_iff]; exact cmpD_lt
theorem swoD : SWO (ltOf cmpD) where
  irrefl x := by rw [ltOf_cmpD]; exact lessD_irr x
  trans x y z h1 h2 := by rw [ltOf_cmpD] at *; exact lessD_trans h1 h2
  ntrans x y z h1 h2 := by
    rw [ltOf_cmpD] at *
    simp only [lessD, decide_eq_false_iff_not] at *
    omega

theorem compact_upto (d : Array Dot) (hs : ∀ i j, i < j → j < d.size → lessD d[j]! d[i]! = false) : ∀ m, m ≤ d.size → SrtD (compactUpTo d m) ∧ ∀ x, x ∈ compactUpTo d m ↔ ∃ j, j < m ∧ d[j]! = x
  | 0, _ => by simp [compactUpTo, SrtD]
  | m + 1, hm => by
    obtain ⟨h1, h2⟩ := compact_upto d hs m (by omega)
    rw [compactUpTo_succ]
    by_cases hk : keeps d m = true
    · rw [if_pos hk]
      refine ⟨List.pairwise_append.2 ⟨h1, by simp, fun x hx y hy => ?_⟩, fun x => ?_⟩
      · rw [List.mem_singleton] at hy
        subst hy
        obtain ⟨j, hj, rfl⟩ := (h2 x).1 hx
        have q1 := hs j m hj (by omega)
        rcases lessD_tri d[j]! d[m]! with q | q | q
        · exact q
        · exfalso
          have hk' : d[m]! ≠ d[m - 1]! := by
            unfold keeps at hk
            simp only [decide_eq_true_eq] at hk
            rcases hk with k | k
            · omega
            · exact k
          by_cases e : j = m - 1
          · rw [e] at q; exact hk' q.symm
          · have q2 := hs j (m - 1) (by omega) (by omega)
            have q3 := hs (m - 1) m (by omega) (by omega)
            rw [q] at q2
            rcases lessD_tri d[m - 1]! d[m]! with z | z | z
            · rw [z] at q2; cases q2
            · exact hk' z.symm
            · rw [z] at q3; cases q3
        · rw [q] at q1; cases q1
      · rw [List.mem_append, List.mem_singleton, h2 x]
        constructor
        · rintro (⟨j, hj, e⟩ | e)
          · exact ⟨j, by omega, e⟩
          · exact ⟨m, by omega, e.symm⟩
        · rintro ⟨j, hj, e⟩
          by_cases e2 : j = m
          · subst e2; exact .inr e.symm
          · exact .inl ⟨j, by omega, e⟩
    · rw [if_neg hk, List.append_nil]
      refine ⟨h1, fun x => ?_⟩
      rw [h2 x]
      have hk' : 0 < m ∧ d[m]! = d[m - 1]! := by
        unfold keeps at hk
        simp only [decide_eq_true_eq, not_or, ne_eq, Decidable.not_not] at hk
        exact ⟨by omega, hk.2⟩
      constructor
      · rintro ⟨j, hj, e⟩
        exact ⟨j, by omega, e⟩
      · rintro ⟨j, hj, e⟩
        by_cases e2 : j = m
        · subst e2; exact ⟨j - 1, by omega, by rw [← hk'.2]; exact e⟩
        · exact ⟨j, by omega, e⟩
theorem mem_get (d : Array Dot) (x : Dot) : x ∈ d.toList ↔ ∃ j, j < d.size ∧ d[j]! = x := by
  constructor
  · intro h
    obtain ⟨j, hj, e⟩ := List.getElem_of_mem h
    exact ⟨j, by simpa using hj, by rw [getElem!_pos d j (by simpa using hj)]; simpa using e⟩
  · rintro ⟨j, hj, rfl⟩
    rw [getElem!_pos d j hj]
    simp
theorem compact_ord {l : List Dot} {d : Array Dot} (hp : PermIn 0 l.toArray.size l.toArray d) (hs : SortedIn (ltOf cmpD) 0 l.toArray.size d) : compactUpTo d d.size = ordD l := by
  obtain ⟨hsz, _, hperm⟩ := hp
  have e1 : (d.extract 0 l.toArray.size).toList = d.toList := by rw [← hsz]; simp
  have e2 : (l.toArray.extract 0 l.toArray.size).toList = l := by simp
  rw [e1, e2] at hperm
  have h := compact_upto d (fun i j hij hj => by rw [← ltOf_cmpD]; exact hs i j (Nat.zero_le _) hij (by rw [← hsz]; exact hj)) d.size (Nat.le_refl _)
  refine ordD_is h.1 fun x => ?_
  rw [h.2 x, ← mem_get]
  exact hperm.mem_iff

/-- A block's row of dots, none of it frozen. -/
def HD (w : World) (g : Nat) (d : Array Dot) : Prop := ∀ i, i < d.size →
  w.cell? ⟨g, i * 2, none⟩ = some (.int .i64 d[i]!.1) ∧ w.cell? ⟨g, i * 2 + 1, none⟩ = some (.int .i64 d[i]!.2) ∧ w.frozen? ⟨g, i * 2, none⟩ = false ∧ w.frozen? ⟨g, i * 2 + 1, none⟩ = false
theorem HD.to {w : World} {g : Nat} {d : Array Dot} (h : HD w g d) : HoldsK encD 2 w g 0 d := by
  intro j hj
  rw [size_flatK] at hj
  rw [get_flatK _ _ _ _ hj, Nat.zero_add]
  have k := h (j / 2) (by omega)
  rcases Nat.mod_two_eq_zero_or_one j with e | e
  · have e2 : j = j / 2 * 2 := by omega
    rw [e]
    constructor
    · rw [show (⟨g, j, none⟩ : Addr) = ⟨g, j / 2 * 2, none⟩ by rw [← e2], k.1]; rfl
    · rw [show (⟨g, j, none⟩ : Addr) = ⟨g, j / 2 * 2, none⟩ by rw [← e2]]; exact k.2.2.1
  · have e2 : j = j / 2 * 2 + 1 := by omega
    rw [e]
    constructor
    · rw [show (⟨g, j, none⟩ : Addr) = ⟨g, j / 2 * 2 + 1, none⟩ by rw [← e2], k.2.1]; rfl
    · rw [show (⟨g, j, none⟩ : Addr) = ⟨g, j / 2 * 2 + 1, none⟩ by rw [← e2]]; exact k.2.2.2
theorem HD.of {w : World} {g : Nat} {d : Array Dot} (h : HoldsK encD 2 w g 0 d) : HD w g d := by
  intro i hi
  have a := h.cell (c := 0) hi (by omega)
  have b := h.cell (c := 1) hi (by omega)
  rw [Nat.zero_add, Nat.add_zero] at a
  rw [Nat.zero_add] at b
  exact ⟨a.1, b.1, a.2, b.2⟩
theorem HD.ds {w : World} {g : Nat} {d : Array Dot} (h : HD w g d) (l : List Dot) (hl : l.length ≤ d.size) (hm : d.size ≤ maxLen) (hg : ∀ j, j < l.length → l[j]? = some d[j]!) : DS w (some ⟨g, 0, none⟩) l.length l := by
  refine ⟨rfl, by omega, .inr ⟨g, 0, rfl, fun i hi => ?_⟩⟩
  have e : l.getD i (0, 0) = d[i]! := by rw [List.getD_eq_getElem?_getD, hg i hi]; rfl
  rw [e, Nat.zero_add]
  exact ⟨(h i (by omega)).1, (h i (by omega)).2.1⟩
theorem HD.below {w w' : World} {g : Nat} {d : Array Dot} (h : HD w g d) (hb : Below w.heap.size w w') (hg : g < w.heap.size) : HD w' g d := fun i hi =>
  ⟨bcell hb (h i hi).1, bcell hb (h i hi).2.1, by rw [hb.frozen hg]; exact (h i hi).2.2.1, by rw [hb.frozen hg]; exact (h i hi).2.2.2⟩
theorem HD.drew {w : World} {g : Nat} {d : Array Dot} (h : HD w g d) : HD w.drew g d := h
theorem OwnD.row {N : Nat} {w : World} {v : Value} {l : List Dot} (h : OwnD N w v l) : (l = [] ∧ v = .slice none 0 0) ∨ ∃ g cap, v = .slice (some ⟨g, 0, none⟩) l.length cap ∧ N ≤ g ∧ g < w.heap.size ∧ l.length ≤ cap ∧ cap ≤ maxLen ∧ HD w g l.toArray := by
  have h0 := h
  obtain ⟨_, h2⟩ := h
  rcases h2 with ⟨rfl, h2⟩ | ⟨g, cap, cur, rfl, hb, hg, hc1, hc2, hs, ht⟩
  · exact .inl ⟨List.eq_nil_of_length_eq_zero h2, rfl⟩
  · refine .inr ⟨g, cap, rfl, hb, (Array.getElem?_eq_some_iff.1 hg).1, hc1, hc2, fun i hi => ?_⟩
    have hi' : i < l.length := by simpa using hi
    have hf := flatD_get l i hi'
    have e : l.toArray[i]! = l.getD i (0, 0) := by rw [getElem!_pos _ i hi]; simp [List.getD_eq_getElem?_getD, hi']
    have fz : ∀ o, w.frozen? ⟨g, o, none⟩ = false := fun o => by simp [World.frozen?, hg]
    rw [World.ownsRow.cellAt h0 (i * 2) (by omega), World.ownsRow.cellAt h0 (i * 2 + 1) (by omega), e]
    exact ⟨hf.1, hf.2, fz _, fz _⟩
theorem heap_put_other (w : World) (g k : Nat) (d : Array Dot) (h : k ≠ g) : (putRowK encD 2 w g 0 d).heap[k]? = w.heap[k]? := by
  unfold putRowK putRow mapBlock
  simp only [Array.getElem?_modify]
  rw [if_neg (fun e => h e.symm)]
theorem bel_sort (w : World) (N g n : Nat) (d : Array Dot) (os : Array Obj) (hN : N ≤ g) (hg : g < w.heap.size) : Below N w (sortWorldK encD 2 w g 0 n d os) := by
  refine ⟨rfl, rfl, rfl, size_sortWorldK_c encD 2 w g 0 n d os, fun k hk => ?_⟩
  unfold sortWorldK
  rw [heap_grow_old _ _ (by rw [size_putRowK]; show k < w.heap.size; omega), heap_put_other _ _ _ _ (by omega)]
  rfl

theorem cmpLaysD (blk off size : Nat) (w : World) : CmpLays Try.prog 84 #[] encD 2 cmpD blk off size w :=
  fun _ _ _ _ x y => compare_any x y _
/-- 'slices.SortFunc' of a row of the call's own. -/
theorem sort_any (N g cap : Nat) (l : List Dot) (w : World) (hN : N ≤ g) (hg : g < w.heap.size) (hH : HD w g l.toArray) (hl : l.length ≤ 1000000) :
    Calls Try.prog 83 #[.slice (some ⟨g, 0, none⟩) l.length cap, .func (.func 84) #[] #[]] w fun e w' => e = .returned (.tuple #[]) ∧ Below N w w' ∧ g < w'.heap.size ∧ ∃ d : Array Dot, d.size = l.length ∧ HD w' g d ∧ compactUpTo d d.size = ordD l := by
  have eg : ∀ args w, (callFunc 84 args).run Try.prog w = .ok (.enter 84 args) w := enters_of Try.func84 (by kernel_rfl) rfl
  have hcon := AnyQ.slices_SortFunc sortD 2 Try.isAgg23 Try.sizeOf23 encD (fun _ => rfl) (fun x v hv => by simp [encD] at hv; rcases hv with rfl | rfl <;> rfl) cmpD swoD 84 #[] g 0 cap l.toArray w eg (cmpLaysD g 0 _ w) hH.to hg (by simp; omega)
  change Calls Try.prog 83 _ _ _ at hcon
  refine Calls.mono hcon ?_
  rintro e w' ⟨rfl, d', n, os, hp, hs, rfl⟩
  have hsz : d'.size = l.toArray.size := hp.1
  exact ⟨rfl, bel_sort w N g n d' os hN hg, Nat.lt_of_lt_of_le hg (size_sortWorldK_c encD 2 w g 0 n d' os), d', hsz, HD.of (holdsK_sortWorldK_c encD 2 w g 0 l.toArray d' n os hH.to hg hsz), compact_ord hp hs⟩
end Go.Proofs.Ytooggheoaglbeaa

/- What the document's 'All', 'In', 'Dots' and 'slices.Equal' do. -/
namespace Go.Proofs.Ytooggheoaglbeaa
open Go.RowKit
set_option linter.unusedVariables false

theorem eqD (r s r' s' : Int) (b : Bool) (hb : b = decide (r = r' ∧ s = s')) (w : World) : (Op.equalIn 10000 23 (.agg #[.int .i64 r, .int .i64 s]) (.agg #[.int .i64 r', .int .i64 s'])).run Try.prog w = .ok b w := by
  have u3 := Try.underlying3
  have a3 := Try.isAgg3
  have z3 := Try.sizeOf3
  have hS : Try.prog.underlying 23 = some (.struct (Try.prog.fieldsOf 23)) := by kernel_rfl
  have hp : Try.prog.stoodInHeld 23 = false := by kernel_rfl
  rw [show (10000 : Nat) = 9999 + 1 from rfl, run_equalIn_agg w 9999 23 _ _ hS hp]
  simp only [Program.fieldsOf, Try.underlying23]
  subst hb
  by_cases h1 : r = r' <;> by_cases h2 : s = s'
  · subst h1 h2; go_simp
  · subst h1
    have h2' : (s == s') = false := by simpa using h2
    simp only [h2, and_false, decide_false]
    go_simp
  · have h1' : (r == r') = false := by simpa using h1
    simp only [h1, false_and, decide_false]
    go_simp
  · have h1' : (r == r') = false := by simpa using h1
    simp only [h1, false_and, decide_false]
    go_simp

theorem mem_drop {l : List Dot} {d : Dot} {k : Nat} (h : k < l.length) : d ∈ l.drop k ↔ (l.getD k (0, 0) = d ∨ d ∈ l.drop (k + 1)) := by
  rw [List.drop_eq_getElem_cons h, List.mem_cons]
  simp only [List.getD_eq_getElem?_getD, List.getElem?_eq_getElem h, Option.getD_some]
  constructor
  · rintro (h | h)
    · exact .inl h.symm
    · exact .inr h
  · rintro (h | h)
    · exact .inl h.symm
    · exact .inr h
theorem eqD_drop {l m : List Dot} {k : Nat} (h : k < l.length) (h2 : k < m.length) : (l.drop k = m.drop k) ↔ (l.getD k (0, 0) = m.getD k (0, 0) ∧ l.drop (k + 1) = m.drop (k + 1)) := by
  rw [List.drop_eq_getElem_cons h, List.drop_eq_getElem_cons h2, List.cons.injEq]
  simp [List.getD_eq_getElem?_getD, h, h2]
theorem allD_drop {l : List Dot} {k : Nat} (h : k < l.length) : (l.drop k).all mayD = (mayD (l.getD k (0, 0)) && (l.drop (k + 1)).all mayD) := by
  rw [List.drop_eq_getElem_cons h, List.all_cons]
  simp [List.getD_eq_getElem?_getD, h]

set_option maxHeartbeats 1000000 in
/-- 'slices.Equal' of numbers. -/
theorem equalC_any (a a' : Option Addr) (n cap n' cap' : Nat) (c d : List Int) (w : World) (hN : NS w a n c) (hN' : NS w a' n' d) :
    Calls Try.prog 35 #[.slice a n cap, .slice a' n' cap'] w fun e w' => e = .returned (.bool (decide (c = d))) ∧ Below w.heap.size w w' := by
  obtain ⟨hlen, hmax, hcells⟩ := hN
  obtain ⟨hlen', hmax', hcells'⟩ := hN'
  unfold maxLen at hmax hmax'
  by_cases hnn : n = n'
  · subst hnn
    have HL := hide hlen
    have HL' := hide hlen'
    have HC := hide hcells
    have HC' := hide hcells'
    clear hlen hlen' hcells hcells'
    go_enter Try.func35, Try.ntmps35
    go_wp2
    go_loopw [13] (fun i wr => ∃ k : Nat, k ≤ n ∧ i = .int .i64 k ∧ Below w.heap.size w wr ∧ Hid ((c = d) ↔ (c.drop k = d.drop k))) (fun i _ => n - (intOf i).toNat)
    case atStart => exact ⟨0, by omega, rfl, Below.refl _ _, by unfold Hid; simp⟩
    case round =>
      obtain ⟨k, hk, rfl, hbel, hH⟩ := hrel
      by_cases hlt : k < n
      · rcases HC.out with h0 | ⟨b, off, rfl, hc⟩
        · omega
        · rcases HC'.out with h0 | ⟨b', off', rfl, hc'⟩
          · omega
          · have c0 := bcell hbel (hc k hlt)
            have c2 := bcell hbel (hc' k hlt)
            have hst : Hid ((c = d) ↔ (c.getD k 0 = d.getD k 0 ∧ c.drop (k + 1) = d.drop (k + 1))) := by
              have h2 := hH.out
              rw [eq_drop (by rw [HL.out]; exact hlt) (by rw [HL'.out]; exact hlt)] at h2
              exact h2
            have HBel := hide hbel
            clear hc hc' hH hbel
            generalize c.getD k 0 = x at c0 hst
            generalize d.getD k 0 = y at c2 hst
            by_cases hxy : x = y
            · have hst2 : Hid ((c = d) ↔ (c.drop (k + 1) = d.drop (k + 1))) := by have h2 := hst.out; unfold Hid; rw [h2]; simp [hxy]
              clear hst
              subst hxy
              go_wp2
              refine wp_region_held_drew (S := fun W => Below wr.heap.size wr W) (by kernel_rfl) ((Below.refl _ wr).drew) (fun hS0 => ?_)
              refine takeInH 0 16 ?v49 rfl rfl (by kernel_rfl) (by kernel_rfl) (by kernel_rfl) (fun _ _ _ h => h) (by kernel_rfl) hS0 ?hy49 ?_
              case hy49 => (intro W hW; clear hW; go_simp; try rfl)
              simp only [Act.put, List.setIfInBounds_toArray, List.set_cons_zero, List.set_cons_succ]
              refine takeInH 1 17 ?v50 rfl rfl (by kernel_rfl) (by kernel_rfl) (by kernel_rfl) (fun _ _ _ h => h) (by kernel_rfl) hS0 ?hy50 ?_
              case hy50 => (intro W hW; clear hW; go_simp; try rfl)
              simp only [Act.put, List.setIfInBounds_toArray, List.set_cons_zero, List.set_cons_succ]
              refine takeInH 2 18 ?v51 rfl rfl (by kernel_rfl) (by kernel_rfl) (by kernel_rfl) (fun _ _ _ h => h) (by kernel_rfl) hS0 ?hy51 ?_
              case hy51 => (intro W hW; clear hW; go_simp; try rfl)
              simp only [Act.put, List.setIfInBounds_toArray, List.set_cons_zero, List.set_cons_succ]
              refine takeInH 3 19 ?v52 rfl rfl (by kernel_rfl) (by kernel_rfl) (by kernel_rfl) (fun _ _ _ h => h) (by kernel_rfl) hS0 ?hy52 ?_
              case hy52 => (intro W hW; have e0 := bcell hW c0; have e2 := bcell hW c2; clear hW; go_simp; try rfl)
              simp only [Act.put, List.setIfInBounds_toArray, List.set_cons_zero, List.set_cons_succ]
              refine takeInH 4 20 ?v53 rfl rfl (by kernel_rfl) (by kernel_rfl) (by kernel_rfl) (fun _ _ _ h => h) (by kernel_rfl) hS0 ?hy53 ?_
              case hy53 => (intro W hW; clear hW; go_simp; try rfl)
              simp only [Act.put, List.setIfInBounds_toArray, List.set_cons_zero, List.set_cons_succ]
              refine takeInH 5 21 ?v54 rfl rfl (by kernel_rfl) (by kernel_rfl) (by kernel_rfl) (fun _ _ _ h => h) (by kernel_rfl) hS0 ?hy54 ?_
              case hy54 => (intro W hW; clear hW; go_simp; try rfl)
              simp only [Act.put, List.setIfInBounds_toArray, List.set_cons_zero, List.set_cons_succ]
              refine takeInH 6 22 ?v55 rfl rfl (by kernel_rfl) (by kernel_rfl) (by kernel_rfl) (fun _ _ _ h => h) (by kernel_rfl) hS0 ?hy55 ?_
              case hy55 => (intro W hW; clear hW; go_simp; try rfl)
              simp only [Act.put, List.setIfInBounds_toArray, List.set_cons_zero, List.set_cons_succ]
              refine takeInH 7 23 ?v56 rfl rfl (by kernel_rfl) (by kernel_rfl) (by kernel_rfl) (fun _ _ _ h => h) (by kernel_rfl) hS0 ?hy56 ?_
              case hy56 => (intro W hW; have e0 := bcell hW c0; have e2 := bcell hW c2; clear hW; go_simp; try rfl)
              simp only [Act.put, List.setIfInBounds_toArray, List.set_cons_zero, List.set_cons_succ]
              refine takeInH 8 24 ?v57 rfl rfl (by kernel_rfl) (by kernel_rfl) (by kernel_rfl) (fun _ _ _ h => h) (by kernel_rfl) hS0 ?hy57 ?_
              case hy57 => (intro W hW; clear hW; go_simp; try rfl)
              simp only [Act.put, List.setIfInBounds_toArray, List.set_cons_zero, List.set_cons_succ]
              refine wpAnyH_done (by kernel_rfl) ?_ _
              go_wp2
              go_roundw
              case rel => exact ⟨k + 1, by omega, by go_num, bel_next HBel.out (by assumption), hst2⟩
              case measure => simp [intOf]; omega
            · have HE : Hid (false = decide (c = d)) := by have h2 := hst.out; unfold Hid; symm; rw [decide_eq_false_iff_not, h2]; exact fun h => hxy h.1
              have hxy2 : (x == y) = false := by simpa using hxy
              clear hst
              go_wp2
              refine wp_region_held_drew (S := fun W => Below wr.heap.size wr W) (by kernel_rfl) ((Below.refl _ wr).drew) (fun hS0 => ?_)
              refine takeInH 0 16 ?v58 rfl rfl (by kernel_rfl) (by kernel_rfl) (by kernel_rfl) (fun _ _ _ h => h) (by kernel_rfl) hS0 ?hy58 ?_
              case hy58 => (intro W hW; clear hW; go_simp; try rfl)
              simp only [Act.put, List.setIfInBounds_toArray, List.set_cons_zero, List.set_cons_succ]
              refine takeInH 1 17 ?v59 rfl rfl (by kernel_rfl) (by kernel_rfl) (by kernel_rfl) (fun _ _ _ h => h) (by kernel_rfl) hS0 ?hy59 ?_
              case hy59 => (intro W hW; clear hW; go_simp; try rfl)
              simp only [Act.put, List.setIfInBounds_toArray, List.set_cons_zero, List.set_cons_succ]
              refine takeInH 2 18 ?v60 rfl rfl (by kernel_rfl) (by kernel_rfl) (by kernel_rfl) (fun _ _ _ h => h) (by kernel_rfl) hS0 ?hy60 ?_
              case hy60 => (intro W hW; clear hW; go_simp; try rfl)
              simp only [Act.put, List.setIfInBounds_toArray, List.set_cons_zero, List.set_cons_succ]
              refine takeInH 3 19 ?v61 rfl rfl (by kernel_rfl) (by kernel_rfl) (by kernel_rfl) (fun _ _ _ h => h) (by kernel_rfl) hS0 ?hy61 ?_
              case hy61 => (intro W hW; have e0 := bcell hW c0; have e2 := bcell hW c2; clear hW; go_simp; try rfl)
              simp only [Act.put, List.setIfInBounds_toArray, List.set_cons_zero, List.set_cons_succ]
              refine takeInH 4 20 ?v62 rfl rfl (by kernel_rfl) (by kernel_rfl) (by kernel_rfl) (fun _ _ _ h => h) (by kernel_rfl) hS0 ?hy62 ?_
              case hy62 => (intro W hW; clear hW; go_simp; try rfl)
              simp only [Act.put, List.setIfInBounds_toArray, List.set_cons_zero, List.set_cons_succ]
              refine takeInH 5 21 ?v63 rfl rfl (by kernel_rfl) (by kernel_rfl) (by kernel_rfl) (fun _ _ _ h => h) (by kernel_rfl) hS0 ?hy63 ?_
              case hy63 => (intro W hW; clear hW; go_simp; try rfl)
              simp only [Act.put, List.setIfInBounds_toArray, List.set_cons_zero, List.set_cons_succ]
              refine takeInH 6 22 ?v64 rfl rfl (by kernel_rfl) (by kernel_rfl) (by kernel_rfl) (fun _ _ _ h => h) (by kernel_rfl) hS0 ?hy64 ?_
              case hy64 => (intro W hW; clear hW; go_simp; try rfl)
              simp only [Act.put, List.setIfInBounds_toArray, List.set_cons_zero, List.set_cons_succ]
              refine takeInH 7 23 ?v65 rfl rfl (by kernel_rfl) (by kernel_rfl) (by kernel_rfl) (fun _ _ _ h => h) (by kernel_rfl) hS0 ?hy65 ?_
              case hy65 => (intro W hW; have e0 := bcell hW c0; have e2 := bcell hW c2; clear hW; go_simp; try rfl)
              simp only [Act.put, List.setIfInBounds_toArray, List.set_cons_zero, List.set_cons_succ]
              refine takeInH 8 24 ?v66 rfl rfl (by kernel_rfl) (by kernel_rfl) (by kernel_rfl) (fun _ _ _ h => h) (by kernel_rfl) hS0 ?hy66 ?_
              case hy66 => (intro W hW; clear hW; go_simp; try rfl)
              simp only [Act.put, List.setIfInBounds_toArray, List.set_cons_zero, List.set_cons_succ]
              refine wpAnyH_done (by kernel_rfl) ?_ _
              go_wp2
              go_ret
              exact ⟨retB HE.out, bel_next HBel.out (by assumption)⟩
      · have hkl : k = n := by omega
        subst hkl
        have HE : Hid (true = decide (c = d)) := by
          have h2 := hH.out
          rw [List.drop_of_length_le (by rw [HL.out]; exact Nat.le_refl _), List.drop_of_length_le (by rw [HL'.out]; exact Nat.le_refl _)] at h2
          unfold Hid; simp [h2]
        clear hH
        go_wp2
        go_ret
        exact ⟨retB HE.out, hbel⟩
  · have HE : Hid (false = decide (c = d)) := by
      unfold Hid; symm; rw [decide_eq_false_iff_not]; intro hh; subst hh; omega
    have hnn' : ¬ ((n : Int) = n') := by omega
    clear hlen hlen' hcells hcells'
    go_enter Try.func35, Try.ntmps35
    go_wp2
    go_ret
    exact ⟨retB HE.out, Below.refl _ _⟩

end Go.Proofs.Ytooggheoaglbeaa

/- 'append' onto dots of the call's own; what 'slices.Clone', 'slices.Compact' and 'Order' do. -/
namespace Go.Proofs.Ytooggheoaglbeaa
open Go.RowKit Go.Lib Go.Sort
set_option linter.unusedVariables false

/-- 'append(v, x...)', 'v' dots of the call's own. -/
theorem append_wp {w : World} {o : Oper} {a : Act} {K : Act → World → Prop} {Q : Exit → Act → World → Prop} (s x : Operand)
    (ho : o.op = .call { callee := .builtin .append, args := #[s, x], argTypes := #[79, 79] })
    (N : Nat) (v : Value) (l m : List Dot) (hs : a.eval s = v) (hown : OwnD N w v l) (p : Option Addr) (len cap : Nat) (hx : a.eval x = .slice p len cap) (hp : p = none → cap = 0) (hB : DS w p len m)
    (hbig : l.length + m.length ≤ 1000000) (hN : N ≤ w.heap.size)
    (h : ∀ v' w', OwnD N w' v' (l ++ m) → (∀ w0, Below N w0 w → Below N w0 w') → K (a.put o.dst v') w') : Oper.wp Try.prog o a w K Q := by
  obtain ⟨i0, hi, hz0, hz1, hz2⟩ := info_parts Try.infoDot
  obtain ⟨g1, g2, g4⟩ := hB
  rcases p with _ | ad
  · have hc := hp rfl
    have hl0 : len = 0 := by
      rcases g4 with h0 | ⟨b, off, hh, _⟩
      · exact h0
      · cases hh
    subst hc hl0
    obtain rfl : m = [] := List.eq_nil_of_length_eq_zero g1
    have hrun := run_append_owned_none (P := Try.prog) (w := w) N 79 o.type 23 i0 2 Try.underlying79 hi v _ _ hown
    have hk := h v w (by rw [List.append_nil]; exact hown) (fun _ h => h)
    unfold Oper.wp execOp
    simp only [ho, resolve, invoke, builtin, Sem.run_bind, Sem.run_pure, Result.andThen_ok, List.map_toArray, List.map_cons, List.map_nil, hs, hx, hrun]
    exact hk
  · obtain ⟨v', w', hr, h2, h3, _⟩ := run_append_own (P := Try.prog) w N 79 o.type 23 i0 (.agg #[.int .i64 0, .int .i64 0]) 2 16 Try.underlying79 hi hz0 hz1 hz2 rfl (by decide) v _ _ hown ad len cap (flatD m) (by rw [flatD_len, g1])
      (by
        intro j u hj
        have hjl : j < (flatD m).length := (List.getElem?_eq_some_iff.1 hj).1
        rw [flatD_len] at hjl
        rcases g4 with h0 | ⟨b, off, hh, hc⟩
        · omega
        · cases hh
          have k := hc (j / 2) (by omega)
          have f := flatD_get m (j / 2) (by omega)
          have h3 : (⟨b, off, none⟩ : Addr).add j = ⟨b, off + j, none⟩ := by
            by_cases hj0 : j = 0
            · subst hj0; simp [Addr.add]
            · simp [Addr.add, hj0]
          rw [h3]
          rcases Nat.mod_two_eq_zero_or_one j with e | e
          · have e2 : j = j / 2 * 2 := by omega
            rw [e2, f.1] at hj
            rw [show (⟨b, off + j, none⟩ : Addr) = ⟨b, off + j / 2 * 2, none⟩ by rw [← e2], k.1]
            exact hj
          · have e2 : j = j / 2 * 2 + 1 := by omega
            rw [e2, f.2] at hj
            rw [show (⟨b, off + j, none⟩ : Addr) = ⟨b, off + j / 2 * 2 + 1, none⟩ by rw [Nat.add_assoc, ← e2], k.2]
            exact hj)
      (flatD_one m) (by unfold maxLen; rw [← g1]; omega) (by rw [← g1]; omega) hN
    have e : l.length + len = (l ++ m).length := by rw [List.length_append, g1]
    rw [e, ← flatD_app] at h2
    have hk := h v' w' h2 (fun w0 hb => hb.grown h3 hN (fun j hj => (World.ownsRow.lt hown j hj).1))
    unfold Oper.wp execOp
    simp only [ho, resolve, invoke, builtin, Sem.run_bind, Sem.run_pure, Result.andThen_ok, List.map_toArray, List.map_cons, List.map_nil, hs, hx, hr]
    exact hk
theorem append_dots {w : World} {ops : Array Oper} {rest : List Oper} {o : Oper} {a : Act} {Q : Exit → Act → World → Prop} (hgd : o.guard = none) (s x : Operand)
    (ho : o.op = .call { callee := .builtin .append, args := #[s, x], argTypes := #[79, 79] })
    (N : Nat) (v : Value) (l m : List Dot) (hs : a.eval s = v) (hown : OwnD N w v l) (p : Option Addr) (len cap : Nat) (hx : a.eval x = .slice p len cap) (hp : p = none → cap = 0) (hB : DS w p len m)
    (hbig : l.length + m.length ≤ 1000000) (hN : N ≤ w.heap.size)
    (h : ∀ v' w', OwnD N w' v' (l ++ m) → (∀ w0, Below N w0 w → Below N w0 w') → wpList Try.prog ops Q rest (a.put o.dst v') w') : wpList Try.prog ops Q (o :: rest) a w := by
  refine wpList_plain hgd fun K hK => ?_
  exact append_wp s x ho N v l m hs hown p len cap hx hp hB hbig hN (fun v' w' h1 h2 => hK _ _ (h v' w' h1 h2))

set_option maxHeartbeats 400000 in
set_option maxRecDepth 100000 in
theorem cloneD_any (a : Option Addr) (n cap : Nat) (l : List Dot) (w : World) (hD : DS w a n l) (hn : n ≤ 1000000) :
    Calls Try.prog 82 #[.slice a n cap] w fun e w' => ∃ v, e = .returned v ∧ OwnD w.heap.size w' v l ∧ Below w.heap.size w w' := by
  have q22 : ∀ (w : World) (a : Option Addr) (n c n' c' : Nat), (binOp .eql 79 (.slice a n c) (.slice none n' c')).run Try.prog w = .ok (.bool a.isNone) w := fun w a n c n' c' => Lib.run_eql_slice_nil w _ _ a n c n' c' Try.underlying79
  rcases a with _ | p
  · have hl : l = [] := by
      rcases hD.2.2 with h0 | ⟨b, off, hh, _⟩
      · exact List.eq_nil_of_length_eq_zero (by rw [hD.1, h0])
      · cases hh
    subst hl
    clear hD
    go_enter Try.func82, Try.ntmps82
    go_wp2
    go_ret
    exact ⟨_, rfl, OwnD.nil _ _, Below.refl _ _⟩
  · have HD0 := hide hD
    clear hD
    go_enter Try.func82, Try.ntmps82
    go_wp2_with (at_builtin; refine Stop.at ?_)
    unfold Stop
    refine append_dots rfl _ _ rfl w.heap.size _ [] l rfl (OwnD.made w w.heap.size _ rfl (Nat.le_refl _)) (some p) n cap rfl (fun h => by cases h) (HD0.out.alloc _) (by simp; have := HD0.out.1; omega) (by simp) ?_
    intro v' w' h1 h2
    have HO := hide h1
    have HB := hide (h2 _ (bel1 w _))
    clear h1 h2
    go_wp2
    go_ret
    exact ⟨_, rfl, HO.out, HB.out⟩

/-- 'clear' of the end of a row of dots. -/
theorem clear_dots (w : World) (g kk n c : Nat) (d : Array Dot) (hd : d.size = n) (hH : HD w g d) (hk : kk < n) (ty : TypeId) :
    (Builtin.clear_ #[79] ty #[.slice (some ⟨g, kk * 2, none⟩) (n - kk) c]).run Try.prog w = .ok (.tuple #[]) (w.setCells g (kk * 2) (List.replicate ((n - kk) * 2) (.int .i64 0))) := by
  have hv : ∀ w, (zeroValue 23).run Try.prog w = .ok (.agg #[.int .i64 0, .int .i64 0]) w := Try.zeroValue23
  have hzc : (Builtin.zeroCells (Value.agg #[.int .i64 0, .int .i64 0]).cells (n - kk)).toList = List.replicate ((n - kk) * 2) (Value.int .i64 0) := by
    simp [Builtin.zeroCells, Value.cells]
    apply List.ext_getElem
    · simp
    · intro i h1 h2
      rcases Nat.mod_two_eq_zero_or_one i with e | e <;> simp [e]
  have hst := run_storeCells_cells (P := Try.prog) g (kk * 2) (List.replicate ((n - kk) * 2) (Value.int .i64 0)) 0 w
    (by
      intro j hj
      rw [List.length_replicate] at hj
      have k := hH (kk + j / 2) (by omega)
      rcases Nat.mod_two_eq_zero_or_one j with e | e
      · rw [show kk * 2 + 0 + j = (kk + j / 2) * 2 by omega, k.1]; rfl
      · rw [show kk * 2 + 0 + j = (kk + j / 2) * 2 + 1 by omega, k.2.1]; rfl)
    (by
      intro j hj
      rw [List.length_replicate] at hj
      have k := hH (kk + j / 2) (by omega)
      rcases Nat.mod_two_eq_zero_or_one j with e | e
      · rw [show kk * 2 + 0 + j = (kk + j / 2) * 2 by omega]; exact k.2.2.1
      · rw [show kk * 2 + 0 + j = (kk + j / 2) * 2 + 1 by omega]; exact k.2.2.2)
    (by intro v hv'; rw [List.eq_of_mem_replicate hv']; rfl)
  simp only [Nat.add_zero] at hst
  obtain ⟨m, hm⟩ : ∃ m, n - kk = m + 1 := ⟨n - kk - 1, by omega⟩
  rw [hm] at hzc hst ⊢
  simp [Builtin.clear_, run_underlying Try.underlying79, hv, hzc, hst]

theorem HD.set {w : World} {g : Nat} {d : Array Dot} (h : HD w g d) {k : Nat} (hk : k < d.size) (r s : Int) : HD ((w.setCell ⟨g, k * 2, none⟩ (.int .i64 r)).setCell ⟨g, k * 2 + 1, none⟩ (.int .i64 s)) g (d.setIfInBounds k (r, s)) := by
  intro i hi
  rw [Array.size_setIfInBounds] at hi
  have q := h i hi
  have qk := h k hk
  by_cases e : i = k
  · subst e
    rw [getElem!_set_same d i (r, s) hi]
    refine ⟨?_, ?_, by simpa using q.2.2.1, by simpa using q.2.2.2⟩
    · rw [World.cell?_setCell_other _ _ _ _ (by simp), World.cell?_setCell_same _ _ _ q.1]
    · exact World.cell?_setCell_same _ _ _ (by rw [World.cell?_setCell_other _ _ _ _ (by simp)]; exact q.2.1)
  · rw [getElem!_set_other d k i (r, s) e]
    refine ⟨?_, ?_, by simpa using q.2.2.1, by simpa using q.2.2.2⟩
    · rw [World.cell?_setCell_other _ _ _ _ (by simp <;> omega), World.cell?_setCell_other _ _ _ _ (by simp <;> omega)]; exact q.1
    · rw [World.cell?_setCell_other _ _ _ _ (by simp <;> omega), World.cell?_setCell_other _ _ _ _ (by simp <;> omega)]; exact q.2.1
end Go.Proofs.Ytooggheoaglbeaa

