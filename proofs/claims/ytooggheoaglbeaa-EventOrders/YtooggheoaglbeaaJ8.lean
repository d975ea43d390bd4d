/- Texts of this claim, joined: EOpen, CTurn, SOpen, SMath, SArr, SSwap, SCut, SSym1, SSym2. -/
import Derived.Test.YtooggheoaglbeaaJ5
import Derived.Test.YtooggheoaglbeaaJ3
import Derived.Deep.SlicePairs
import Derived.Lib.SmallJoins
import Derived.Test.YtooggheoaglbeaaJ6
import Derived.Test.YtooggheoaglbeaaJ1
import Derived.Sort.Lot0
import Derived.Shelf.SlSortCmp.KitK
import Derived.Sort.WalkB2
import Derived.Sort.WalkB12
import Derived.Deep.LoopGhost
/- What a statement is told of an event that came in; what 'Light' does. -/
namespace Go.Proofs.Ytooggheoaglbeaa
open Go.RowKit Go.ChangeShapes Go.WideShapes
set_option linter.unusedVariables false

/-- An event that came in. -/
def InE (w : World) (v : Value) : Prop := ∃ (r s : Int) (pa : Option Addr) (na ca : Nat) (pe : Option Addr) (ne ce : Nat) (c : List Int) (l : List Eff), v = .agg #[.int .i64 r, .int .i64 s, .slice pa na ca, .slice pe ne ce] ∧ NS w pa na c ∧ CP pa na ca ∧ ES w pe ne l ∧ CP pe ne ce
theorem addr_add (b off k : Nat) : (⟨b, off, none⟩ : Addr).add k = ⟨b, off + k, none⟩ := by
  by_cases hk : k = 0
  · subst hk; simp [Addr.add]
  · simp [Addr.add, hk]
section
variable {H : Type} {enc : TypeId × Value → H} {W : World}
set_option maxRecDepth 100000 in
theorem numsE_trod {v : Value} {fuel : Nat} {y : DataW H × List MemPlace} (h : DataW.trod enc Try.prog W 0 (fun _ => true) true fuel 25 [v] = some y) : ∃ a len cap l, v = .slice a len cap ∧ NS W a len l ∧ CP a len cap := by
  rcases open_ints Try.underlying25 Try.underlying3 (by kernel_rfl) h with ⟨hcs, _⟩ | ⟨x, l, c, zs, hcs, _, hl, hm, hz, hx, hcell, hwz⟩
  · simp at hcs
    subst hcs
    exact ⟨_, _, _, [], rfl, NS.nil _ _, Nat.le_refl _, by decide, fun _ => rfl⟩
  · simp at hcs
    subst hcs
    simp at hz
    exact ⟨_, _, _, zs.take l, rfl, ns_of_cells hl hm hz (fun i hi => hcell i (by omega)), hl, hm, fun h => by cases h⟩
theorem Try.cellsEff : Try.prog.cellsOf 35 = 6 := by kernel_rfl
theorem Try.cellsEvt : Try.prog.cellsOf 28 = 4 := by kernel_rfl
theorem Try.cellsInt : Try.prog.cellsOf 3 = 1 := by kernel_rfl
theorem Try.cellsStr : Try.prog.cellsOf 9 = 1 := by kernel_rfl
theorem Try.cellsDot : Try.prog.cellsOf 23 = 2 := by kernel_rfl
theorem Try.cellsClk : Try.prog.cellsOf 25 = 1 := by kernel_rfl
theorem Try.cellsEfs : Try.prog.cellsOf 26 = 1 := by kernel_rfl
set_option maxRecDepth 100000 in
/-- An effect's six cells. -/
theorem eff_trod {n : Nat} {v0 v1 v2 v3 v4 v5 : Value} {x : DataW H × List MemPlace} (h : DataW.trod enc Try.prog W 0 (fun _ => true) true n 35 [v0, v1, v2, v3, v4, v5] = some x) : ∃ e : Eff, ByF e ∧ encF e = [v0, v1, v2, v3, v4, v5] := by
  obtain ⟨xs, k, hk, hxy, _, hxl, hf⟩ := DataW.trod_struct Try.underlying35 h
  obtain ⟨y0, y1, y2, y3, y4, y5, rfl⟩ := len6 xs hxl
  have g0 : DataW.trod enc Try.prog W 0 (fun _ => true) true k 3 (([v0, v1, v2, v3, v4, v5].drop 0).take (Try.prog.cellsOf 3)) = some y0 := hf 0 _ rfl
  rw [Try.cellsInt] at g0
  have g1 : DataW.trod enc Try.prog W 0 (fun _ => true) true k 3 (([v0, v1, v2, v3, v4, v5].drop 1).take (Try.prog.cellsOf 3)) = some y1 := hf 1 _ rfl
  rw [Try.cellsInt] at g1
  have g2 : DataW.trod enc Try.prog W 0 (fun _ => true) true k 9 (([v0, v1, v2, v3, v4, v5].drop 2).take (Try.prog.cellsOf 9)) = some y2 := hf 2 _ rfl
  rw [Try.cellsStr] at g2
  have g3 : DataW.trod enc Try.prog W 0 (fun _ => true) true k 3 (([v0, v1, v2, v3, v4, v5].drop 3).take (Try.prog.cellsOf 3)) = some y3 := hf 3 _ rfl
  rw [Try.cellsInt] at g3
  have g4 : DataW.trod enc Try.prog W 0 (fun _ => true) true k 3 (([v0, v1, v2, v3, v4, v5].drop 4).take (Try.prog.cellsOf 3)) = some y4 := hf 4 _ rfl
  rw [Try.cellsInt] at g4
  have g5 : DataW.trod enc Try.prog W 0 (fun _ => true) true k 9 (([v0, v1, v2, v3, v4, v5].drop 5).take (Try.prog.cellsOf 9)) = some y5 := hf 5 _ rfl
  rw [Try.cellsStr] at g5
  obtain ⟨a0, h0, _, _⟩ := DataW.trod_int Try.underlying3 g0
  obtain ⟨a1, h1, _, _⟩ := DataW.trod_int Try.underlying3 g1
  obtain ⟨s2, h2, _, _⟩ := DataW.trod_string Try.underlying9 g2
  obtain ⟨a3, h3, _, _⟩ := DataW.trod_int Try.underlying3 g3
  obtain ⟨a4, h4, _, _⟩ := DataW.trod_int Try.underlying3 g4
  obtain ⟨s5, h5, _, _⟩ := DataW.trod_string Try.underlying9 g5
  simp at h0 h1 h2 h3 h4 h5
  subst h0 h1 h2 h3 h4 h5
  refine ⟨(a0, a1, bytesL s2, a3, a4, bytesL s5), ⟨bytesL_by s2, bytesL_by s5⟩, ?_⟩
  simp [encF, str_bytes]
set_option maxRecDepth 100000 in
theorem effs_trod {v : Value} {fuel : Nat} {y : DataW H × List MemPlace} (h : DataW.trod enc Try.prog W 0 (fun _ => true) true fuel 26 [v] = some y) : ∃ a len cap l, v = .slice a len cap ∧ ES W a len l ∧ CP a len cap := by
  rcases Deep.open_slice Try.underlying26 h with ⟨hcs, _⟩ | ⟨a, len, cap, m, n, D, Pl, hcs, _, hl, hm, hmm, _, hx⟩
  · simp at hcs
    subst hcs
    exact ⟨_, _, _, [], rfl, ES.nil _ _, Nat.le_refl _, by decide, fun _ => rfl⟩
  · simp at hcs
    subst hcs
    have hmm' : m = cap := by simpa using hmm
    subst hmm'
    rw [Try.cellsEff] at hx
    have each : ∀ i, i < len → ∃ e : Eff, ByF e ∧ ∀ j u, (encF e)[j]? = some u → W.cell? (a.add (i * 6 + j)) = some u := by
      intro i hi
      obtain ⟨cs', h1, h2⟩ := hx i (by omega)
      obtain ⟨_, hlen, hcell⟩ := World.cells?_some h1
      obtain ⟨v0, v1, v2, v3, v4, v5, rfl⟩ := len6 cs' hlen
      obtain ⟨e, he1, he2⟩ := eff_trod h2
      refine ⟨e, he1, fun j u hj => ?_⟩
      rw [he2] at hj
      have hj6 : j < 6 := (List.getElem?_eq_some_iff.1 hj).1
      have q := hcell j hj6
      rw [Deep.add_add] at q
      rw [q]
      exact hj
    have hf : ∃ f : Nat → Eff, ∀ i, i < len → ByF (f i) ∧ ∀ j u, (encF (f i))[j]? = some u → W.cell? (a.add (i * 6 + j)) = some u := by
      refine ⟨fun i => if h : i < len then Classical.choose (each i h) else (0, 0, [], 0, 0, []), fun i hi => ?_⟩
      have := Classical.choose_spec (each i hi)
      simpa [hi] using this
    obtain ⟨f, hf⟩ := hf
    refine ⟨_, _, _, (List.range len).map f, rfl, ⟨⟨by simp, by omega, ?_⟩, ?_⟩, hl, hm, fun h => by cases h⟩
    · rcases Nat.eq_zero_or_pos len with h0 | hp
      · exact .inl h0
      · obtain ⟨b, off, spot⟩ := a
        have hspot : spot = none := by
          have := (hf 0 hp).2 0 _ rfl
          simpa [Addr.add] using World.cell?_spot this
        subst hspot
        refine .inr ⟨b, off, rfl, fun i x hi j u hj => ?_⟩
        have hil : i < len := by have := (List.getElem?_eq_some_iff.1 hi).1; simpa using this
        have hxf : x = f i := by simpa [hil] using hi.symm
        subst hxf
        have q := (hf i hil).2 j u hj
        rw [addr_add] at q
        rw [Nat.add_assoc]
        exact q
    · intro x hx
      obtain ⟨i, hi, rfl⟩ := List.mem_map.1 hx
      exact (hf i (List.mem_range.1 hi)).1
theorem arr4 {c : Array Value} (h : c.size = 4) : ∃ a b d e, c = #[a, b, d, e] := by
  obtain ⟨l⟩ := c
  obtain ⟨a, b, d, e, rfl⟩ := len4 l (by simpa using h)
  exact ⟨a, b, d, e, rfl⟩
set_option maxRecDepth 100000 in
theorem evt_trod {n : Nat} {v0 v1 v2 v3 : Value} {x : DataW H × List MemPlace} (h : DataW.trod enc Try.prog W 0 (fun _ => true) true n 28 [v0, v1, v2, v3] = some x) :
    ∃ (r s : Int) (pa : Option Addr) (na ca : Nat) (pe : Option Addr) (ne ce : Nat) (c : List Int) (l : List Eff), [v0, v1, v2, v3] = [.int .i64 r, .int .i64 s, .slice pa na ca, .slice pe ne ce] ∧ NS W pa na c ∧ CP pa na ca ∧ ES W pe ne l ∧ CP pe ne ce := by
  obtain ⟨xs, k, hk, hxy, _, hxl, hf⟩ := DataW.trod_struct Try.underlying28 h
  obtain ⟨y0, xs', rfl⟩ : ∃ y ys, xs = y :: ys := by cases xs with | nil => simp at hxl | cons y ys => exact ⟨y, ys, rfl⟩
  obtain ⟨y1, y2, rfl⟩ := len2 xs' (by simpa using hxl)
  have g0 : DataW.trod enc Try.prog W 0 (fun _ => true) true k 23 (([v0, v1, v2, v3].drop 0).take (Try.prog.cellsOf 23)) = some y0 := hf 0 _ rfl
  have g1 : DataW.trod enc Try.prog W 0 (fun _ => true) true k 25 (([v0, v1, v2, v3].drop 2).take (Try.prog.cellsOf 25)) = some y1 := hf 1 _ rfl
  have g2 : DataW.trod enc Try.prog W 0 (fun _ => true) true k 26 (([v0, v1, v2, v3].drop 3).take (Try.prog.cellsOf 26)) = some y2 := hf 2 _ rfl
  rw [Try.cellsDot] at g0
  rw [Try.cellsClk] at g1
  rw [Try.cellsEfs] at g2
  obtain ⟨z0, z1, k2, _, _, d0, d1⟩ := trod_struct2 Try.underlying23 g0
  have d0' : DataW.trod enc Try.prog W 0 (fun _ => true) true k2 3 ((((([v0, v1, v2, v3].drop 0).take 2)).drop 0).take (Try.prog.cellsOf 3)) = some z0 := d0
  have d1' : DataW.trod enc Try.prog W 0 (fun _ => true) true k2 3 ((((([v0, v1, v2, v3].drop 0).take 2)).drop 1).take (Try.prog.cellsOf 3)) = some z1 := d1
  rw [Try.cellsInt] at d0' d1'
  obtain ⟨r, hr, _, _⟩ := DataW.trod_int Try.underlying3 d0'
  obtain ⟨s, hs, _, _⟩ := DataW.trod_int Try.underlying3 d1'
  simp at hr hs
  obtain ⟨pa, na, ca, c, hv2, hns, hca⟩ := numsE_trod (v := v2) (by simpa using g1)
  obtain ⟨pe, ne, ce, l, hv3, hes, hce⟩ := effs_trod (v := v3) (by simpa using g2)
  exact ⟨r, s, pa, na, ca, pe, ne, ce, c, l, by rw [hr, hs, hv2, hv3], hns, hca, hes, hce⟩
set_option maxRecDepth 100000 in
theorem in_event {v : Value} {d : DataW H} {p : List MemPlace} {base : Nat} (hok : Value.okWide Try.prog W .any base 28 v) (h : DataW.Trod enc Try.prog W 0 (fun _ => true) true 28 v d p) (hw : ∀ n ∈ d.weights Try.prog 28, n ≤ reachBytes) : InE W v := by
  obtain ⟨cs, rfl, hsz⟩ := okWide_struct Try.underlying28 hok
  obtain ⟨a, b, c, e, rfl⟩ := arr4 (hsz.trans Try.cellsEvt)
  obtain ⟨fuel, hf⟩ := h
  obtain ⟨r, s, pa, na, ca, pe, ne, ce, cc, l, hv, h1, h2, h3, h4⟩ := evt_trod (v0 := a) (v1 := b) (v2 := c) (v3 := e) (by simpa [Value.cells] using hf)
  simp only [List.cons.injEq, and_true] at hv
  obtain ⟨rfl, rfl, rfl, rfl⟩ := hv
  exact ⟨r, s, pa, na, ca, pe, ne, ce, cc, l, rfl, h1, h2, h3, h4⟩
end

def LightR (n : Nat) (w : World) (e : Ending) (w' : World) : Prop := ∃ b : Bool, e = .returned (.bool b) ∧ (b = true → n ≤ 40) ∧ w' = w
set_option maxHeartbeats 4000000 in
/-- 'Light' answers, and where it says yes there are 40 at most. -/
theorem light5 (a : Option Addr) (n cap : Nat) (es : List Evt) (w : World) (hE : EVS w a n es) : Calls Try.prog 8 #[.slice a n cap] w (LightR n w) := by
  have HV := hide hE
  have hmx := hE.max
  unfold maxLen at hmx
  clear hE
  go_enter Try.func8, Try.ntmps8
  go_wp2
  go_loopw [3] (fun i wr => ∃ k : Nat, k ≤ n ∧ k ≤ 41 ∧ i = .int .i64 k ∧ wr = w) (fun i _ => n - (intOf i).toNat)
  case atStart => exact ⟨0, by omega, by omega, rfl, rfl⟩
  case round =>
    obtain ⟨k, hk, hk2, rfl, hw⟩ := hrel
    obtain ⟨wo, hwo⟩ : ∃ x, x = wr := ⟨wr, rfl⟩
    subst hwo
    subst hw
    by_cases hlt : k < n
    · by_cases hk40 : (k : Int) ≤ 40
      · obtain ⟨b, off, rfl⟩ := HV.out.addr (by omega)
        obtain ⟨r, s, pa, na, ca, pe, ne, ce, c, fs, hx, x0, x1, x2, x3, hns, hca, hes, hce⟩ := HV.out.at k hlt
        have hna := hns.2.1
        have hne := hes.1.2.1
        unfold maxLen at hna hne
        by_cases h1 : (na : Int) > 20
        · go_wp2
          go_ret
          exact ⟨false, rfl, (fun h => by cases h), rfl⟩
        · by_cases h2 : (ne : Int) > 30
          · go_wp2
            go_ret
            exact ⟨false, rfl, (fun h => by cases h), rfl⟩
          · have HES := hide hes
            have hnl := hide hes.1.1
            clear hes hns hca hce hx x0 x1
            go_wp2
            go_loopw [4] (fun i wr => ∃ j : Nat, j ≤ ne ∧ i = .int .i64 j ∧ wr = wo) (fun i _ => ne - (intOf i).toNat)
            case atStart => exact ⟨0, by omega, rfl, rfl⟩
            case round =>
              obtain ⟨j, hj, rfl, hw2⟩ := hrel
              subst hw2
              by_cases hjl : j < ne
              · rcases HES.out.1.2.2 with h0 | ⟨be, oe, rfl, _⟩
                · omega
                obtain ⟨f, hf⟩ : ∃ f, fs[j]? = some f := ⟨_, List.getElem?_eq_getElem (by rw [hnl.out]; exact hjl)⟩
                obtain ⟨_, _, y2, _, _, y5⟩ := HES.out.at j f hf
                generalize strOfNums f.2.2.1 = sk at y2
                generalize strOfNums f.2.2.2.2.2 = sw at y5
                clear hf
                by_cases h3 : (sk.size : Int) > 100
                · go_wp2
                  go_ret
                  exact ⟨false, rfl, (fun h => by cases h), rfl⟩
                · by_cases h4 : (sw.size : Int) > 100
                  · go_wp2
                    go_ret
                    exact ⟨false, rfl, (fun h => by cases h), rfl⟩
                  · go_wp2
                    go_roundw
                    case rel => exact ⟨j + 1, by omega, by go_num, trivial⟩
                    case measure => simp [intOf]; omega
              · have hjk : j = ne := by omega
                subst hjk
                go_wp2
                go_roundw
                case rel => exact ⟨k + 1, by omega, by omega, by go_num, trivial⟩
                case measure => simp [intOf]; omega
      · go_wp2
        go_ret
        exact ⟨_, rfl, (fun h => by have := of_decide_eq_true h; omega), rfl⟩
    · have hkl : k = n := by omega
      subst hkl
      by_cases h40 : (k : Int) ≤ 40
      · go_wp2
        go_ret
        exact ⟨_, rfl, (fun h => by omega), rfl⟩
      · go_wp2
        go_ret
        exact ⟨false, rfl, (fun h => by cases h), rfl⟩
end Go.Proofs.Ytooggheoaglbeaa

/- For the statement on any clock plain, set and ticked: what the contracts say at a replica that may be, and at one that may not. -/
namespace Go.Proofs.Ytooggheoaglbeaa
open Go.RowKit
set_option linter.unusedVariables false

theorem getZ_in (c : List Int) (r : Nat) (hr : r < 5) : getZ c (r + 1) = at5 c r := by
  unfold getZ; rw [if_pos (by omega)]; congr 1
theorem setA_in (c : List Int) (r : Nat) (x : Int) (hr : r < 5) (hx : inB x = true) : setA c (r + 1) x = some (pln (setL c r x)) ∧ setE (r + 1) x = 0 := by
  unfold setA setE
  rw [if_pos ⟨by omega, hx⟩, if_pos ⟨by omega, hx⟩]
  exact ⟨rfl, rfl⟩
theorem setA_bad (c : List Int) (r x : Int) (h : ¬ ((1 ≤ r ∧ r ≤ 5) ∧ inB x = true)) : setA c r x = none ∧ setE r x = 1 := by
  unfold setA setE
  rw [if_neg h, if_neg h]
  exact ⟨rfl, rfl⟩
theorem tickA_in (c : List Int) (r : Nat) (hr : r < 5) (hx : ¬ at5 c r = 1048576) : tickA c (r + 1) = some (pln (setL c r (at5 c r + 1))) ∧ tickE c (r + 1) = 0 := by
  unfold tickA tickE
  rw [getZ_in c r hr, if_pos ⟨by omega, hx⟩, if_pos (by omega), if_neg hx]
  exact ⟨rfl, rfl⟩
theorem tickA_full (c : List Int) (r : Nat) (hr : r < 5) (hx : at5 c r = 1048576) : tickA c (r + 1) = none ∧ tickE c (r + 1) = 6 := by
  unfold tickA tickE
  rw [getZ_in c r hr, if_neg (fun t => t.2 hx), if_pos (by omega), if_pos hx]
  exact ⟨rfl, rfl⟩
theorem tickA_bad (c : List Int) (r : Int) (h : ¬ (1 ≤ r ∧ r ≤ 5)) : tickA c r = none ∧ tickE c r = 1 := by
  unfold tickA tickE
  rw [if_neg (fun t => h t.1), if_neg h]
  exact ⟨rfl, rfl⟩

theorem own_nil_len {N : Nat} {w : World} {v : Value} (h : OwnN N w v []) : ∃ p c, v = .slice p 0 c := by
  obtain ⟨p, c, hv, _, _⟩ := h.open
  exact ⟨p, c, hv⟩
theorem getZ_out (c : List Int) (k : Nat) (hk : 5 ≤ k) : at5 c k = 0 := by
  unfold at5
  split
  · next h =>
    have := (mayC_iff.1 h).1
    simp [List.getD_eq_getElem?_getD, List.getElem?_eq_none (show c.length ≤ k by omega)]
  · rfl
set_option maxHeartbeats 400000 in
/-- The document's 'Get', of any replica. -/
theorem get_refZ (a : Option Addr) (n cap : Nat) (c : List Int) (r : Int) (w : World) (hN : NS w a n c) :
    Calls Try.prog 41 #[.slice a n cap, .int .i64 r] w fun e w' => e = .returned (.int .i64 (getZ c r)) ∧ w' = w := by
  by_cases h1 : r < 1
  · have hz : getZ c r = 0 := by unfold getZ; rw [if_neg (by omega)]
    rw [hz]
    have mb := may_ref a n cap c w hN
    clear hN hz
    rcases hm : mayC c with _ | _
    · rw [hm] at mb
      go_enter Try.func41, Try.ntmps41
      go_wp2_with (go_at_call 39; refine mb.mono ?_; rintro e w' ⟨rfl, rfl⟩)
      go_ret
      exact ⟨rfl, rfl⟩
    · rw [hm] at mb
      go_enter Try.func41, Try.ntmps41
      go_wp2_with (go_at_call 39; refine mb.mono ?_; rintro e w' ⟨rfl, rfl⟩)
      go_ret
      exact ⟨rfl, rfl⟩
  · refine get_ref_as a n cap c r _ w hN (r.toNat - 1) (by omega) ?_
    unfold getZ
    split
    · rfl
    · exact getZ_out c _ (by omega)
end Go.Proofs.Ytooggheoaglbeaa

/- What a statement is told of events that came in; what 'Light' tells of them; the document's 'Ahead'. -/
namespace Go.Proofs.Ytooggheoaglbeaa
open Go.RowKit Go.ChangeShapes Go.WideShapes
set_option linter.unusedVariables false

/-- Events that came in. -/
def InEs (w : World) (v : Value) : Prop := ∃ a n cap es, v = .slice a n cap ∧ EVS w a n es ∧ CP a n cap
section
variable {H : Type} {enc : TypeId × Value → H} {W : World}
set_option maxRecDepth 100000 in
theorem evts_trod {v : Value} {fuel : Nat} {y : DataW H × List MemPlace} (h : DataW.trod enc Try.prog W 0 (fun _ => true) true fuel 30 [v] = some y) : InEs W v := by
  rcases Deep.open_slice Try.underlying30 h with ⟨hcs, _⟩ | ⟨a, len, cap, m, n, D, Pl, hcs, _, hl, hm, hmm, _, hx⟩
  · simp at hcs
    subst hcs
    exact ⟨_, _, _, [], rfl, EVS.nil _ _, Nat.le_refl _, by decide, fun _ => rfl⟩
  · simp at hcs
    subst hcs
    have hmm' : m = cap := by simpa using hmm
    subst hmm'
    rw [Try.cellsEvt] at hx
    have each : ∀ i, i < len → ∃ p : Rv × Evt, Rel W p.1 p.2 ∧ ∀ j u, (encV p.1)[j]? = some u → W.cell? (a.add (i * 4 + j)) = some u := by
      intro i hi
      obtain ⟨cs', h1, h2⟩ := hx i (by omega)
      obtain ⟨_, hlen, hcell⟩ := World.cells?_some h1
      obtain ⟨v0, v1, v2, v3, rfl⟩ := len4 cs' hlen
      obtain ⟨r, s, pa, na, ca, pe, ne, ce, c, l, he, k1, k2, k3, k4⟩ := evt_trod h2
      refine ⟨((r, s, (pa, na, ca), (pe, ne, ce)), ((r, s), c, l)), ⟨rfl, ⟨k1, k2⟩, ⟨k3, k4⟩⟩, fun j u hj => ?_⟩
      have he' : encV (r, s, (pa, na, ca), (pe, ne, ce)) = [v0, v1, v2, v3] := he.symm
      rw [he'] at hj
      have hj4 : j < 4 := (List.getElem?_eq_some_iff.1 hj).1
      have q := hcell j hj4
      rw [Deep.add_add] at q
      rw [q]
      exact hj
    have hf : ∃ f : Nat → Rv × Evt, ∀ i, i < len → Rel W (f i).1 (f i).2 ∧ ∀ j u, (encV (f i).1)[j]? = some u → W.cell? (a.add (i * 4 + j)) = some u := by
      refine ⟨fun i => if h : i < len then Classical.choose (each i h) else ((0, 0, (none, 0, 0), (none, 0, 0)), ((0, 0), [], [])), fun i hi => ?_⟩
      have := Classical.choose_spec (each i hi)
      simpa [hi] using this
    obtain ⟨f, hf⟩ := hf
    refine ⟨_, _, _, (List.range len).map (fun i => (f i).2), rfl, ⟨(List.range len).map (fun i => (f i).1), ⟨by simp, by omega, ?_⟩, by simp, fun i x e hx he => ?_⟩, hl, hm, fun h => by cases h⟩
    · rcases Nat.eq_zero_or_pos len with h0 | hp
      · exact .inl h0
      · obtain ⟨b, off, spot⟩ := a
        have hspot : spot = none := by
          have := (hf 0 hp).2 0 _ rfl
          simpa [Addr.add] using World.cell?_spot this
        subst hspot
        refine .inr ⟨b, off, rfl, fun i x hi j u hj => ?_⟩
        have hil : i < len := by have := (List.getElem?_eq_some_iff.1 hi).1; simpa using this
        have hxf : x = (f i).1 := by simpa [hil] using hi.symm
        subst hxf
        have q := (hf i hil).2 j u hj
        rw [addr_add] at q
        rw [Nat.add_assoc]
        exact q
    · have hil : i < len := by have := (List.getElem?_eq_some_iff.1 hx).1; simpa using this
      have hxf : x = (f i).1 := by simpa [hil] using hx.symm
      have hef : e = (f i).2 := by simpa [hil] using he.symm
      rw [hxf, hef]
      exact (hf i hil).1
set_option maxRecDepth 100000 in
theorem in_events {v : Value} {d : DataW H} {p : List MemPlace} {base : Nat} (hok : Value.okWide Try.prog W .any base 30 v) (h : DataW.Trod enc Try.prog W 0 (fun _ => true) true 30 v d p) (hw : ∀ n ∈ d.weights Try.prog 30, n ≤ reachBytes) : InEs W v := by
  obtain ⟨a, len, cap, rfl⟩ := okWide_slice Try.underlying30 hok
  obtain ⟨fuel, hf⟩ := h
  exact evts_trod (v := .slice a len cap) hf
end
/-- What an event that is not too much has. -/
def fewE (e : Evt) : Prop := e.2.1.length ≤ 20 ∧ e.2.2.length ≤ 30
def LightS (n : Nat) (es : List Evt) (w : World) (e : Ending) (w' : World) : Prop := ∃ b : Bool, e = .returned (.bool b) ∧ (b = true → n ≤ 40 ∧ ∀ x ∈ es, fewE x) ∧ w' = w
set_option maxHeartbeats 4000000 in
/-- 'Light' answers, and where it says yes there are 40 at most, none of them too much. -/
theorem light6 (a : Option Addr) (n cap : Nat) (es : List Evt) (w : World) (hE : EVS w a n es) : Calls Try.prog 8 #[.slice a n cap] w (LightS n es w) := by
  have HV := hide hE
  have hmx := hE.max
  unfold maxLen at hmx
  clear hE
  go_enter Try.func8, Try.ntmps8
  go_wp2
  go_loopw [3] (fun i wr => ∃ k : Nat, k ≤ n ∧ k ≤ 41 ∧ i = .int .i64 k ∧ Hid (∀ x ∈ es.take k, fewE x) ∧ wr = w) (fun i _ => n - (intOf i).toNat)
  case atStart => exact ⟨0, by omega, by omega, rfl, (fun x hx => by simp at hx), rfl⟩
  case round =>
    obtain ⟨k, hk, hk2, rfl, HF, hw⟩ := hrel
    obtain ⟨wo, hwo⟩ : ∃ x, x = wr := ⟨wr, rfl⟩
    subst hwo
    subst hw
    by_cases hlt : k < n
    · by_cases hk40 : (k : Int) ≤ 40
      · obtain ⟨b, off, rfl⟩ := HV.out.addr (by omega)
        obtain ⟨r, s, pa, na, ca, pe, ne, ce, c, fs, hx, x0, x1, x2, x3, hns, hca, hes, hce⟩ := HV.out.at k hlt
        have hna := hns.2.1
        have hne := hes.1.2.1
        unfold maxLen at hna hne
        by_cases h1 : (na : Int) > 20
        · go_wp2
          go_ret
          exact ⟨false, rfl, (fun h => by cases h), rfl⟩
        · by_cases h2 : (ne : Int) > 30
          · go_wp2
            go_ret
            exact ⟨false, rfl, (fun h => by cases h), rfl⟩
          · have HF2 : Hid (∀ x ∈ es.take (k + 1), fewE x) := by
              intro x hx'
              rw [take_snocE hx] at hx'
              rcases List.mem_append.1 hx' with q | q
              · exact HF.out x q
              · rw [List.mem_singleton.1 q]
                have q1 := hns.1
                have q2 := hes.1.1
                exact ⟨by simp only []; omega, by simp only []; omega⟩
            have HES := hide hes
            have hnl := hide hes.1.1
            clear hes hns hca hce hx x0 x1
            go_wp2
            go_loopw [4] (fun i wr => ∃ j : Nat, j ≤ ne ∧ i = .int .i64 j ∧ wr = wo) (fun i _ => ne - (intOf i).toNat)
            case atStart => exact ⟨0, by omega, rfl, rfl⟩
            case round =>
              obtain ⟨j, hj, rfl, hw2⟩ := hrel
              subst hw2
              by_cases hjl : j < ne
              · rcases HES.out.1.2.2 with h0 | ⟨be, oe, rfl, _⟩
                · omega
                obtain ⟨f, hf⟩ : ∃ f, fs[j]? = some f := ⟨_, List.getElem?_eq_getElem (by rw [hnl.out]; exact hjl)⟩
                obtain ⟨_, _, y2, _, _, y5⟩ := HES.out.at j f hf
                generalize strOfNums f.2.2.1 = sk at y2
                generalize strOfNums f.2.2.2.2.2 = sw at y5
                clear hf
                by_cases h3 : (sk.size : Int) > 100
                · go_wp2
                  go_ret
                  exact ⟨false, rfl, (fun h => by cases h), rfl⟩
                · by_cases h4 : (sw.size : Int) > 100
                  · go_wp2
                    go_ret
                    exact ⟨false, rfl, (fun h => by cases h), rfl⟩
                  · go_wp2
                    go_roundw
                    case rel => exact ⟨j + 1, by omega, by go_num, trivial⟩
                    case measure => simp [intOf]; omega
              · have hjk : j = ne := by omega
                subst hjk
                go_wp2
                go_roundw
                case rel => exact ⟨k + 1, by omega, by omega, by go_num, HF2, trivial⟩
                case measure => simp [intOf]; omega
      · go_wp2
        go_ret
        exact ⟨_, rfl, (fun h => by have := of_decide_eq_true h; omega), rfl⟩
    · have hkl : k = n := by omega
      subst hkl
      by_cases h40 : (k : Int) ≤ 40
      · have HA : Hid (∀ x ∈ es, fewE x) := by
          have q := HF.out
          rw [List.take_of_length_le (by rw [HV.out.len]; exact Nat.le_refl _)] at q
          exact q
        go_wp2
        go_ret
        exact ⟨_, rfl, (fun h => ⟨by omega, HA.out⟩), rfl⟩
      · go_wp2
        go_ret
        exact ⟨false, rfl, (fun h => by cases h), rfl⟩
set_option maxHeartbeats 1000000 in
/-- The document's 'Ahead'. -/
theorem AheadR_any (r s : Int) (pa : Option Addr) (na ca : Nat) (pe : Option Addr) (ne ce : Nat) (r' s' : Int) (pb : Option Addr) (nb cb : Nat) (pf : Option Addr) (nf cf : Nat) (c : List Int) (w : World) (hN : NS w pb nb c) :
    Calls Try.prog 23 #[.agg #[.int .i64 r, .int .i64 s, .slice pa na ca, .slice pe ne ce], .agg #[.int .i64 r', .int .i64 s', .slice pb nb cb, .slice pf nf cf]] w fun e w' => e = .returned (.bool (ahdB (r, s) c)) ∧ Below w.heap.size w w' := by
  have HG := hide (fun W (h : NS W pb nb c) => get_refZ pb nb cb c r W h)
  rcases hm : mayD (r, s) with _ | _
  · have HM := hide (fun W => MayR_any r s W)
    rw [hm] at HM
    have HE : Hid (false = ahdB (r, s) c) := by
      unfold Hid ahdB; rw [hm]; rfl
    clear hm
    have HU := hide (bel2 w (bxE r s pa na ca pe ne ce) (bxE r' s' pb nb cb pf nf cf))
    have NU := hide ((hN.alloc (bxE r s pa na ca pe ne ce)).alloc (bxE r' s' pb nb cb pf nf cf))
    have c0 : ((w.alloc (bxE r s pa na ca pe ne ce)).alloc (bxE r' s' pb nb cb pf nf cf)).cell? ⟨w.heap.size, 0, none⟩ = some (.int .i64 r) := cell_old _ (cell_new w _ _ _ rfl 0 _ rfl)
    have c1 : ((w.alloc (bxE r s pa na ca pe ne ce)).alloc (bxE r' s' pb nb cb pf nf cf)).cell? ⟨w.heap.size, 1, none⟩ = some (.int .i64 s) := cell_old _ (cell_new w _ _ _ rfl 1 _ rfl)
    have d2 : ((w.alloc (bxE r s pa na ca pe ne ce)).alloc (bxE r' s' pb nb cb pf nf cf)).cell? ⟨w.heap.size + 1, 2, none⟩ = some (.slice pb nb cb) := cell_new _ _ _ _ (by simp) 2 _ rfl
    clear hN
    go_enter Try.func23, Try.ntmps23
    go_wp2
    generalize hu : (w.alloc (bxE r s pa na ca pe ne ce)).alloc (bxE r' s' pb nb cb pf nf cf) = u at *
    clear hu
    refine wp_region_held_drew (S := fun W => Below u.heap.size u W) (by kernel_rfl) ((Below.refl _ u).drew) (fun hS0 => ?_)
    refine takeInH 0 5 ?v1 rfl rfl (by kernel_rfl) (by kernel_rfl) (by kernel_rfl) (fun _ _ _ h => h) (by kernel_rfl) hS0 ?hy1 ?_
    case hy1 => (intro W hW; clear hW; go_simp; try rfl)
    simp only [Act.put, List.setIfInBounds_toArray, List.set_cons_zero, List.set_cons_succ]
    refine takeInH 1 6 ?v2 rfl rfl (by kernel_rfl) (by kernel_rfl) (by kernel_rfl) (fun _ _ _ h => h) (by kernel_rfl) hS0 ?hy2 ?_
    case hy2 => (intro W hW; have e0 := bcell hW c0; have e1 := bcell hW c1; have e2 := bcell hW d2; clear hW; go_simp; try rfl)
    simp only [Act.put, List.setIfInBounds_toArray, List.set_cons_zero, List.set_cons_succ]
    refine wpAnyH_ready (rs := [2]) (by kernel_rfl) (by simp) ?_
    refine AllReadyH.cons rfl (fun K hK => ?_) AllReadyH.nil
    go_simp
    refine (HM.out _).mono ?_
    rintro e w' ⟨rfl, hg⟩
    have hb := hg.bel
    try go_wp2_with fail
    refine hK.out _ _ ?hs3 (fun hS1 => ?_)
    case hs3 => exact bel_next hS0 hb
    clear hK K
    try simp only [Act.put, List.setIfInBounds_toArray, List.set_cons_zero, List.set_cons_succ]
    refine takeInH 3 8 ?v4 rfl rfl (by kernel_rfl) (by kernel_rfl) (by kernel_rfl) (fun _ _ _ h => h) (by kernel_rfl) hS1 ?hy4 ?_
    case hy4 => (intro W hW; clear hW; go_simp; try rfl)
    simp only [Act.put, List.setIfInBounds_toArray, List.set_cons_zero, List.set_cons_succ]
    refine takeNoH 4 9 rfl rfl (by kernel_rfl) (by kernel_rfl) (by kernel_rfl) (fun _ _ _ h => h) (by kernel_rfl) hS1 ?_
    simp only [Act.put, List.setIfInBounds_toArray, List.set_cons_zero, List.set_cons_succ]
    refine takeNoH 5 10 rfl rfl (by kernel_rfl) (by kernel_rfl) (by kernel_rfl) (fun _ _ _ h => h) (by kernel_rfl) hS1 ?_
    simp only [Act.put, List.setIfInBounds_toArray, List.set_cons_zero, List.set_cons_succ]
    refine takeNoH 6 11 rfl rfl (by kernel_rfl) (by kernel_rfl) (by kernel_rfl) (fun _ _ _ h => h) (by kernel_rfl) hS1 ?_
    simp only [Act.put, List.setIfInBounds_toArray, List.set_cons_zero, List.set_cons_succ]
    refine takeNoH 7 12 rfl rfl (by kernel_rfl) (by kernel_rfl) (by kernel_rfl) (fun _ _ _ h => h) (by kernel_rfl) hS1 ?_
    simp only [Act.put, List.setIfInBounds_toArray, List.set_cons_zero, List.set_cons_succ]
    refine takeNoH 8 13 rfl rfl (by kernel_rfl) (by kernel_rfl) (by kernel_rfl) (fun _ _ _ h => h) (by kernel_rfl) hS1 ?_
    simp only [Act.put, List.setIfInBounds_toArray, List.set_cons_zero, List.set_cons_succ]
    refine takeNoH 9 14 rfl rfl (by kernel_rfl) (by kernel_rfl) (by kernel_rfl) (fun _ _ _ h => h) (by kernel_rfl) hS1 ?_
    simp only [Act.put, List.setIfInBounds_toArray, List.set_cons_zero, List.set_cons_succ]
    refine takeNoH 10 15 rfl rfl (by kernel_rfl) (by kernel_rfl) (by kernel_rfl) (fun _ _ _ h => h) (by kernel_rfl) hS1 ?_
    simp only [Act.put, List.setIfInBounds_toArray, List.set_cons_zero, List.set_cons_succ]
    refine takeNoH 11 16 rfl rfl (by kernel_rfl) (by kernel_rfl) (by kernel_rfl) (fun _ _ _ h => h) (by kernel_rfl) hS1 ?_
    simp only [Act.put, List.setIfInBounds_toArray, List.set_cons_zero, List.set_cons_succ]
    refine takeNoH 12 17 rfl rfl (by kernel_rfl) (by kernel_rfl) (by kernel_rfl) (fun _ _ _ h => h) (by kernel_rfl) hS1 ?_
    simp only [Act.put, List.setIfInBounds_toArray, List.set_cons_zero, List.set_cons_succ]
    refine takeNoH 13 18 rfl rfl (by kernel_rfl) (by kernel_rfl) (by kernel_rfl) (fun _ _ _ h => h) (by kernel_rfl) hS1 ?_
    simp only [Act.put, List.setIfInBounds_toArray, List.set_cons_zero, List.set_cons_succ]
    refine takeInH 14 19 ?v5 rfl rfl (by kernel_rfl) (by kernel_rfl) (by kernel_rfl) (fun _ _ _ h => h) (by kernel_rfl) hS1 ?hy5 ?_
    case hy5 => (intro W hW; clear hW; go_simp; try rfl)
    simp only [Act.put, List.setIfInBounds_toArray, List.set_cons_zero, List.set_cons_succ]
    refine takeInH 15 4 ?v6 rfl rfl (by kernel_rfl) (by kernel_rfl) (by kernel_rfl) (fun _ _ _ h => h) (by kernel_rfl) hS1 ?hy6 ?_
    case hy6 => (intro W hW; clear hW; go_simp; try rfl)
    simp only [Act.put, List.setIfInBounds_toArray, List.set_cons_zero, List.set_cons_succ]
    refine wpAnyH_done (by kernel_rfl) ?_ _
    go_wp2
    go_ret
    exact ⟨retB HE.out, bel_next HU.out hS1⟩
  · have HM := hide (fun W => MayR_any r s W)
    rw [hm] at HM
    have HE : Hid (decide (getZ c r ≥ s) = ahdB (r, s) c) := by
      unfold Hid ahdB; rw [hm]; simp
    clear hm
    have HU := hide (bel2 w (bxE r s pa na ca pe ne ce) (bxE r' s' pb nb cb pf nf cf))
    have NU := hide ((hN.alloc (bxE r s pa na ca pe ne ce)).alloc (bxE r' s' pb nb cb pf nf cf))
    have c0 : ((w.alloc (bxE r s pa na ca pe ne ce)).alloc (bxE r' s' pb nb cb pf nf cf)).cell? ⟨w.heap.size, 0, none⟩ = some (.int .i64 r) := cell_old _ (cell_new w _ _ _ rfl 0 _ rfl)
    have c1 : ((w.alloc (bxE r s pa na ca pe ne ce)).alloc (bxE r' s' pb nb cb pf nf cf)).cell? ⟨w.heap.size, 1, none⟩ = some (.int .i64 s) := cell_old _ (cell_new w _ _ _ rfl 1 _ rfl)
    have d2 : ((w.alloc (bxE r s pa na ca pe ne ce)).alloc (bxE r' s' pb nb cb pf nf cf)).cell? ⟨w.heap.size + 1, 2, none⟩ = some (.slice pb nb cb) := cell_new _ _ _ _ (by simp) 2 _ rfl
    clear hN
    go_enter Try.func23, Try.ntmps23
    go_wp2
    generalize hu : (w.alloc (bxE r s pa na ca pe ne ce)).alloc (bxE r' s' pb nb cb pf nf cf) = u at *
    clear hu
    generalize getZ c r = z at HG HE
    refine wp_region_held_drew (S := fun W => Below u.heap.size u W) (by kernel_rfl) ((Below.refl _ u).drew) (fun hS0 => ?_)
    refine takeInH 0 5 ?v7 rfl rfl (by kernel_rfl) (by kernel_rfl) (by kernel_rfl) (fun _ _ _ h => h) (by kernel_rfl) hS0 ?hy7 ?_
    case hy7 => (intro W hW; clear hW; go_simp; try rfl)
    simp only [Act.put, List.setIfInBounds_toArray, List.set_cons_zero, List.set_cons_succ]
    refine takeInH 1 6 ?v8 rfl rfl (by kernel_rfl) (by kernel_rfl) (by kernel_rfl) (fun _ _ _ h => h) (by kernel_rfl) hS0 ?hy8 ?_
    case hy8 => (intro W hW; have e0 := bcell hW c0; have e1 := bcell hW c1; have e2 := bcell hW d2; clear hW; go_simp; try rfl)
    simp only [Act.put, List.setIfInBounds_toArray, List.set_cons_zero, List.set_cons_succ]
    refine wpAnyH_ready (rs := [2]) (by kernel_rfl) (by simp) ?_
    refine AllReadyH.cons rfl (fun K hK => ?_) AllReadyH.nil
    go_simp
    refine (HM.out _).mono ?_
    rintro e w' ⟨rfl, hg⟩
    have hb := hg.bel
    try go_wp2_with fail
    refine hK.out _ _ ?hs9 (fun hS1 => ?_)
    case hs9 => exact bel_next hS0 hb
    clear hK K
    try simp only [Act.put, List.setIfInBounds_toArray, List.set_cons_zero, List.set_cons_succ]
    refine takeInH 3 8 ?v10 rfl rfl (by kernel_rfl) (by kernel_rfl) (by kernel_rfl) (fun _ _ _ h => h) (by kernel_rfl) hS1 ?hy10 ?_
    case hy10 => (intro W hW; clear hW; go_simp; try rfl)
    simp only [Act.put, List.setIfInBounds_toArray, List.set_cons_zero, List.set_cons_succ]
    refine takeInH 4 9 ?v11 rfl rfl (by kernel_rfl) (by kernel_rfl) (by kernel_rfl) (fun _ _ _ h => h) (by kernel_rfl) hS1 ?hy11 ?_
    case hy11 => (intro W hW; clear hW; go_simp; try rfl)
    simp only [Act.put, List.setIfInBounds_toArray, List.set_cons_zero, List.set_cons_succ]
    refine takeInH 5 10 ?v12 rfl rfl (by kernel_rfl) (by kernel_rfl) (by kernel_rfl) (fun _ _ _ h => h) (by kernel_rfl) hS1 ?hy12 ?_
    case hy12 => (intro W hW; have e0 := bcell hW c0; have e1 := bcell hW c1; have e2 := bcell hW d2; clear hW; go_simp; try rfl)
    simp only [Act.put, List.setIfInBounds_toArray, List.set_cons_zero, List.set_cons_succ]
    refine takeInH 6 11 ?v13 rfl rfl (by kernel_rfl) (by kernel_rfl) (by kernel_rfl) (fun _ _ _ h => h) (by kernel_rfl) hS1 ?hy13 ?_
    case hy13 => (intro W hW; clear hW; go_simp; try rfl)
    simp only [Act.put, List.setIfInBounds_toArray, List.set_cons_zero, List.set_cons_succ]
    refine takeInH 7 12 ?v14 rfl rfl (by kernel_rfl) (by kernel_rfl) (by kernel_rfl) (fun _ _ _ h => h) (by kernel_rfl) hS1 ?hy14 ?_
    case hy14 => (intro W hW; clear hW; go_simp; try rfl)
    simp only [Act.put, List.setIfInBounds_toArray, List.set_cons_zero, List.set_cons_succ]
    refine takeInH 8 13 ?v15 rfl rfl (by kernel_rfl) (by kernel_rfl) (by kernel_rfl) (fun _ _ _ h => h) (by kernel_rfl) hS1 ?hy15 ?_
    case hy15 => (intro W hW; have e0 := bcell hW c0; have e1 := bcell hW c1; have e2 := bcell hW d2; clear hW; go_simp; try rfl)
    simp only [Act.put, List.setIfInBounds_toArray, List.set_cons_zero, List.set_cons_succ]
    refine takeInH 10 15 ?v16 rfl rfl (by kernel_rfl) (by kernel_rfl) (by kernel_rfl) (fun _ _ _ h => h) (by kernel_rfl) hS1 ?hy16 ?_
    case hy16 => (intro W hW; clear hW; go_simp; try rfl)
    simp only [Act.put, List.setIfInBounds_toArray, List.set_cons_zero, List.set_cons_succ]
    refine takeInH 11 16 ?v17 rfl rfl (by kernel_rfl) (by kernel_rfl) (by kernel_rfl) (fun _ _ _ h => h) (by kernel_rfl) hS1 ?hy17 ?_
    case hy17 => (intro W hW; clear hW; go_simp; try rfl)
    simp only [Act.put, List.setIfInBounds_toArray, List.set_cons_zero, List.set_cons_succ]
    refine takeInH 12 17 ?v18 rfl rfl (by kernel_rfl) (by kernel_rfl) (by kernel_rfl) (fun _ _ _ h => h) (by kernel_rfl) hS1 ?hy18 ?_
    case hy18 => (intro W hW; have e0 := bcell hW c0; have e1 := bcell hW c1; have e2 := bcell hW d2; clear hW; go_simp; try rfl)
    simp only [Act.put, List.setIfInBounds_toArray, List.set_cons_zero, List.set_cons_succ]
    refine wpAnyH_ready (rs := [9]) (by kernel_rfl) (by simp) ?_
    refine AllReadyH.cons rfl (fun K hK => ?_) AllReadyH.nil
    go_simp
    refine (HG.out _ (NU.out.below hS1)).mono ?_
    rintro e w' ⟨rfl, hw⟩
    replace hw := hw.symm
    subst hw
    try go_wp2_with fail
    refine hK.out _ _ ?hs19 (fun hS2 => ?_)
    case hs19 => exact hS1
    clear hK K
    try simp only [Act.put, List.setIfInBounds_toArray, List.set_cons_zero, List.set_cons_succ]
    refine takeInH 13 18 ?v20 rfl rfl (by kernel_rfl) (by kernel_rfl) (by kernel_rfl) (fun _ _ _ h => h) (by kernel_rfl) hS2 ?hy20 ?_
    case hy20 => (intro W hW; clear hW; go_simp; try rfl)
    simp only [Act.put, List.setIfInBounds_toArray, List.set_cons_zero, List.set_cons_succ]
    refine takeInH 14 19 ?v21 rfl rfl (by kernel_rfl) (by kernel_rfl) (by kernel_rfl) (fun _ _ _ h => h) (by kernel_rfl) hS2 ?hy21 ?_
    case hy21 => (intro W hW; clear hW; go_simp; try rfl)
    simp only [Act.put, List.setIfInBounds_toArray, List.set_cons_zero, List.set_cons_succ]
    refine takeInH 15 4 ?v22 rfl rfl (by kernel_rfl) (by kernel_rfl) (by kernel_rfl) (fun _ _ _ h => h) (by kernel_rfl) hS2 ?hy22 ?_
    case hy22 => (intro W hW; clear hW; go_simp; try rfl)
    simp only [Act.put, List.setIfInBounds_toArray, List.set_cons_zero, List.set_cons_succ]
    refine wpAnyH_done (by kernel_rfl) ?_ _
    go_wp2
    go_ret
    exact ⟨retB HE.out, bel_next HU.out hS2⟩
end Go.Proofs.Ytooggheoaglbeaa

/- Stable merging in plain mathematics: two lists in order, merged, cut at a place, merged again; sorting by putting in one by one. -/
namespace Go.Proofs.Ytooggheoaglbeaa

section
variable {α : Type}
/-- One list of a merge, told what the rest of the other one comes to. -/
def mrgI (lt : α → α → Bool) (x : α) (A : List α) (f : List α → List α) : List α → List α
  | [] => x :: A
  | y :: B => if lt y x = true then y :: mrgI lt x A f B else x :: f (y :: B)
/-- The stable merge: of those alike the first list's first. -/
def mrg (lt : α → α → Bool) : List α → List α → List α
  | [], B => B
  | x :: A, B => mrgI lt x A (mrg lt A) B
/-- Two lists, taken down by turns. -/
theorem two_ind {P : List α → List α → Prop} (h1 : ∀ B, P [] B) (h2 : ∀ x A, P (x :: A) []) (h3 : ∀ x A y B, P (x :: A) B → P A (y :: B) → P (x :: A) (y :: B)) : ∀ A B, P A B := by
  intro A
  induction A with
  | nil => exact h1
  | cons x A ih =>
    intro B
    induction B with
    | nil => exact h2 x A
    | cons y B ih2 => exact h3 x A y B ih2 (ih (y :: B))
/-- None stands ahead of one that it is behind of. -/
def Srt (lt : α → α → Bool) (l : List α) : Prop := l.Pairwise (fun a b => lt b a = false)
/-- An order in which some may be alike. -/
def Ord (lt : α → α → Bool) : Prop := (∀ x y z, lt x y = true → lt y z = true → lt x z = true) ∧ (∀ x y z, lt x y = false → lt y z = false → lt x z = false) ∧ ∀ x, lt x x = false
variable {lt : α → α → Bool}
theorem Ord.as (ho : Ord lt) {u v : α} (h : lt u v = true) : lt v u = false := by
  cases h2 : lt v u with
  | false => rfl
  | true =>
    have h3 := ho.1 u v u h h2
    rw [ho.2.2 u] at h3
    cases h3
theorem mrg_nil (B : List α) : mrg lt [] B = B := rfl
theorem mrg_nil' (A : List α) : mrg lt A [] = A := by cases A <;> rfl
theorem mrg_cons (x y : α) (A B : List α) : mrg lt (x :: A) (y :: B) = if lt y x = true then y :: mrg lt (x :: A) B else x :: mrg lt A (y :: B) := rfl
theorem mrg_mem : ∀ (A B : List α) (z : α), z ∈ mrg lt A B ↔ z ∈ A ∨ z ∈ B := by
  refine two_ind (fun B z => ?_) (fun x A z => ?_) (fun x A y B i1 i2 z => ?_)
  · rw [mrg_nil]; simp
  · rw [mrg_nil']; simp
  · skip
    rw [mrg_cons]
    split
    · rw [List.mem_cons, i1 z, List.mem_cons, List.mem_cons]
      constructor
      · rintro (h | (h | h) | h)
        · exact .inr (.inl h)
        · exact .inl (.inl h)
        · exact .inl (.inr h)
        · exact .inr (.inr h)
      · rintro ((h | h) | h | h)
        · exact .inr (.inl (.inl h))
        · exact .inr (.inl (.inr h))
        · exact .inl h
        · exact .inr (.inr h)
    · rw [List.mem_cons, i2 z, List.mem_cons, List.mem_cons]
      constructor
      · rintro (h | h | h | h)
        · exact .inl (.inl h)
        · exact .inl (.inr h)
        · exact .inr (.inl h)
        · exact .inr (.inr h)
      · rintro ((h | h) | h | h)
        · exact .inl h
        · exact .inr (.inl h)
        · exact .inr (.inr (.inl h))
        · exact .inr (.inr (.inr h))
theorem mrg_len : ∀ (A B : List α), (mrg lt A B).length = A.length + B.length := by
  refine two_ind (fun B => ?_) (fun x A => ?_) (fun x A y B i1 i2 => ?_)
  · rw [mrg_nil]; simp
  · rw [mrg_nil']; simp
  · skip
    rw [mrg_cons]
    split
    · rw [List.length_cons, i1, List.length_cons, List.length_cons]; omega
    · rw [List.length_cons, i2, List.length_cons, List.length_cons]; omega
theorem mrg_srt (ho : Ord lt) : ∀ (A B : List α), Srt lt A → Srt lt B → Srt lt (mrg lt A B) := by
  refine two_ind (fun B _ hB => ?_) (fun x A hA _ => ?_) (fun x A y B i1 i2 hA hB => ?_)
  · rw [mrg_nil]; exact hB
  · rw [mrg_nil']; exact hA
  · skip
    have hA' := List.pairwise_cons.1 hA
    have hB' := List.pairwise_cons.1 hB
    rw [mrg_cons]
    split
    · rename_i h
      refine List.pairwise_cons.2 ⟨fun z hz => ?_, i1 hA hB'.2⟩
      rcases (mrg_mem _ _ z).1 hz with hz | hz
      · rcases List.mem_cons.1 hz with rfl | hz
        · exact ho.as h
        · exact ho.2.1 z x y (hA'.1 z hz) (ho.as h)
      · exact hB'.1 z hz
    · rename_i h
      have h' : lt y x = false := by simpa using h
      refine List.pairwise_cons.2 ⟨fun z hz => ?_, i2 hA'.2 hB⟩
      rcases (mrg_mem _ _ z).1 hz with hz | hz
      · exact hA'.1 z hz
      · rcases List.mem_cons.1 hz with rfl | hz
        · exact h'
        · exact ho.2.1 z y x (hB'.1 z hz) h'
/-- What is all ahead goes ahead: the first list's, of those alike. -/
theorem mrg_ahead : ∀ (A B : List α), (∀ x ∈ A, ∀ y ∈ B, lt y x = false) → mrg lt A B = A ++ B := by
  refine two_ind (fun B _ => ?_) (fun x A _ => ?_) (fun x A y B i1 i2 h => ?_)
  · rw [mrg_nil]; rfl
  · rw [mrg_nil']; simp
  · skip
    rw [mrg_cons, h x (by simp) y (by simp), if_neg (by simp), i2 (fun u hu v hv => h u (by simp [hu]) v hv)]
    rfl
theorem mrg_behind : ∀ (A B : List α), (∀ x ∈ A, ∀ y ∈ B, lt y x = true) → mrg lt A B = B ++ A := by
  refine two_ind (fun B _ => ?_) (fun x A _ => ?_) (fun x A y B i1 i2 h => ?_)
  · rw [mrg_nil]; simp
  · rw [mrg_nil']; rfl
  · skip
    rw [mrg_cons, if_pos (h x (by simp) y (by simp)), i1 (fun u hu v hv => h u hu v (by simp [hv]))]
    rfl
/-- Cut at a place: both parts merged by themselves. -/
theorem cut_nil (A2 B2 : List α) : ∀ B1 : List α, (∀ x ∈ A2, ∀ y ∈ B1, lt y x = true) → mrg lt A2 (B1 ++ B2) = B1 ++ mrg lt A2 B2
  | [], _ => rfl
  | y :: B1, h => by
    have ih := cut_nil A2 B2 B1 (fun u hu v hv => h u hu v (by simp [hv]))
    cases A2 with
    | nil => rw [mrg_nil, mrg_nil]
    | cons x A2 => rw [List.cons_append, mrg_cons, if_pos (h x (by simp) y (by simp)), ih]; rfl
theorem cut_nil' (A2 B2 : List α) : ∀ A1 : List α, (∀ x ∈ A1, ∀ y ∈ B2, lt y x = false) → mrg lt (A1 ++ A2) B2 = A1 ++ mrg lt A2 B2
  | [], _ => rfl
  | x :: A1, h => by
    have ih := cut_nil' A2 B2 A1 (fun u hu v hv => h u (by simp [hu]) v hv)
    cases B2 with
    | nil => rw [mrg_nil', mrg_nil']
    | cons y B2 => rw [List.cons_append, mrg_cons, h x (by simp) y (by simp), if_neg (by simp), ih]; rfl
theorem mrg_cut (A1 B1 A2 B2 : List α) : (∀ x ∈ A1, ∀ y ∈ B2, lt y x = false) → (∀ x ∈ A2, ∀ y ∈ B1, lt y x = true) → mrg lt (A1 ++ A2) (B1 ++ B2) = mrg lt A1 B1 ++ mrg lt A2 B2 := by
  refine two_ind (P := fun A1 B1 => (∀ x ∈ A1, ∀ y ∈ B2, lt y x = false) → (∀ x ∈ A2, ∀ y ∈ B1, lt y x = true) → mrg lt (A1 ++ A2) (B1 ++ B2) = mrg lt A1 B1 ++ mrg lt A2 B2) (fun B1 _ h2 => ?_) (fun x A1 h1 _ => ?_) (fun x A1 y B1 i1 i2 h1 h2 => ?_) A1 B1
  · rw [mrg_nil, List.nil_append]; exact cut_nil A2 B2 B1 h2
  · rw [mrg_nil', List.nil_append]; exact cut_nil' A2 B2 (x :: A1) h1
  · simp only [List.cons_append]
    rw [mrg_cons, mrg_cons]
    split
    · have ih := i1 h1 (fun u hu v hv => h2 u hu v (by simp [hv]))
      simp only [List.cons_append] at ih
      rw [ih]
      rfl
    · have ih := i2 (fun u hu v hv => h1 u (by simp [hu]) v hv) h2
      simp only [List.cons_append] at ih
      rw [ih]
      rfl
/-- Put in, behind those that are alike: the list up to the place, it, and the rest. -/
theorem mrg_one (l1 l2 : List α) (x : α) (h1 : ∀ y ∈ l1, lt x y = false) (h2 : ∀ y ∈ l2, lt x y = true) : mrg lt (l1 ++ l2) [x] = l1 ++ x :: l2 := by
  have h := mrg_cut (lt := lt) l1 [] l2 [x] (fun u hu v hv => by rw [List.mem_singleton.1 hv]; exact h1 u hu) (fun u hu v hv => by cases hv)
  rw [List.nil_append, mrg_nil'] at h
  rw [h, mrg_behind l2 [x] (fun u hu v hv => by rw [List.mem_singleton.1 hv]; exact h2 u hu)]
  rfl
theorem mrg_assoc (ho : Ord lt) (A B C : List α) : mrg lt (mrg lt A B) C = mrg lt A (mrg lt B C) := by
  refine two_ind (P := fun A B => ∀ C, mrg lt (mrg lt A B) C = mrg lt A (mrg lt B C)) (fun B C => ?_) (fun x A C => ?_) (fun x A y B j1 j2 C => ?_) A B C
  · rw [mrg_nil, mrg_nil]
  · rw [mrg_nil', mrg_nil]
  induction C with
  | nil => rw [mrg_nil', mrg_nil']
  | cons z C i3 =>
    have i1 := j1 (z :: C)
    have i2 := j2 (z :: C)
    rw [mrg_cons x y A B, mrg_cons y z B C]
    rw [mrg_cons x y A B] at i3
    rw [mrg_cons y z B C] at i2
    cases hyx : lt y x with
    | true =>
      rw [hyx, if_pos rfl] at i3
      rw [if_pos rfl, mrg_cons]
      cases hzy : lt z y with
      | true =>
        rw [if_pos rfl, if_pos rfl, i3, mrg_cons x z, if_pos (ho.1 z y x hzy hyx)]
      | false =>
        rw [if_neg (by simp), if_neg (by simp), i1, mrg_cons x y, if_pos hyx]
    | false =>
      rw [hyx, if_neg (by simp)] at i3
      rw [if_neg (by simp), mrg_cons]
      cases hzy : lt z y with
      | true =>
        rw [hzy, if_pos rfl] at i2
        rw [if_pos rfl, mrg_cons x z]
        cases hzx : lt z x with
        | true => rw [if_pos rfl, if_pos rfl, i3]
        | false => rw [if_neg (by simp), if_neg (by simp), i2]
      | false =>
        rw [hzy, if_neg (by simp)] at i2
        rw [ho.2.1 z y x hzy hyx, if_neg (by simp), if_neg (by simp), mrg_cons x y, hyx, if_neg (by simp), i2]
/-- Sorted by putting in one by one. -/
def srt (lt : α → α → Bool) (l : List α) : List α := l.foldl (fun acc x => mrg lt acc [x]) []
theorem srt_from (ho : Ord lt) : ∀ (l acc : List α), l.foldl (fun acc x => mrg lt acc [x]) acc = mrg lt acc (srt lt l)
  | [], acc => by rw [srt, List.foldl_nil, List.foldl_nil, mrg_nil']
  | x :: r, acc => by
    have h := srt_from ho r [x]
    rw [srt, List.foldl_cons, List.foldl_cons, srt_from ho r (mrg lt acc [x]), mrg_nil, h, mrg_assoc ho]
theorem srt_app (ho : Ord lt) (l m : List α) : srt lt (l ++ m) = mrg lt (srt lt l) (srt lt m) := by
  rw [srt, List.foldl_append, srt_from ho m]
  rfl
theorem srt_srt (ho : Ord lt) : ∀ (l : List α), Srt lt (srt lt l)
  | [] => List.Pairwise.nil
  | x :: r => by
    have h : srt lt (x :: r) = mrg lt [x] (srt lt r) := by
      have := srt_app ho [x] r
      rwa [show srt lt [x] = [x] by simp [srt, mrg_nil]] at this
    rw [h]
    exact mrg_srt ho _ _ (List.pairwise_singleton _ _) (srt_srt ho r)
theorem srt_mem (ho : Ord lt) : ∀ (l : List α) (z : α), z ∈ srt lt l ↔ z ∈ l
  | [], z => by simp [srt]
  | x :: r, z => by
    have h : srt lt (x :: r) = mrg lt [x] (srt lt r) := by
      have := srt_app ho [x] r
      rwa [show srt lt [x] = [x] by simp [srt, mrg_nil]] at this
    rw [h, mrg_mem, srt_mem ho r z]
    simp
theorem srt_len (ho : Ord lt) : ∀ (l : List α), (srt lt l).length = l.length
  | [] => rfl
  | x :: r => by
    have h : srt lt (x :: r) = mrg lt [x] (srt lt r) := by
      have := srt_app ho [x] r
      rwa [show srt lt [x] = [x] by simp [srt, mrg_nil]] at this
    rw [h, mrg_len, srt_len ho r]
    simp; omega
end
end Go.Proofs.Ytooggheoaglbeaa

/- Rows of an array turned in place, told by lists: an exchange, a run of exchanges, a rotation, putting in one by one, blocks. -/
namespace Go.Proofs.Ytooggheoaglbeaa
open Go.Sort
set_option linter.unusedVariables false
theorem arr_of {α : Type} {d : Array α} {l : List α} (h : d.toList = l) : d = l.toArray := by cases d; simp at h; subst h; rfl
section
variable {α : Type} [Inhabited α]

theorem get_mid {d : Array α} {X Y : List α} {x : α} (h : d.toList = X ++ x :: Y) {i : Nat} (hi : i = X.length) : d[i]! = x := by
  rw [arr_of h, hi]
  simp
/-- What stands in a part is one of its members. -/
theorem get_mem {d : Array α} {X Y Z : List α} (h : d.toList = X ++ Y ++ Z) {i : Nat} (h1 : X.length ≤ i) (h2 : i < X.length + Y.length) : d[i]! ∈ Y := by
  obtain ⟨j, rfl⟩ : ∃ j, i = X.length + j := ⟨i - X.length, by omega⟩
  have hj : j < Y.length := by omega
  have e : Y = Y.take j ++ Y[j] :: Y.drop (j + 1) := by simp
  have h3 : d.toList = (X ++ Y.take j) ++ Y[j] :: (Y.drop (j + 1) ++ Z) := by
    rw [h, List.append_assoc X (Y.take j), ← List.cons_append, ← List.append_assoc (Y.take j), ← e]
    simp
  rw [get_mid h3 (by simp; omega)]
  exact List.getElem_mem hj
theorem swp_comm (d : Array α) (i j : Nat) : swp d i j = swp d j i := by
  unfold swp
  rcases Nat.decEq i j with h | h
  · exact Array.setIfInBounds_comm _ _ h
  · subst h; rfl
theorem swp_list {d : Array α} {X Y Z : List α} {x y : α} (h : d.toList = X ++ x :: (Y ++ y :: Z)) {i j : Nat} (hi : i = X.length) (hj : j = X.length + 1 + Y.length) : (swp d i j).toList = X ++ y :: (Y ++ x :: Z) := by
  have g1 : d[i]! = x := get_mid h hi
  have g2 : d[j]! = y := get_mid (X := X ++ x :: Y) (Y := Z) (by rw [h]; simp) (by simp; omega)
  unfold swp
  rw [g1, g2, Array.toList_setIfInBounds, Array.toList_setIfInBounds, h, hi, hj]
  rw [List.set_append_right _ _ (Nat.le_refl _), Nat.sub_self, List.set_cons_zero, List.set_append_right _ _ (by omega)]
  rw [show X.length + 1 + Y.length - X.length = Y.length + 1 by omega, List.set_cons_succ, List.set_append_right _ _ (Nat.le_refl _), Nat.sub_self, List.set_cons_zero]
/-- A run of exchanges, from the i-th on. -/
def swRf (a b : Nat) : Nat → Nat → Array α → Array α
  | 0, _, d => d
  | k + 1, i, d => swRf a b k (i + 1) (swp d (a + i) (b + i))
def swR (a b n i : Nat) (d : Array α) : Array α := swRf a b (n - i) i d
theorem swR_go (a b n i : Nat) (d : Array α) (h : i < n) : swR a b n i d = swR a b n (i + 1) (swp d (a + i) (b + i)) := by
  unfold swR
  rw [show n - i = n - (i + 1) + 1 by omega]
  rfl
theorem swR_end (a b n i : Nat) (d : Array α) (h : ¬ i < n) : swR a b n i d = d := by
  unfold swR
  rw [show n - i = 0 by omega]
  rfl
theorem swR_list : ∀ (U V P Q S : List α) (d : Array α) (a b n i : Nat), d.toList = P ++ U ++ Q ++ V ++ S → U.length = V.length → a + i = P.length → n = i + U.length → b + i = P.length + U.length + Q.length →
    (swR a b n i d).toList = P ++ V ++ Q ++ U ++ S
  | [], V, P, Q, S, d, a, b, n, i, h, hl, ha, hn, hb => by
    obtain rfl : V = [] := List.eq_nil_of_length_eq_zero (by simpa using hl.symm)
    rw [swR_end _ _ _ _ _ (by simp at hn; omega), h]
  | u :: U, [], P, Q, S, d, a, b, n, i, h, hl, ha, hn, hb => by simp at hl
  | u :: U, v :: V, P, Q, S, d, a, b, n, i, h, hl, ha, hn, hb => by
    simp only [List.length_cons] at hl hn hb
    rw [swR_go _ _ _ _ _ (by omega)]
    have h1 : (swp d (a + i) (b + i)).toList = P ++ v :: ((U ++ Q) ++ u :: (V ++ S)) := swp_list (Y := U ++ Q) (Z := V ++ S) (by rw [h]; simp) ha (by simp; omega)
    have h2 := swR_list U V (P ++ [v]) (Q ++ [u]) S (swp d (a + i) (b + i)) a b n (i + 1) (by rw [h1]; simp) (by omega) (by simp; omega) (by omega) (by simp; omega)
    rw [h2]
    simp
theorem swR_size : ∀ (k a b n i : Nat) (d : Array α), n - i = k → (swR a b n i d).size = d.size
  | 0, a, b, n, i, d, h => by rw [swR_end _ _ _ _ _ (by omega)]
  | k + 1, a, b, n, i, d, h => by rw [swR_go _ _ _ _ _ (by omega), swR_size k _ _ _ _ _ (by omega), size_swp]
/-- A rotation: i of them ahead of the place m, j behind it. -/
def rotF (m : Nat) : Nat → Nat → Nat → Array α → Array α
  | 0, _, _, d => d
  | k + 1, i, j, d => if i = j then swR (m - i) m i 0 d else if j < i then (if j = 0 then d else rotF m k (i - j) j (swR (m - i) m j 0 d)) else if i = 0 then d else rotF m k i (j - i) (swR (m - i) (m + j - i) i 0 d)
theorem rotF_any (m : Nat) : ∀ (k k' i j : Nat) (d : Array α), i + j < k → i + j < k' → rotF m k i j d = rotF m k' i j d
  | 0, k', i, j, d, h, h' => by omega
  | k + 1, 0, i, j, d, h, h' => by omega
  | k + 1, k' + 1, i, j, d, h, h' => by
    unfold rotF
    by_cases h1 : i = j
    · rw [if_pos h1, if_pos h1]
    · rw [if_neg h1, if_neg h1]
      by_cases h2 : j < i
      · rw [if_pos h2, if_pos h2]
        by_cases h3 : j = 0
        · rw [if_pos h3, if_pos h3]
        · rw [if_neg h3, if_neg h3]
          exact rotF_any m k k' (i - j) j _ (by omega) (by omega)
      · rw [if_neg h2, if_neg h2]
        by_cases h3 : i = 0
        · rw [if_pos h3, if_pos h3]
        · rw [if_neg h3, if_neg h3]
          exact rotF_any m k k' i (j - i) _ (by omega) (by omega)
def rotR (m i j : Nat) (d : Array α) : Array α := rotF m (i + j + 1) i j d
theorem rotR_end (m i : Nat) (d : Array α) : rotR m i i d = swR (m - i) m i 0 d := by
  unfold rotR rotF
  rw [if_pos rfl]
theorem rotR_gt (m i j : Nat) (d : Array α) (h : j < i) (h0 : 0 < j) : rotR m i j d = rotR m (i - j) j (swR (m - i) m j 0 d) := by
  unfold rotR
  rw [rotF, if_neg (by omega), if_pos h, if_neg (by omega)]
  exact rotF_any m _ _ _ _ _ (by omega) (by omega)
theorem rotR_lt (m i j : Nat) (d : Array α) (h : i < j) (h0 : 0 < i) : rotR m i j d = rotR m i (j - i) (swR (m - i) (m + j - i) i 0 d) := by
  unfold rotR
  rw [rotF, if_neg (by omega), if_neg (by omega), if_neg (by omega)]
  exact rotF_any m _ _ _ _ _ (by omega) (by omega)
theorem rotR_none (m i j : Nat) (d : Array α) (h : i ≠ j) (h0 : i = 0 ∨ j = 0) : rotR m i j d = d := by
  unfold rotR
  rw [rotF, if_neg h]
  by_cases h1 : j < i
  · rw [if_pos h1, if_pos (by omega)]
  · rw [if_neg h1, if_pos (by omega)]
theorem rotR_list : ∀ (N i j : Nat) (P U V S : List α) (d : Array α) (m : Nat), i + j ≤ N → 0 < i → 0 < j → d.toList = P ++ U ++ V ++ S → U.length = i → V.length = j → m = P.length + i → (rotR m i j d).toList = P ++ V ++ U ++ S
  | 0, i, j, P, U, V, S, d, m, hN, hi, hj, h, hU, hV, hm => by omega
  | N + 1, i, j, P, U, V, S, d, m, hN, hi, hj, h, hU, hV, hm => by
    rcases Nat.lt_trichotomy i j with hlt | heq | hgt
    · rw [rotR_lt _ _ _ _ hlt hi]
      have e' : V.take (j - i) ++ V.drop (j - i) = V := List.take_append_drop _ _
      have h1 := swR_list U (V.drop (j - i)) P (V.take (j - i)) S d (m - i) (m + j - i) i 0 (by rw [h, List.append_assoc (P ++ U) (V.take (j - i)), e']) (by simp; omega) (by omega) (by omega) (by simp; omega)
      have h2 := rotR_list N i (j - i) P (V.drop (j - i)) (V.take (j - i)) (U ++ S) _ m (by omega) hi (by omega) (by rw [h1]; simp) (by simp; omega) (by simp; omega) hm
      rw [h2, List.append_assoc P (V.take (j - i)), e', List.append_assoc, List.append_assoc, List.append_assoc]
    · subst heq
      rw [rotR_end]
      have h1 := swR_list U V P [] S d (m - i) m i 0 (by rw [h]; simp) (by omega) (by omega) (by omega) (by simp; omega)
      rw [h1]
      simp
    · rw [rotR_gt _ _ _ _ hgt hj]
      have e' : U.take j ++ U.drop j = U := List.take_append_drop _ _
      have h1 := swR_list (U.take j) V P (U.drop j) S d (m - i) m j 0 (by rw [h, List.append_assoc P (U.take j), e']) (by simp; omega) (by omega) (by simp; omega) (by simp; omega)
      have h2 := rotR_list N (i - j) j (P ++ V) (U.drop j) (U.take j) S _ m (by omega) (by omega) hj (by rw [h1]) (by simp; omega) (by simp; omega) (by simp; omega)
      rw [h2, List.append_assoc (P ++ V), e']
variable {lt : α → α → Bool}
/-- Put in, by exchanges. -/
theorem ins_list (ho : Ord lt) : ∀ (n : Nat) (P Q S : List α) (x : α) (d : Array α) (a j : Nat), Q.length = n → d.toList = P ++ Q ++ x :: S → a = P.length → j = P.length + Q.length → Srt lt Q → (insInner lt a j d).toList = P ++ mrg lt Q [x] ++ S
  | 0, P, Q, S, x, d, a, j, hn, h, ha, hj, hs => by
    obtain rfl : Q = [] := List.eq_nil_of_length_eq_zero hn
    have e : insInner lt a j d = d := by
      cases j with
      | zero => rfl
      | succ j => rw [insInner]; simp at hj; simp; omega
    rw [e, h, mrg_nil]
    simp
  | n + 1, P, Q, S, x, d, a, j, hn, h, ha, hj, hs => by
    obtain ⟨Q', q, rfl⟩ : ∃ Q' q, Q = Q' ++ [q] := by
      rcases List.eq_nil_or_concat Q with h0 | ⟨Q', q, h0⟩
      · rw [h0] at hn; simp at hn
      · exact ⟨Q', q, by simpa using h0⟩
    simp only [List.length_append, List.length_singleton] at hn hj
    obtain ⟨j', rfl⟩ : ∃ j', j = j' + 1 := ⟨j - 1, by omega⟩
    have g1 : d[j' + 1]! = x := get_mid (X := P ++ (Q' ++ [q])) (Y := S) h (by simp; omega)
    have g2 : d[j']! = q := get_mid (X := P ++ Q') (Y := x :: S) (by rw [h]; simp) (by simp; omega)
    have hs' : Srt lt Q' := (List.pairwise_append.1 hs).1
    have hq : ∀ y ∈ Q', lt q y = false := fun y hy => (List.pairwise_append.1 hs).2.2 y hy q (by simp)
    rw [insInner, g1, g2]
    cases hx : lt x q with
    | true =>
      rw [if_pos (by simp; omega)]
      have h1 : (swp d (j' + 1) j').toList = (P ++ Q') ++ x :: ([] ++ q :: S) := by
        rw [swp_comm]
        exact swp_list (X := P ++ Q') (Y := []) (Z := S) (x := q) (y := x) (by rw [h]; simp) (by simp; omega) (by simp; omega)
      rw [ins_list ho n P Q' (q :: S) x (swp d (j' + 1) j') a j' (by omega) (by rw [h1]; simp) ha (by omega) hs']
      have hc := mrg_cut (lt := lt) Q' [x] [q] [] (fun _ _ v hv => by cases hv) (fun u hu v hv => by rw [List.mem_singleton.1 hu, List.mem_singleton.1 hv]; exact hx)
      rw [List.append_nil, mrg_nil'] at hc
      rw [hc]
      simp
    | false =>
      rw [if_neg (by simp), h]
      rw [mrg_ahead (Q' ++ [q]) [x] (fun u hu v hv => by
        rw [List.mem_singleton.1 hv]
        rcases List.mem_append.1 hu with hu | hu
        · exact ho.2.1 x q u hx (hq u hu)
        · rw [List.mem_singleton.1 hu]; exact hx)]
      simp
theorem insO_list (ho : Ord lt) : ∀ (R P Q S : List α) (d : Array α) (a b i : Nat), d.toList = P ++ Q ++ R ++ S → a = P.length → i = P.length + Q.length → b = i + R.length → Srt lt Q → (insOuter lt a b i d).toList = P ++ R.foldl (fun acc x => mrg lt acc [x]) Q ++ S
  | [], P, Q, S, d, a, b, i, h, ha, hi, hb, hs => by
    rw [insOuter, if_neg (by simp at hb; omega), h]
    simp
  | x :: R, P, Q, S, d, a, b, i, h, ha, hi, hb, hs => by
    simp only [List.length_cons] at hb
    rw [insOuter, if_pos (by omega)]
    have h1 := ins_list ho Q.length P Q (R ++ S) x d a i rfl (by rw [h]; simp) ha hi hs
    rw [insO_list ho R P (mrg lt Q [x]) S _ a b (i + 1) (by rw [h1]; simp) ha (by rw [mrg_len]; simp; omega) (by omega) (mrg_srt ho _ _ hs (List.pairwise_singleton _ _))]
    rfl
/-- What the insertion sort of a part does. -/
theorem insort_list (ho : Ord lt) (P Q S : List α) (d : Array α) (a b : Nat) (h : d.toList = P ++ Q ++ S) (ha : a = P.length) (hb : b = a + Q.length) : (insertionSort lt d a b).toList = P ++ srt lt Q ++ S := by
  cases Q with
  | nil =>
    simp only [List.length_nil] at hb
    rw [insertionSort, insOuter, if_neg (by omega), h]
    rfl
  | cons x R =>
    simp only [List.length_cons] at hb
    rw [insertionSort, insO_list ho R P [x] S d a b (a + 1) (by rw [h]; simp) ha (by simp; omega) (by omega) (List.pairwise_singleton _ _)]
    rw [srt, List.foldl_cons, mrg_nil]
end
section
variable {α : Type} {lt : α → α → Bool}
/-- A list whose blocks of B are sorted each by itself. -/
def srtF (lt : α → α → Bool) (B : Nat) : Nat → List α → List α
  | 0, l => srt lt l
  | k + 1, l => if l.length ≤ B then srt lt l else srt lt (l.take B) ++ srtF lt B k (l.drop B)
theorem srtF_any (B : Nat) (h0 : 0 < B) : ∀ (k k' : Nat) (l : List α), l.length ≤ k → l.length ≤ k' → srtF lt B k l = srtF lt B k' l
  | 0, 0, l, _, _ => rfl
  | 0, k' + 1, l, h, _ => by
    unfold srtF
    rw [if_pos (by omega)]
  | k + 1, 0, l, _, h => by
    unfold srtF
    rw [if_pos (by omega)]
  | k + 1, k' + 1, l, h, h' => by
    unfold srtF
    by_cases h1 : l.length ≤ B
    · rw [if_pos h1, if_pos h1]
    · rw [if_neg h1, if_neg h1, srtF_any B h0 k k' (l.drop B) (by simp; omega) (by simp; omega)]
def srtB (lt : α → α → Bool) (B : Nat) (l : List α) : List α := srtF lt B l.length l
theorem srtB_small (B : Nat) (l : List α) (h : l.length ≤ B) : srtB lt B l = srt lt l := by
  unfold srtB
  cases hl : l.length with
  | zero => rfl
  | succ n =>
    unfold srtF
    rw [if_pos h]
theorem srt_nil' : srt lt ([] : List α) = [] := rfl
theorem srtB_next (B : Nat) (l : List α) (h0 : 0 < B) (h : B ≤ l.length) : srtB lt B l = srt lt (l.take B) ++ srtB lt B (l.drop B) := by
  rcases Nat.lt_or_ge B l.length with h1 | h1
  · have e : srtB lt B l = srtF lt B (l.length + 1) l := srtF_any B h0 _ _ l (Nat.le_refl _) (by omega)
    rw [e]
    unfold srtB
    rw [srtF, if_neg (by omega), srtF_any B h0 l.length (l.drop B).length (l.drop B) (by simp) (Nat.le_refl _)]
  · rw [srtB_small B l h1, List.take_of_length_le h1, List.drop_eq_nil_of_le h1, srtB_small B [] (by simp), srt_nil', List.append_nil]
/-- The whole of the first two blocks, merged. -/
theorem srt_two (ho : Ord lt) (B : Nat) (l : List α) : mrg lt (srt lt (l.take B)) (srt lt ((l.drop B).take B)) = srt lt (l.take (2 * B)) := by
  rw [← srt_app ho, show 2 * B = B + B by omega, List.take_add]
end
end Go.Proofs.Ytooggheoaglbeaa

/- What 'slices.swapRangeCmpFunc' and 'slices.rotateCmpFunc' do at events: said of any program that has these bodies. -/
namespace Go.Proofs.Ytooggheoaglbeaa
open Go.Shelf Go.RowKit Go.Lib Go.Sort
set_option linter.unusedVariables false

/-- The types that a sort of events meets. -/
structure TyE (P : Program) (k : Nat) : Prop where
  mixed : P.follows .mixedOrders = true
  t0 : P.underlying 0 = some (TypeDesc.tuple #[])
  a0 : ∀ w, (isAgg 0).run P w = .ok false w
  z0 : ∀ w, (Go.sizeOf 0).run P w = .ok 1 w
  v0 : ∀ w, (zeroValue 0).run P w = .ok (Value.tuple #[]) w
  t3 : P.underlying 3 = some (TypeDesc.int IntKind.i64)
  a3 : ∀ w, (isAgg 3).run P w = .ok false w
  z3 : ∀ w, (Go.sizeOf 3).run P w = .ok 1 w
  v3 : ∀ w, (zeroValue 3).run P w = .ok (Value.int IntKind.i64 0) w
  t4 : P.underlying 4 = some (TypeDesc.bool)
  a4 : ∀ w, (isAgg 4).run P w = .ok false w
  z4 : ∀ w, (Go.sizeOf 4).run P w = .ok 1 w
  v4 : ∀ w, (zeroValue 4).run P w = .ok (Value.bool false) w
  tS : P.underlying 30 = some (TypeDesc.slice 28)
  aS : ∀ w, (isAgg 30).run P w = .ok false w
  zS : ∀ w, (Go.sizeOf 30).run P w = .ok 1 w
  vS : ∀ w, (zeroValue 30).run P w = .ok (Value.slice none 0 0) w
  tF : P.underlying 78 = some (TypeDesc.func #[28, 28] #[3] false)
  aF : ∀ w, (isAgg 78).run P w = .ok false w
  zF : ∀ w, (Go.sizeOf 78).run P w = .ok 1 w
  vF : ∀ w, (zeroValue 78).run P w = .ok (Value.nilFunc) w
  tU : P.underlying 124 = some (TypeDesc.int IntKind.u64)
  aU : ∀ w, (isAgg 124).run P w = .ok false w
  zU : ∀ w, (Go.sizeOf 124).run P w = .ok 1 w
  vU : ∀ w, (zeroValue 124).run P w = .ok (Value.int IntKind.u64 0) w
  aE : ∀ w, (isAgg 28).run P w = .ok true w
  zE : ∀ w, (Go.sizeOf 28).run P w = .ok k w
theorem tyE : TyE Try.prog 4 := ⟨by kernel_rfl, Try.underlying0, Try.isAgg0, Try.sizeOf0, Try.zeroValue0, Try.underlying3, Try.isAgg3, Try.sizeOf3, Try.zeroValue3, Try.underlying4, Try.isAgg4, Try.sizeOf4, Try.zeroValue4, Try.underlying30, Try.isAgg30, Try.sizeOf30, Try.zeroValue30, Try.underlying78, Try.isAgg78, Try.sizeOf78, Try.zeroValue78, Try.underlying124, Try.isAgg124, Try.sizeOf124, Try.zeroValue124, Try.isAgg28, Try.sizeOf28⟩
section
variable {P : Program} {α : Type} [Inhabited α]
set_option maxHeartbeats 4000000 in
set_option maxRecDepth 1000000 in
theorem swapRange_P {k : Nat} (Y : TyE P k) (FG : P.funcs[115]? = some Try.f115) (enc : α → List Value) (g : Nat) (cb : Array Value) (blk off cap a b n : Nat) (d0 d : Array α) (w0 w : World)
    (R : RowK enc k w0 blk off d0) (hs : d0.size = d.size) (S : SWK enc k w0 blk off d w) (hab : a + n ≤ b) (hb : b + n ≤ d.size) (hsz : d.size < 4611686018427387904) :
    Calls P 115 #[.slice (some ⟨blk, off, none⟩) d.size cap, .int .i64 a, .int .i64 b, .int .i64 n, .func (.func g) #[] cb] w fun e w' => e = .returned (.tuple #[]) ∧ SWK enc k w0 blk off (swR a b n 0 d) w' := by
  have mixed := Y.mixed; have t0 := Y.t0; have a0 := Y.a0; have z0 := Y.z0; have v0 := Y.v0; have t3 := Y.t3; have a3 := Y.a3; have z3 := Y.z3; have v3 := Y.v3; have t4 := Y.t4; have a4 := Y.a4; have z4 := Y.z4; have v4 := Y.v4; have tS := Y.tS; have aS := Y.aS; have zS := Y.zS; have vS := Y.vS; have tF := Y.tF; have aF := Y.aF; have zF := Y.zF; have vF := Y.vF; have tU := Y.tU; have aU := Y.aU; have zU := Y.zU; have vU := Y.vU; have aE := Y.aE; have zE := Y.zE
  have S0 : Aside (SWK enc k w0 blk off d w) := S
  clear S Y
  go_enter FG, Try.ntmps115
  go_wp2
  go_loopg [10] n (fun kx s10 wr => ∃ (i : Nat) (dk : Array α), s10 = .int .i64 i ∧ i ≤ n ∧ n - i ≤ kx ∧ dk.size = d.size ∧ Aside (SWK enc k w0 blk off dk wr) ∧ Hid (swR a b n i dk = swR a b n 0 d))
  case atStart => exact ⟨0, d, rfl, by omega, by omega, rfl, S0, rfl⟩
  case round =>
    clear S0
    obtain ⟨i, dk, rfl, hin, hkx, hds, S1, heq⟩ := hrel
    by_cases hlt : i < n
    · have hltz : (i : Int) < (n : Int) := by omega
      go_wp2_with fail
      have ea1 : ((a : Int) + (i : Int)).toNat = a + i := by omega
      have pa1 : (0 : Int) ≤ (a : Int) + (i : Int) := by omega
      have ba1 : (a : Int) + (i : Int) < (d.size : Int) := by omega
      have ra1 : IntKind.i64.wrap ((a : Int) + (i : Int)) = (a : Int) + (i : Int) := by rw [IntKind.wrap_i64]; omega
      have ec1 : ((b : Int) + (i : Int)).toNat = b + i := by omega
      have pc1 : (0 : Int) ≤ (b : Int) + (i : Int) := by omega
      have bc1 : (b : Int) + (i : Int) < (d.size : Int) := by omega
      have rc1 : IntKind.i64.wrap ((b : Int) + (i : Int)) = (b : Int) + (i : Int) := by rw [IntKind.wrap_i64]; omega
      have S2 : Aside (SWK enc k w0 blk off (swp dk (a + i) (b + i)) ((wr.drew.setCells blk (off + (a + i) * k) (enc dk[b + i]!)).setCells blk (off + (b + i) * k) (enc dk[a + i]!))) := S1.out.swapped R (a + i) (b + i) (by omega) (by omega)
      have l1a := S1.out.ld1 R (by omega) P (a + i) (by omega)
      have l1b := S1.out.ld1 R (by omega) P (b + i) (by omega)
      have s1a := S1.out.st1 R (by omega) P (a + i) (by omega) dk[b + i]!
      have s1b := S1.out.st2 R (by omega) P (a + i) (b + i) (by omega) (by omega) dk[b + i]! dk[a + i]!
      have n1a : (enc dk[a + i]!).length = k := R.hk _
      have n1b : (enc dk[b + i]!).length = k := R.hk _
      generalize enc dk[a + i]! = cI1 at S2 l1a s1b n1a
      generalize enc dk[b + i]! = cJ1 at S2 l1b s1a s1b n1b
      clear S1
      go_wp2_with fail
      go_big_region_o
      clear l1a l1b s1a s1b ea1 pa1 ba1 ra1 ec1 pc1 bc1 rc1 n1a n1b
      generalize (wr.drew.setCells blk (off + (a + i) * k) cJ1).setCells blk (off + (b + i) * k) cI1 = w2 at S2 ⊢
      go_wp2
      go_roundg (n - (i + 1))
      case measure => omega
      case rel => exact ⟨i + 1, swp dk (a + i) (b + i), by go_num, by omega, Nat.le_refl _, by rw [size_swp]; exact hds, S2, (show Hid _ from by rw [← swR_go a b n i dk hlt]; exact heq.out)⟩
    · have hltz : ¬ (i : Int) < (n : Int) := by omega
      go_wp2
      go_end0
      refine ⟨rfl, ?_⟩
      rw [← heq.out, swR_end a b n i dk hlt]
      exact S1.out
set_option maxHeartbeats 4000000 in
set_option maxRecDepth 1000000 in
theorem rotate_P {k : Nat} (Y : TyE P k) (F1 : P.funcs[115]? = some Try.f115) (FG : P.funcs[105]? = some Try.f105) (es : ∀ args w, (callFunc 115 args).run P w = .ok (.enter 115 args) w) (enc : α → List Value) (g : Nat) (cb : Array Value) (blk off cap a m b : Nat) (d0 d : Array α) (w0 w : World)
    (R : RowK enc k w0 blk off d0) (hs : d0.size = d.size) (S : SWK enc k w0 blk off d w) (ham : a < m) (hmb : m < b) (hb : b ≤ d.size) (hsz : d.size < 4611686018427387904) :
    Calls P 105 #[.slice (some ⟨blk, off, none⟩) d.size cap, .int .i64 a, .int .i64 m, .int .i64 b, .func (.func g) #[] cb] w fun e w' => e = .returned (.tuple #[]) ∧ SWK enc k w0 blk off (rotR m (m - a) (b - m) d) w' := by
  have mixed := Y.mixed; have t0 := Y.t0; have a0 := Y.a0; have z0 := Y.z0; have v0 := Y.v0; have t3 := Y.t3; have a3 := Y.a3; have z3 := Y.z3; have v3 := Y.v3; have t4 := Y.t4; have a4 := Y.a4; have z4 := Y.z4; have v4 := Y.v4; have tS := Y.tS; have aS := Y.aS; have zS := Y.zS; have vS := Y.vS; have tF := Y.tF; have aF := Y.aF; have zF := Y.zF; have vF := Y.vF; have tU := Y.tU; have aU := Y.aU; have zU := Y.zU; have vU := Y.vU; have aE := Y.aE; have zE := Y.zE
  have S0 : Aside (SWK enc k w0 blk off d w) := S
  have HS : Hid (∀ (x y n : Nat) (D : Array α) (W : World), D.size = d.size → SWK enc k w0 blk off D W → x + n ≤ y → y + n ≤ d.size → Calls P 115 #[.slice (some ⟨blk, off, none⟩) d.size cap, .int .i64 x, .int .i64 y, .int .i64 n, .func (.func g) #[] cb] W fun e w' => e = .returned (.tuple #[]) ∧ SWK enc k w0 blk off (swR x y n 0 D) w') := fun x y n D W hD T h1 h2 => by
    rw [← hD]
    exact swapRange_P Y F1 enc g cb blk off cap x y n d0 D w0 W R (by omega) T h1 (by omega) (by omega)
  clear S Y F1
  obtain ⟨p, hp⟩ : ∃ p, p = m - a := ⟨_, rfl⟩
  obtain ⟨q, hq⟩ : ∃ q, q = b - m := ⟨_, rfl⟩
  have ep : (m : Int) - (a : Int) = (p : Int) := by omega
  have eq : (b : Int) - (m : Int) = (q : Int) := by omega
  have rp : IntKind.i64.wrap (p : Int) = (p : Int) := by rw [IntKind.wrap_i64]; omega
  have rq : IntKind.i64.wrap (q : Int) = (q : Int) := by rw [IntKind.wrap_i64]; omega
  have hp1 : p + a ≤ m ∧ m ≤ p + a := by omega
  have hq1 : q + m ≤ b ∧ b ≤ q + m := by omega
  rw [← hp, ← hq]
  clear hp hq
  go_enter FG, Try.ntmps105
  go_wp2
  go_loopg [10, 11] (p + q) (fun kx s10 s11 wr => ∃ (i j : Nat) (dk : Array α), s10 = .int .i64 i ∧ s11 = .int .i64 j ∧ 0 < i ∧ 0 < j ∧ i ≤ p ∧ j ≤ q ∧ i + j ≤ kx ∧ dk.size = d.size ∧ Aside (SWK enc k w0 blk off dk wr) ∧ Hid (rotR m i j dk = rotR m p q d))
  case atStart => exact ⟨p, q, d, rfl, rfl, by omega, by omega, by omega, by omega, by omega, rfl, S0, rfl⟩
  case round =>
    clear S0
    obtain ⟨i, j, dk, rfl, rfl, hi0, hj0, hip, hjq, hkx, hds, S1, heq⟩ := hrel
    have emi : (m : Int) - (i : Int) = ((m - i : Nat) : Int) := by omega
    have rmi : IntKind.i64.wrap ((m - i : Nat) : Int) = ((m - i : Nat) : Int) := by rw [IntKind.wrap_i64]; omega
    rcases Nat.lt_trichotomy i j with hlt | hee | hgt
    · have h1 : (((i : Int) != (j : Int)) = true) := by rw [bne_iff_ne]; omega
      have h2 : ¬ (j : Int) < (i : Int) := by omega
      have h3 : decide ((i : Int) > (j : Int)) = false := decide_eq_false (by omega)
      have e4 : (m : Int) + (j : Int) - (i : Int) = ((m + j - i : Nat) : Int) := by omega
      have r4 : IntKind.i64.wrap ((m : Int) + (j : Int)) = (m : Int) + (j : Int) := by rw [IntKind.wrap_i64]; omega
      have r5 : IntKind.i64.wrap ((m + j - i : Nat) : Int) = ((m + j - i : Nat) : Int) := by rw [IntKind.wrap_i64]; omega
      have e6 : (j : Int) - (i : Int) = ((j - i : Nat) : Int) := by omega
      have r6 : IntKind.i64.wrap ((j - i : Nat) : Int) = ((j - i : Nat) : Int) := by rw [IntKind.wrap_i64]; omega
      go_wp2_with (go_at_call 115; refine (HS.out (m - i) (m + j - i) i dk _ hds S1.out (by omega) (by omega)).mono ?_; rintro e w2 ⟨rfl, S2⟩)
      go_roundg (i + (j - i))
      case measure => omega
      case rel => exact ⟨i, j - i, _, rfl, rfl, by omega, by omega, by omega, by omega, Nat.le_refl _, by rw [swR_size _ _ _ _ _ _ rfl]; exact hds, S2, (show Hid _ from by rw [← rotR_lt m i j dk hlt hi0]; exact heq.out)⟩
    · subst hee
      go_wp2_with (go_at_call 115; refine (HS.out (m - i) m i dk _ hds S1.out (by omega) (by omega)).mono ?_; rintro e w2 ⟨rfl, S2⟩)
      go_end0
      refine ⟨rfl, ?_⟩
      rw [← heq.out, rotR_end]
      exact S2
    · have h1 : (((i : Int) != (j : Int)) = true) := by rw [bne_iff_ne]; omega
      have h2 : (j : Int) < (i : Int) := by omega
      have e6 : (i : Int) - (j : Int) = ((i - j : Nat) : Int) := by omega
      have r6 : IntKind.i64.wrap ((i - j : Nat) : Int) = ((i - j : Nat) : Int) := by rw [IntKind.wrap_i64]; omega
      go_wp2_with (go_at_call 115; refine (HS.out (m - i) m j dk _ hds S1.out (by omega) (by omega)).mono ?_; rintro e w2 ⟨rfl, S2⟩)
      go_roundg (i - j + j)
      case measure => omega
      case rel => exact ⟨i - j, j, _, rfl, rfl, by omega, by omega, by omega, by omega, Nat.le_refl _, by rw [swR_size _ _ _ _ _ _ rfl]; exact hds, S2, (show Hid _ from by rw [← rotR_gt m i j dk hgt hj0]; exact heq.out)⟩
end
end Go.Proofs.Ytooggheoaglbeaa

/- Where a merge is cut: told by the two beside the cut; an element brought to its place by exchanges. -/
namespace Go.Proofs.Ytooggheoaglbeaa
open Go.Sort
set_option linter.unusedVariables false
section
variable {α : Type} {lt : α → α → Bool}
theorem srt_last (ho : Ord lt) {L : List α} (hs : Srt lt L) {z : α} (hz : L.getLast? = some z) : ∀ y ∈ L, lt z y = false := by
  obtain ⟨L', rfl⟩ : ∃ L', L = L' ++ [z] := by
    rcases List.eq_nil_or_concat L with h0 | ⟨L', q, h0⟩
    · rw [h0] at hz; simp at hz
    · rw [List.concat_eq_append] at h0
      rw [h0] at hz
      simp at hz
      exact ⟨L', by rw [h0, hz]⟩
  intro y hy
  rcases List.mem_append.1 hy with h | h
  · exact (List.pairwise_append.1 hs).2.2 y h z (by simp)
  · rw [List.mem_singleton.1 h]; exact ho.2.2 z
theorem srt_head (ho : Ord lt) {L : List α} (hs : Srt lt L) {z : α} (hz : L.head? = some z) : ∀ y ∈ L, lt y z = false := by
  cases L with
  | nil => simp at hz
  | cons q L =>
    simp at hz
    subst hz
    intro y hy
    rcases List.mem_cons.1 hy with h | h
    · rw [h]; exact ho.2.2 q
    · exact (List.pairwise_cons.1 hs).1 y h
/-- Two merged, cut where the two beside the cut say so. -/
theorem mrg_at (ho : Ord lt) (A1 A2 B1 B2 : List α) (hA : Srt lt (A1 ++ A2)) (hB : Srt lt (B1 ++ B2)) (h1 : A1 = [] ∨ B2 = [] ∨ ∃ x y, A1.getLast? = some x ∧ B2.head? = some y ∧ lt y x = false)
    (h2 : A2 = [] ∨ B1 = [] ∨ ∃ x y, A2.head? = some x ∧ B1.getLast? = some y ∧ lt y x = true) : mrg lt (A1 ++ A2) (B1 ++ B2) = mrg lt A1 B1 ++ mrg lt A2 B2 := by
  have a1 := (List.pairwise_append.1 hA).1
  have a2 := (List.pairwise_append.1 hA).2.1
  have b1 := (List.pairwise_append.1 hB).1
  have b2 := (List.pairwise_append.1 hB).2.1
  refine mrg_cut A1 B1 A2 B2 ?_ ?_
  · intro u hu v hv
    rcases h1 with h | h | ⟨x, y, hx, hy, hl⟩
    · rw [h] at hu; cases hu
    · rw [h] at hv; cases hv
    · exact ho.2.1 v x u (ho.2.1 v y x (srt_head ho b2 hy v hv) hl) (srt_last ho a1 hx u hu)
  · intro u hu v hv
    rcases h2 with h | h | ⟨x, y, hx, hy, hl⟩
    · rw [h] at hu; cases hu
    · rw [h] at hv; cases hv
    · cases hvu : lt v u with
      | true => rfl
      | false =>
        have := ho.2.1 y u x (ho.2.1 y v u (srt_last ho b1 hy v hv) hvu) (srt_head ho a2 hx u hu)
        rw [hl] at this
        cases this
end
section
variable {α : Type} [Inhabited α] {lt : α → α → Bool}
/-- The last one ahead of a place in a part, and the first one behind it. -/
theorem part_last {d : Array α} {X L Y : List α} (h : d.toList = X ++ L ++ Y) {p t i : Nat} (hp : X.length = p) (ht : t ≤ L.length) (h0 : 0 < t) (hi : i + 1 = p + t) : (L.take t).getLast? = some d[i]! := by
  obtain ⟨u, rfl⟩ : ∃ u, t = u + 1 := ⟨t - 1, by omega⟩
  have hu : u < L.length := by omega
  have e : L.take (u + 1) = L.take u ++ [L[u]] := by simp
  have h3 : d.toList = (X ++ L.take u) ++ L[u] :: (L.drop (u + 1) ++ Y) := by
    have e2 : L = L.take u ++ L[u] :: L.drop (u + 1) := by simp
    rw [h, List.append_assoc X (L.take u), ← List.cons_append, ← List.append_assoc (L.take u), ← e2]
    simp
  rw [get_mid h3 (by simp; omega), e, List.getLast?_append]
  rfl
theorem part_head {d : Array α} {X L Y : List α} (h : d.toList = X ++ L ++ Y) {p t i : Nat} (hp : X.length = p) (ht : t < L.length) (hi : i = p + t) : (L.drop t).head? = some d[i]! := by
  have e : L.drop t = L[t] :: L.drop (t + 1) := by simp
  have h3 : d.toList = (X ++ L.take t) ++ L[t] :: (L.drop (t + 1) ++ Y) := by
    have e2 : L = L.take t ++ L[t] :: L.drop (t + 1) := by simp
    rw [h, List.append_assoc X (L.take t), ← List.cons_append, ← List.append_assoc (L.take t), ← e2]
    simp
  rw [get_mid h3 (by simp; omega), e]
  simp
/-- An element brought up to a place; one brought down. -/
def swUf : Nat → Nat → Array α → Array α
  | 0, _, d => d
  | c + 1, k, d => swUf c (k + 1) (swp d k (k + 1))
def swUp (n k : Nat) (d : Array α) : Array α := swUf (n - k) k d
theorem swUp_go (n k : Nat) (d : Array α) (h : k < n) : swUp n k d = swUp n (k + 1) (swp d k (k + 1)) := by
  unfold swUp
  rw [show n - k = n - (k + 1) + 1 by omega]
  rfl
theorem swUp_end (n k : Nat) (d : Array α) (h : ¬ k < n) : swUp n k d = d := by
  unfold swUp
  rw [show n - k = 0 by omega]
  rfl
theorem swUp_list : ∀ (B X Z : List α) (x : α) (d : Array α) (n k : Nat), d.toList = X ++ x :: (B ++ Z) → k = X.length → n = k + B.length → (swUp n k d).toList = X ++ B ++ x :: Z
  | [], X, Z, x, d, n, k, h, hk, hn => by rw [swUp_end _ _ _ (by simp at hn; omega), h]; simp
  | y :: B, X, Z, x, d, n, k, h, hk, hn => by
    simp only [List.length_cons] at hn
    rw [swUp_go _ _ _ (by omega)]
    have h1 : (swp d k (k + 1)).toList = X ++ y :: ([] ++ x :: (B ++ Z)) := swp_list (Y := []) (by rw [h]; simp) hk (by simp; omega)
    rw [swUp_list B (X ++ [y]) Z x _ n (k + 1) (by rw [h1]; simp) (by simp; omega) (by omega)]
    simp
def swDf : Nat → Nat → Array α → Array α
  | 0, _, d => d
  | c + 1, k, d => swDf c (k - 1) (swp d k (k - 1))
def swDn (i k : Nat) (d : Array α) : Array α := swDf (k - i) k d
theorem swDn_go (i k : Nat) (d : Array α) (h : i < k) : swDn i k d = swDn i (k - 1) (swp d k (k - 1)) := by
  unfold swDn
  rw [show k - i = k - 1 - i + 1 by omega]
  rfl
theorem swDn_end (i k : Nat) (d : Array α) (h : ¬ i < k) : swDn i k d = d := by
  unfold swDn
  rw [show k - i = 0 by omega]
  rfl
theorem swDn_list : ∀ (n : Nat) (A X Z : List α) (y : α) (d : Array α) (i k : Nat), A.length = n → d.toList = X ++ A ++ y :: Z → i = X.length → k = i + A.length → (swDn i k d).toList = X ++ y :: A ++ Z
  | 0, A, X, Z, y, d, i, k, hA, h, hi, hk => by
    obtain rfl : A = [] := List.eq_nil_of_length_eq_zero hA
    rw [swDn_end _ _ _ (by simp at hk; omega), h]
    simp
  | n + 1, A, X, Z, y, d, i, k, hA, h, hi, hk => by
    obtain ⟨A', q, rfl⟩ : ∃ A' q, A = A' ++ [q] := by
      rcases List.eq_nil_or_concat A with h0 | ⟨A', q, h0⟩
      · rw [h0] at hA; simp at hA
      · exact ⟨A', q, by simpa using h0⟩
    simp only [List.length_append, List.length_singleton] at hA hk
    rw [swDn_go _ _ _ (by omega)]
    have h1 : (swp d k (k - 1)).toList = (X ++ A') ++ y :: ([] ++ q :: Z) := by
      rw [swp_comm]
      exact swp_list (X := X ++ A') (Y := []) (by rw [h]; simp) (by simp; omega) (by simp; omega)
    rw [swDn_list n A' X (q :: Z) y _ i (k - 1) (by omega) (by rw [h1]; simp) hi (by omega)]
    simp
end
section
variable {α : Type} {lt : α → α → Bool}
/-- What a merge in place must do: the part from a to b, whose two halves are in order, holds them merged. -/
def Mrgd (lt : α → α → Bool) (d d' : Array α) (a m b : Nat) : Prop :=
  d'.size = d.size ∧ ∀ (X A B Z : List α), d.toList = X ++ A ++ B ++ Z → X.length = a → X.length + A.length = m → m + B.length = b → Srt lt A → Srt lt B → d'.toList = X ++ mrg lt A B ++ Z
/-- What stands behind the rotation. -/
def Rotd (d d' : Array α) (a s e b m : Nat) : Prop :=
  d'.size = d.size ∧ ∀ (X A1 A2 B1 B2 Z : List α), d.toList = X ++ (A1 ++ A2) ++ (B1 ++ B2) ++ Z → X.length = a → a + A1.length = s → s + A2.length = m → m + B1.length = e → e + B2.length = b → d'.toList = X ++ A1 ++ B1 ++ A2 ++ B2 ++ Z
theorem rotd_none {d : Array α} {a s e b m : Nat} (h : ¬ (s < m ∧ m < e)) : Rotd d d a s e b m := by
  refine ⟨rfl, fun X A1 A2 B1 B2 Z hd h1 h2 h3 h4 h5 => ?_⟩
  by_cases h0 : s < m
  · obtain rfl : B1 = [] := List.eq_nil_of_length_eq_zero (by omega)
    rw [hd]; simp
  · obtain rfl : A2 = [] := List.eq_nil_of_length_eq_zero (by omega)
    rw [hd]; simp
/-- A half that is merged, or that is so already. -/
theorem mrgd_none {d : Array α} {a m b : Nat} (h : ¬ (a < m ∧ m < b)) : Mrgd lt d d a m b := by
  refine ⟨rfl, fun X A B Z hd h1 h2 h3 sA sB => ?_⟩
  by_cases h0 : a < m
  · obtain rfl : B = [] := List.eq_nil_of_length_eq_zero (by omega)
    rw [hd, mrg_nil']; simp
  · obtain rfl : A = [] := List.eq_nil_of_length_eq_zero (by omega)
    rw [hd, mrg_nil]; simp
end
section
variable {α : Type} [Inhabited α] {lt : α → α → Bool}
theorem swUp_size : ∀ (j n k : Nat) (d : Array α), n - k = j → (swUp n k d).size = d.size
  | 0, n, k, d, h => by rw [swUp_end _ _ _ (by omega)]
  | j + 1, n, k, d, h => by rw [swUp_go _ _ _ (by omega), swUp_size j _ _ _ (by omega), size_swp]
theorem swDn_size : ∀ (j i k : Nat) (d : Array α), k - i = j → (swDn i k d).size = d.size
  | 0, i, k, d, h => by rw [swDn_end _ _ _ (by omega)]
  | j + 1, i, k, d, h => by rw [swDn_go _ _ _ (by omega), swDn_size j _ _ _ (by omega), size_swp]
/-- One on the left, brought to its place. -/
theorem mrgd_left (ho : Ord lt) {d : Array α} {a m b i : Nat} (hm : m = a + 1) (h1 : m ≤ i) (h2 : i ≤ b) (l1 : i = m ∨ lt d[i - 1]! d[a]! = true) (l2 : i = b ∨ lt d[i]! d[a]! = false) : Mrgd lt d (swUp (i - 1) a d) a m b := by
  refine ⟨swUp_size _ _ _ _ rfl, ?_⟩
  intro X A B Z h hX hA hB sA sB
  obtain ⟨x, rfl⟩ : ∃ x, A = [x] := List.length_eq_one_iff.1 (by omega)
  have hx : d[a]! = x := get_mid (X := X) (Y := B ++ Z) (by rw [h]; simp) hX.symm
  have e := List.take_append_drop (i - m) B
  have hd : d.toList = (X ++ [x]) ++ B ++ Z := h
  rw [swUp_list (B.take (i - m)) X (B.drop (i - m) ++ Z) x d (i - 1) a (by rw [h, ← List.append_assoc (B.take _), e]; simp) hX.symm (by simp; omega)]
  have c1 := mrg_at ho [] [x] (B.take (i - m)) (B.drop (i - m)) sA (by rw [e]; exact sB) (.inl rfl) (.inr (by
    rcases Nat.eq_or_lt_of_le h1 with h0 | h0
    · exact .inl (by rw [← h0]; simp)
    · refine .inr ⟨x, d[i - 1]!, rfl, part_last hd (p := m) (by simp; omega) (by omega) (by omega) (by omega), ?_⟩
      rcases l1 with l1 | l1
      · omega
      · rw [← hx]; exact l1))
  have c2 := mrg_at ho [x] [] [] (B.drop (i - m)) sA (by have := List.pairwise_append.1 (by rw [e]; exact sB : Srt lt (B.take (i - m) ++ B.drop (i - m))); exact this.2.1) (.inr (by
    rcases Nat.eq_or_lt_of_le h2 with h0 | h0
    · exact .inl (List.drop_eq_nil_of_le (by omega))
    · refine .inr ⟨x, d[i]!, rfl, part_head hd (p := m) (by simp; omega) (by omega) (by omega), ?_⟩
      rcases l2 with l2 | l2
      · omega
      · rw [← hx]; exact l2)) (.inl rfl)
  rw [e, List.nil_append, mrg_nil] at c1
  rw [List.append_nil, List.nil_append, mrg_nil', mrg_nil] at c2
  rw [c1, c2]
  simp
/-- One on the right, brought to its place. -/
theorem mrgd_right (ho : Ord lt) {d : Array α} {a m b i : Nat} (hm : b = m + 1) (h1 : a ≤ i) (h2 : i ≤ m) (l1 : i = a ∨ lt d[m]! d[i - 1]! = false) (l2 : i = m ∨ lt d[m]! d[i]! = true) : Mrgd lt d (swDn i m d) a m b := by
  refine ⟨swDn_size _ _ _ _ rfl, ?_⟩
  intro X A B Z h hX hA hB sA sB
  obtain ⟨y, rfl⟩ : ∃ y, B = [y] := List.length_eq_one_iff.1 (by omega)
  have hy : d[m]! = y := get_mid (X := X ++ A) (Y := Z) (by rw [h]; simp) (by simp; omega)
  have e := List.take_append_drop (i - a) A
  have hd : d.toList = X ++ A ++ ([y] ++ Z) := by rw [h]; simp
  rw [swDn_list (A.drop (i - a)).length (A.drop (i - a)) (X ++ A.take (i - a)) Z y d i m rfl (by rw [h, List.append_assoc X (A.take _), e]; simp) (by simp; omega) (by simp; omega)]
  have c1 := mrg_at ho (A.take (i - a)) (A.drop (i - a)) [] [y] (by rw [e]; exact sA) sB (by
    rcases Nat.eq_or_lt_of_le h1 with h0 | h0
    · exact .inl (by rw [← h0]; simp)
    · refine .inr (.inr ⟨d[i - 1]!, y, part_last hd (p := a) hX (by omega) (by omega) (by omega), rfl, ?_⟩)
      rcases l1 with l1 | l1
      · omega
      · rw [← hy]; exact l1) (.inr (.inl rfl))
  have c2 := mrg_at ho [] (A.drop (i - a)) [y] [] (by have := List.pairwise_append.1 (by rw [e]; exact sA : Srt lt (A.take (i - a) ++ A.drop (i - a))); exact this.2.1) sB (.inl rfl) (by
    rcases Nat.eq_or_lt_of_le h2 with h0 | h0
    · exact .inl (List.drop_eq_nil_of_le (by omega))
    · refine .inr (.inr ⟨d[i]!, y, part_head hd (p := a) hX (by omega) (by omega), rfl, ?_⟩)
      rcases l2 with l2 | l2
      · omega
      · rw [← hy]; exact l2)
  rw [e, List.nil_append, mrg_nil'] at c1
  rw [List.append_nil, List.nil_append, mrg_nil, mrg_nil'] at c2
  rw [c1, c2]
  simp
theorem rotR_size : ∀ (N i j m : Nat) (d : Array α), i + j ≤ N → (rotR m i j d).size = d.size
  | 0, i, j, m, d, h => by
    obtain rfl : i = 0 := by omega
    obtain rfl : j = 0 := by omega
    rw [rotR_end, swR_size _ _ _ _ _ _ rfl]
  | N + 1, i, j, m, d, h => by
    rcases Nat.lt_trichotomy i j with hlt | heq | hgt
    · rcases Nat.eq_zero_or_pos i with h0 | h0
      · rw [rotR_none _ _ _ _ (by omega) (.inl h0)]
      · rw [rotR_lt _ _ _ _ hlt h0, rotR_size N _ _ _ _ (by omega), swR_size _ _ _ _ _ _ rfl]
    · subst heq
      rw [rotR_end, swR_size _ _ _ _ _ _ rfl]
    · rcases Nat.eq_zero_or_pos j with h0 | h0
      · rw [rotR_none _ _ _ _ (by omega) (.inr h0)]
      · rw [rotR_gt _ _ _ _ hgt h0, rotR_size N _ _ _ _ (by omega), swR_size _ _ _ _ _ _ rfl]
theorem rotd_done {d : Array α} {a s e b m : Nat} (h1 : s < m) (h2 : m < e) : Rotd d (rotR m (m - s) (e - m) d) a s e b m := by
  refine ⟨rotR_size _ _ _ _ _ (Nat.le_refl _), fun X A1 A2 B1 B2 Z hd h3 h4 h5 h6 h7 => ?_⟩
  rw [rotR_list _ (m - s) (e - m) (X ++ A1) A2 B1 (B2 ++ Z) d m (Nat.le_refl _) (by omega) (by omega) (by rw [hd]; simp) (by omega) (by omega) (by simp; omega)]
  simp
/-- The merge by its halves. -/
theorem mrgd_parts (ho : Ord lt) {d d1 d2 d3 : Array α} {a m b mid s e : Nat} (hs1 : a ≤ s) (hs2 : s ≤ m) (he1 : m ≤ e) (he2 : e ≤ b) (hmid : s + e = mid + m)
    (l1 : s = a ∨ e = b ∨ lt d[e]! d[s - 1]! = false) (l2 : s = m ∨ e = m ∨ lt d[e - 1]! d[s]! = true)
    (r : Rotd d d1 a s e b m) (q1 : Mrgd lt d1 d2 a s mid) (q2 : Mrgd lt d2 d3 mid e b) : Mrgd lt d d3 a m b := by
  refine ⟨by rw [q2.1, q1.1, r.1], fun X A B Z hd h1 h2 h3 sA sB => ?_⟩
  have eA := List.take_append_drop (s - a) A
  have eB := List.take_append_drop (e - m) B
  have tA : Srt lt (A.take (s - a) ++ A.drop (s - a)) := by rw [eA]; exact sA
  have tB : Srt lt (B.take (e - m) ++ B.drop (e - m)) := by rw [eB]; exact sB
  have hdA : d.toList = X ++ A ++ (B ++ Z) := by rw [hd]; simp
  have hdB : d.toList = (X ++ A) ++ B ++ Z := hd
  have c := mrg_at ho (A.take (s - a)) (A.drop (s - a)) (B.take (e - m)) (B.drop (e - m)) tA tB (by
    by_cases k1 : s = a
    · exact .inl (by rw [k1]; simp)
    · by_cases k2 : e = b
      · exact .inr (.inl (List.drop_eq_nil_of_le (by omega)))
      · refine .inr (.inr ⟨_, _, part_last hdA (p := a) (i := s - 1) h1 (by omega) (by omega) (by omega), part_head hdB (p := m) (i := e) (by simp; omega) (by omega) (by omega), ?_⟩)
        rcases l1 with l1 | l1 | l1
        · omega
        · omega
        · exact l1) (by
    by_cases k1 : s = m
    · exact .inl (List.drop_eq_nil_of_le (by omega))
    · by_cases k2 : e = m
      · exact .inr (.inl (by rw [k2]; simp))
      · refine .inr (.inr ⟨_, _, part_head hdA (p := a) (i := s) h1 (by omega) (by omega), part_last hdB (p := m) (i := e - 1) (by simp; omega) (by omega) (by omega) (by omega), ?_⟩)
        rcases l2 with l2 | l2 | l2
        · omega
        · omega
        · exact l2)
  rw [eA, eB] at c
  have f1 := r.2 X (A.take (s - a)) (A.drop (s - a)) (B.take (e - m)) (B.drop (e - m)) Z (by rw [eA, eB]; exact hd) h1 (by simp; omega) (by simp; omega) (by simp; omega) (by simp; omega)
  have f2 := q1.2 X (A.take (s - a)) (B.take (e - m)) (A.drop (s - a) ++ B.drop (e - m) ++ Z) (by rw [f1]; simp) h1 (by simp; omega) (by simp; omega) (List.pairwise_append.1 tA).1 (List.pairwise_append.1 tB).1
  have f3 := q2.2 (X ++ mrg lt (A.take (s - a)) (B.take (e - m))) (A.drop (s - a)) (B.drop (e - m)) Z (by rw [f2]; simp) (by rw [List.length_append, mrg_len]; simp; omega) (by rw [List.length_append, mrg_len]; simp; omega) (by simp; omega) (List.pairwise_append.1 tA).2.1 (List.pairwise_append.1 tB).2.1
  rw [f3, c]
  simp
end
end Go.Proofs.Ytooggheoaglbeaa

/- 'slices.symMergeCmpFunc' at events, where one stands on the left. -/
namespace Go.Proofs.Ytooggheoaglbeaa
open Go.Shelf Go.RowKit Go.Lib Go.Sort
set_option linter.unusedVariables false
section
variable {P : Program} {α : Type} [Inhabited α]
set_option maxHeartbeats 8000000 in
set_option maxRecDepth 1000000 in
theorem sym_left {k : Nat} (Y : TyE P k) (FG : P.funcs[95]? = some Try.f95) (enc : α → List Value) (cf : α → α → Int) (ho : Ord (ltOf cf)) (g : Nat) (cb : Array Value) (blk off cap a m b : Nat) (d0 d : Array α) (w0 w : World)
    (eg : ∀ args w, (callFunc g args).run P w = .ok (.enter g args) w) (hcmp : CmpLays P g cb enc k cf blk off d0.size w0) (R : RowK enc k w0 blk off d0) (hs : d0.size = d.size) (S : SWK enc k w0 blk off d w) (ham : a < m) (hmb : m < b) (hb : b ≤ d.size) (hsz : d.size < 4611686018427387904) (hm : m = a + 1) :
    Calls P 95 #[.slice (some ⟨blk, off, none⟩) d.size cap, .int .i64 a, .int .i64 m, .int .i64 b, .func (.func g) #[] cb] w fun e w' => e = .returned (.tuple #[]) ∧ ∃ d', SWK enc k w0 blk off d' w' ∧ Mrgd (ltOf cf) d d' a m b := by
  have mixed := Y.mixed; have t0 := Y.t0; have a0 := Y.a0; have z0 := Y.z0; have v0 := Y.v0; have t3 := Y.t3; have a3 := Y.a3; have z3 := Y.z3; have v3 := Y.v3; have t4 := Y.t4; have a4 := Y.a4; have z4 := Y.z4; have v4 := Y.v4; have tS := Y.tS; have aS := Y.aS; have zS := Y.zS; have vS := Y.vS; have tF := Y.tF; have aF := Y.aF; have zF := Y.zF; have vF := Y.vF; have tU := Y.tU; have aU := Y.aU; have zU := Y.zU; have vU := Y.vU; have aE := Y.aE; have zE := Y.zE
  have S0 : Aside (SWK enc k w0 blk off d w) := S
  have HC : Aside _ := hcmp
  clear S Y hcmp
  have HM := hide hm
  have hma : (m : Int) - (a : Int) = 1 := by omega
  have hm1 : m ≤ a + 1 := by omega
  clear hm
  go_enter FG, Try.ntmps95
  go_wp2
  go_loopg [10, 11] (b - m) (fun kx s10 s11 wr => ∃ (i j : Nat), s10 = .int .i64 i ∧ s11 = .int .i64 j ∧ m ≤ i ∧ i ≤ j ∧ j ≤ b ∧ j - i ≤ kx ∧ Aside (SWK enc k w0 blk off d wr) ∧ Hid (i = m ∨ ltOf cf d[i - 1]! d[a]! = true) ∧ Hid (j = b ∨ ltOf cf d[j]! d[a]! = false))
  case atStart => exact ⟨m, b, rfl, rfl, by omega, by omega, by omega, Nat.le_refl _, S0, Or.inl rfl, Or.inl rfl⟩
  case round =>
    clear S0
    obtain ⟨i, j, rfl, rfl, hmi, hij, hjb, hkx, S1, L1, L2⟩ := hrel
    by_cases hlt : i < j
    · have hltz : (i : Int) < (j : Int) := by omega
      obtain ⟨h, hh⟩ : ∃ h : Nat, h = (i + j) / 2 := ⟨_, rfl⟩
      have hih : i ≤ h := by omega
      have hhj : h < j := by omega
      have hI : ((i : Int) + (j : Int)) / 2 = (h : Int) := by omega
      clear hh
      cases hL : ltOf cf d[h]! d[a]! with
      | true =>
        have ea1u : ((h : Int)).toNat = h := by omega
        have pa1u : (0 : Int) ≤ (h : Int) := by omega
        have ba1u : (h : Int) < (d.size : Int) := by omega
        have ra1u : IntKind.i64.wrap ((h : Int)) = (h : Int) := by rw [IntKind.wrap_i64]; omega
        have ec1u : ((a : Int)).toNat = a := by omega
        have pc1u : (0 : Int) ≤ (a : Int) := by omega
        have bc1u : (a : Int) < (d.size : Int) := by omega
        have rc1u : IntKind.i64.wrap ((a : Int)) = (a : Int) := by rw [IntKind.wrap_i64]; omega
        obtain ⟨x1u, hx1u⟩ : ∃ x, x = d[h]! := ⟨_, rfl⟩
        obtain ⟨y1u, hy1u⟩ : ∃ x, x = d[a]! := ⟨_, rfl⟩
        have l1ua := S1.out.ld R (by omega) P (h) (by omega)
        have l1ub := S1.out.ld R (by omega) P (a) (by omega)
        rw [← hx1u] at l1ua
        rw [← hy1u] at l1ub
        have hc1u := S1.out.cmp HC.out (by omega) x1u y1u
        have hv1u : cf x1u y1u < 0 := by rw [hx1u, hy1u]; exact of_decide_eq_true hL
        have hd1u : decide (cf x1u y1u < 0) = true := decide_eq_true hv1u
        clear hx1u hy1u
        go_wp2_with fail
        go_quiet_grown (first | (go_at_fn g; refine Calls.grown_of (hc1u _ _)))
        have S2 : Aside (SWK enc k w0 blk off d (grow (wr.drewN nq) osq)) := S1.out.grown nq osq
        clear l1ua l1ub hc1u S1 hv1u hd1u ea1u pa1u ba1u ra1u ec1u pc1u bc1u rc1u
        generalize grow (wr.drewN nq) osq = w2 at S2 ⊢
        clear nq osq
        go_wp2
        go_roundg (j - (h + 1))
        case measure => omega
        case rel => exact ⟨h + 1, j, by go_num, rfl, by omega, by omega, by omega, Nat.le_refl _, S2, (show Hid _ from Or.inr (by rw [Nat.add_sub_cancel]; exact hL)), L2⟩
      | false =>
        have ea1d : ((h : Int)).toNat = h := by omega
        have pa1d : (0 : Int) ≤ (h : Int) := by omega
        have ba1d : (h : Int) < (d.size : Int) := by omega
        have ra1d : IntKind.i64.wrap ((h : Int)) = (h : Int) := by rw [IntKind.wrap_i64]; omega
        have ec1d : ((a : Int)).toNat = a := by omega
        have pc1d : (0 : Int) ≤ (a : Int) := by omega
        have bc1d : (a : Int) < (d.size : Int) := by omega
        have rc1d : IntKind.i64.wrap ((a : Int)) = (a : Int) := by rw [IntKind.wrap_i64]; omega
        obtain ⟨x1d, hx1d⟩ : ∃ x, x = d[h]! := ⟨_, rfl⟩
        obtain ⟨y1d, hy1d⟩ : ∃ x, x = d[a]! := ⟨_, rfl⟩
        have l1da := S1.out.ld R (by omega) P (h) (by omega)
        have l1db := S1.out.ld R (by omega) P (a) (by omega)
        rw [← hx1d] at l1da
        rw [← hy1d] at l1db
        have hc1d := S1.out.cmp HC.out (by omega) x1d y1d
        have hv1d : ¬ cf x1d y1d < 0 := by rw [hx1d, hy1d]; exact of_decide_eq_false hL
        have hd1d : decide (cf x1d y1d < 0) = false := decide_eq_false hv1d
        clear hx1d hy1d
        go_wp2_with fail
        go_quiet_grown (first | (go_at_fn g; refine Calls.grown_of (hc1d _ _)))
        have S2 : Aside (SWK enc k w0 blk off d (grow (wr.drewN nq) osq)) := S1.out.grown nq osq
        clear l1da l1db hc1d S1 hv1d hd1d ea1d pa1d ba1d ra1d ec1d pc1d bc1d rc1d
        generalize grow (wr.drewN nq) osq = w2 at S2 ⊢
        clear nq osq
        go_wp2
        go_roundg (h - i)
        case measure => omega
        case rel => exact ⟨i, h, rfl, by go_num, by omega, by omega, by omega, Nat.le_refl _, S2, L1, (show Hid _ from Or.inr hL)⟩
    · have hltz : ¬ (i : Int) < (j : Int) := by omega
      have L2' : Hid (i = b ∨ ltOf cf d[i]! d[a]! = false) := by
        have e : i = j := by omega
        subst e
        exact L2
      clear L2
      go_wp2
      go_loopg [13] (i - a) (fun kx s13 wr2 => ∃ (t : Nat) (dk : Array α), s13 = .int .i64 t ∧ a ≤ t ∧ t + 1 ≤ i ∧ i - t ≤ kx ∧ dk.size = d.size ∧ Aside (SWK enc k w0 blk off dk wr2) ∧ Hid (swUp (i - 1) t dk = swUp (i - 1) a d))
      case atStart => exact ⟨a, d, rfl, by omega, by omega, by omega, rfl, S1, rfl⟩
      case round =>
        clear S1
        obtain ⟨t, dk, rfl, hat, hti, hkx2, hds, S1, heq⟩ := hrel
        by_cases hlt2 : t + 1 < i
        · have hl2 : (t : Int) < (i : Int) - 1 := by omega
          go_wp2_with fail
          have ea2 : ((t : Int)).toNat = t := by omega
          have pa2 : (0 : Int) ≤ (t : Int) := by omega
          have ba2 : (t : Int) < (d.size : Int) := by omega
          have ra2 : IntKind.i64.wrap ((t : Int)) = (t : Int) := by rw [IntKind.wrap_i64]; omega
          have ec2 : ((t : Int) + 1).toNat = t + 1 := by omega
          have pc2 : (0 : Int) ≤ (t : Int) + 1 := by omega
          have bc2 : (t : Int) + 1 < (d.size : Int) := by omega
          have rc2 : IntKind.i64.wrap ((t : Int) + 1) = (t : Int) + 1 := by rw [IntKind.wrap_i64]; omega
          have S2 : Aside (SWK enc k w0 blk off (swp dk (t) (t + 1)) ((wr.drew.setCells blk (off + (t) * k) (enc dk[t + 1]!)).setCells blk (off + (t + 1) * k) (enc dk[t]!))) := S1.out.swapped R (t) (t + 1) (by omega) (by omega)
          have l2a := S1.out.ld1 R (by omega) P (t) (by omega)
          have l2b := S1.out.ld1 R (by omega) P (t + 1) (by omega)
          have s2a := S1.out.st1 R (by omega) P (t) (by omega) dk[t + 1]!
          have s2b := S1.out.st2 R (by omega) P (t) (t + 1) (by omega) (by omega) dk[t + 1]! dk[t]!
          have n2a : (enc dk[t]!).length = k := R.hk _
          have n2b : (enc dk[t + 1]!).length = k := R.hk _
          generalize enc dk[t]! = cI2 at S2 l2a s2b n2a
          generalize enc dk[t + 1]! = cJ2 at S2 l2b s2a s2b n2b
          clear S1
          go_wp2_with fail
          go_big_region_o
          clear l2a l2b s2a s2b ea2 pa2 ba2 ra2 ec2 pc2 bc2 rc2 n2a n2b
          generalize (wr.drew.setCells blk (off + (t) * k) cJ2).setCells blk (off + (t + 1) * k) cI2 = w2 at S2 ⊢
          go_wp2
          go_roundg (i - (t + 1))
          case measure => omega
          case rel => exact ⟨t + 1, _, by go_num, by omega, by omega, by omega, by rw [size_swp]; exact hds, S2, (show Hid _ from by rw [← swUp_go (i - 1) t dk (by omega)]; exact heq.out)⟩
        · have hl2 : ¬ (t : Int) < (i : Int) - 1 := by omega
          go_wp2
          (try simp only [Exit.inBlock, Exit.then]); refine bodyPost_ret (results_none rfl _ _ _) rfl ?_
          refine ⟨rfl, dk, S1.out, ?_⟩
          rw [swUp_end (i - 1) t dk (by omega)] at heq
          rw [heq.out]
          exact mrgd_left ho HM.out hmi (by omega) L1.out L2'.out
end
end Go.Proofs.Ytooggheoaglbeaa

/- 'slices.symMergeCmpFunc' at events, where one stands on the right. -/
namespace Go.Proofs.Ytooggheoaglbeaa
open Go.Shelf Go.RowKit Go.Lib Go.Sort
set_option linter.unusedVariables false
section
variable {P : Program} {α : Type} [Inhabited α]
set_option maxHeartbeats 8000000 in
set_option maxRecDepth 1000000 in
theorem sym_right {k : Nat} (Y : TyE P k) (FG : P.funcs[95]? = some Try.f95) (enc : α → List Value) (cf : α → α → Int) (ho : Ord (ltOf cf)) (g : Nat) (cb : Array Value) (blk off cap a m b : Nat) (d0 d : Array α) (w0 w : World)
    (eg : ∀ args w, (callFunc g args).run P w = .ok (.enter g args) w) (hcmp : CmpLays P g cb enc k cf blk off d0.size w0) (R : RowK enc k w0 blk off d0) (hs : d0.size = d.size) (S : SWK enc k w0 blk off d w) (ham : a < m) (hmb : m < b) (hb : b ≤ d.size) (hsz : d.size < 4611686018427387904) (hm : b = m + 1) (hne : m ≠ a + 1) :
    Calls P 95 #[.slice (some ⟨blk, off, none⟩) d.size cap, .int .i64 a, .int .i64 m, .int .i64 b, .func (.func g) #[] cb] w fun e w' => e = .returned (.tuple #[]) ∧ ∃ d', SWK enc k w0 blk off d' w' ∧ Mrgd (ltOf cf) d d' a m b := by
  have mixed := Y.mixed; have t0 := Y.t0; have a0 := Y.a0; have z0 := Y.z0; have v0 := Y.v0; have t3 := Y.t3; have a3 := Y.a3; have z3 := Y.z3; have v3 := Y.v3; have t4 := Y.t4; have a4 := Y.a4; have z4 := Y.z4; have v4 := Y.v4; have tS := Y.tS; have aS := Y.aS; have zS := Y.zS; have vS := Y.vS; have tF := Y.tF; have aF := Y.aF; have zF := Y.zF; have vF := Y.vF; have tU := Y.tU; have aU := Y.aU; have zU := Y.zU; have vU := Y.vU; have aE := Y.aE; have zE := Y.zE
  have S0 : Aside (SWK enc k w0 blk off d w) := S
  have HC : Aside _ := hcmp
  clear S Y hcmp
  have HM := hide hm
  have hma : (((m : Int) - (a : Int)) == 1) = false := by rw [beq_eq_false_iff_ne]; omega
  have hma2 : ¬ (m : Int) - (a : Int) = 1 := by omega
  have hbm : (b : Int) - (m : Int) = 1 := by omega
  have hm1 : b ≤ m + 1 := by omega
  clear hm hne
  go_enter FG, Try.ntmps95
  go_wp2
  go_loopg [14, 15] (m - a) (fun kx s14 s15 wr => ∃ (i j : Nat), s14 = .int .i64 i ∧ s15 = .int .i64 j ∧ a ≤ i ∧ i ≤ j ∧ j ≤ m ∧ j - i ≤ kx ∧ Aside (SWK enc k w0 blk off d wr) ∧ Hid (i = a ∨ ltOf cf d[m]! d[i - 1]! = false) ∧ Hid (j = m ∨ ltOf cf d[m]! d[j]! = true))
  case atStart => exact ⟨a, m, rfl, rfl, by omega, by omega, by omega, Nat.le_refl _, S0, Or.inl rfl, Or.inl rfl⟩
  case round =>
    clear S0
    obtain ⟨i, j, rfl, rfl, hmi, hij, hjb, hkx, S1, L1, L2⟩ := hrel
    by_cases hlt : i < j
    · have hltz : (i : Int) < (j : Int) := by omega
      obtain ⟨h, hh⟩ : ∃ h : Nat, h = (i + j) / 2 := ⟨_, rfl⟩
      have hih : i ≤ h := by omega
      have hhj : h < j := by omega
      have hI : ((i : Int) + (j : Int)) / 2 = (h : Int) := by omega
      clear hh
      cases hL : ltOf cf d[m]! d[h]! with
      | true =>
        have ea1d : ((m : Int)).toNat = m := by omega
        have pa1d : (0 : Int) ≤ (m : Int) := by omega
        have ba1d : (m : Int) < (d.size : Int) := by omega
        have ra1d : IntKind.i64.wrap ((m : Int)) = (m : Int) := by rw [IntKind.wrap_i64]; omega
        have ec1d : ((h : Int)).toNat = h := by omega
        have pc1d : (0 : Int) ≤ (h : Int) := by omega
        have bc1d : (h : Int) < (d.size : Int) := by omega
        have rc1d : IntKind.i64.wrap ((h : Int)) = (h : Int) := by rw [IntKind.wrap_i64]; omega
        obtain ⟨x1d, hx1d⟩ : ∃ x, x = d[m]! := ⟨_, rfl⟩
        obtain ⟨y1d, hy1d⟩ : ∃ x, x = d[h]! := ⟨_, rfl⟩
        have l1da := S1.out.ld R (by omega) P (m) (by omega)
        have l1db := S1.out.ld R (by omega) P (h) (by omega)
        rw [← hx1d] at l1da
        rw [← hy1d] at l1db
        have hc1d := S1.out.cmp HC.out (by omega) x1d y1d
        have hv1d : cf x1d y1d < 0 := by rw [hx1d, hy1d]; exact of_decide_eq_true hL
        have hd1d : decide (cf x1d y1d < 0) = true := decide_eq_true hv1d
        clear hx1d hy1d
        go_wp2_with fail
        go_quiet_grown (first | (go_at_fn g; refine Calls.grown_of (hc1d _ _)))
        have S2 : Aside (SWK enc k w0 blk off d (grow (wr.drewN nq) osq)) := S1.out.grown nq osq
        clear l1da l1db hc1d S1 hv1d hd1d ea1d pa1d ba1d ra1d ec1d pc1d bc1d rc1d
        generalize grow (wr.drewN nq) osq = w2 at S2 ⊢
        clear nq osq
        go_wp2
        go_roundg (h - i)
        case measure => omega
        case rel => exact ⟨i, h, rfl, by go_num, by omega, by omega, by omega, Nat.le_refl _, S2, L1, (show Hid _ from Or.inr hL)⟩
      | false =>
        have ea1u : ((m : Int)).toNat = m := by omega
        have pa1u : (0 : Int) ≤ (m : Int) := by omega
        have ba1u : (m : Int) < (d.size : Int) := by omega
        have ra1u : IntKind.i64.wrap ((m : Int)) = (m : Int) := by rw [IntKind.wrap_i64]; omega
        have ec1u : ((h : Int)).toNat = h := by omega
        have pc1u : (0 : Int) ≤ (h : Int) := by omega
        have bc1u : (h : Int) < (d.size : Int) := by omega
        have rc1u : IntKind.i64.wrap ((h : Int)) = (h : Int) := by rw [IntKind.wrap_i64]; omega
        obtain ⟨x1u, hx1u⟩ : ∃ x, x = d[m]! := ⟨_, rfl⟩
        obtain ⟨y1u, hy1u⟩ : ∃ x, x = d[h]! := ⟨_, rfl⟩
        have l1ua := S1.out.ld R (by omega) P (m) (by omega)
        have l1ub := S1.out.ld R (by omega) P (h) (by omega)
        rw [← hx1u] at l1ua
        rw [← hy1u] at l1ub
        have hc1u := S1.out.cmp HC.out (by omega) x1u y1u
        have hv1u : ¬ cf x1u y1u < 0 := by rw [hx1u, hy1u]; exact of_decide_eq_false hL
        have hd1u : decide (cf x1u y1u < 0) = false := decide_eq_false hv1u
        clear hx1u hy1u
        go_wp2_with fail
        go_quiet_grown (first | (go_at_fn g; refine Calls.grown_of (hc1u _ _)))
        have S2 : Aside (SWK enc k w0 blk off d (grow (wr.drewN nq) osq)) := S1.out.grown nq osq
        clear l1ua l1ub hc1u S1 hv1u hd1u ea1u pa1u ba1u ra1u ec1u pc1u bc1u rc1u
        generalize grow (wr.drewN nq) osq = w2 at S2 ⊢
        clear nq osq
        go_wp2
        go_roundg (j - (h + 1))
        case measure => omega
        case rel => exact ⟨h + 1, j, by go_num, rfl, by omega, by omega, by omega, Nat.le_refl _, S2, (show Hid _ from Or.inr (by rw [Nat.add_sub_cancel]; exact hL)), L2⟩
    · have hltz : ¬ (i : Int) < (j : Int) := by omega
      have L2' : Hid (i = m ∨ ltOf cf d[m]! d[i]! = true) := by
        have e : i = j := by omega
        subst e
        exact L2
      clear L2
      go_wp2
      go_loopg [17] (m - i) (fun kx s17 wr2 => ∃ (t : Nat) (dk : Array α), s17 = .int .i64 t ∧ i ≤ t ∧ t ≤ m ∧ t - i ≤ kx ∧ dk.size = d.size ∧ Aside (SWK enc k w0 blk off dk wr2) ∧ Hid (swDn i t dk = swDn i m d))
      case atStart => exact ⟨m, d, rfl, by omega, by omega, by omega, rfl, S1, rfl⟩
      case round =>
        clear S1
        obtain ⟨t, dk, rfl, hat, hti, hkx2, hds, S1, heq⟩ := hrel
        by_cases hlt2 : i < t
        · have hl2 : (i : Int) < (t : Int) := by omega
          go_wp2_with fail
          have ea2 : ((t : Int)).toNat = t := by omega
          have pa2 : (0 : Int) ≤ (t : Int) := by omega
          have ba2 : (t : Int) < (d.size : Int) := by omega
          have ra2 : IntKind.i64.wrap ((t : Int)) = (t : Int) := by rw [IntKind.wrap_i64]; omega
          have ec2 : ((t : Int) - 1).toNat = t - 1 := by omega
          have pc2 : (0 : Int) ≤ (t : Int) - 1 := by omega
          have bc2 : (t : Int) - 1 < (d.size : Int) := by omega
          have rc2 : IntKind.i64.wrap ((t : Int) - 1) = (t : Int) - 1 := by rw [IntKind.wrap_i64]; omega
          have S2 : Aside (SWK enc k w0 blk off (swp dk (t) (t - 1)) ((wr.drew.setCells blk (off + (t) * k) (enc dk[t - 1]!)).setCells blk (off + (t - 1) * k) (enc dk[t]!))) := S1.out.swapped R (t) (t - 1) (by omega) (by omega)
          have l2a := S1.out.ld1 R (by omega) P (t) (by omega)
          have l2b := S1.out.ld1 R (by omega) P (t - 1) (by omega)
          have s2a := S1.out.st1 R (by omega) P (t) (by omega) dk[t - 1]!
          have s2b := S1.out.st2 R (by omega) P (t) (t - 1) (by omega) (by omega) dk[t - 1]! dk[t]!
          have n2a : (enc dk[t]!).length = k := R.hk _
          have n2b : (enc dk[t - 1]!).length = k := R.hk _
          generalize enc dk[t]! = cI2 at S2 l2a s2b n2a
          generalize enc dk[t - 1]! = cJ2 at S2 l2b s2a s2b n2b
          clear S1
          go_wp2_with fail
          go_big_region_o
          clear l2a l2b s2a s2b ea2 pa2 ba2 ra2 ec2 pc2 bc2 rc2 n2a n2b
          generalize (wr.drew.setCells blk (off + (t) * k) cJ2).setCells blk (off + (t - 1) * k) cI2 = w2 at S2 ⊢
          go_wp2
          go_roundg (t - 1 - i)
          case measure => omega
          case rel => exact ⟨t - 1, _, by congr 1; omega, by omega, by omega, by omega, by rw [size_swp]; exact hds, S2, (show Hid _ from by rw [← swDn_go i t dk (by omega)]; exact heq.out)⟩
        · have hl2 : ¬ (i : Int) < (t : Int) := by omega
          go_wp2
          (try simp only [Exit.inBlock, Exit.then]); refine bodyPost_ret (results_none rfl _ _ _) rfl ?_
          refine ⟨rfl, dk, S1.out, ?_⟩
          rw [swDn_end i t dk (by omega)] at heq
          rw [heq.out]
          exact mrgd_right ho HM.out hmi (by omega) L1.out L2'.out
end
end Go.Proofs.Ytooggheoaglbeaa

