/- Texts of this claim, joined: EOpen. -/
import Derived.Test.YtooggheoaglbeaaJ5
import Derived.Test.YtooggheoaglbeaaJ3
import Derived.Deep.SlicePairs
import Derived.Lib.SmallJoins
/- What a statement is told of an event that came in; what 'Light' does. -/
namespace Go.Proofs.Ytooggheoaglbeaa
open Go.RowKit Go.ChangeShapes Go.WideShapes
set_option linter.unusedVariables false

/-- An event that came in. -/
def InE (w : World) (v : Value) : Prop := ∃ (r s : Int) (pa : Option Addr) (na ca : Nat) (pe : Option Addr) (ne ce : Nat) (c : List Int) (l : List Eff), v = .agg #[.int .i64 r, .int .i64 s, .slice pa na ca, .slice pe ne ce] ∧ NS w pa na c ∧ CP pa na ca ∧ ES w pe ne l ∧ CP pe ne ce
theorem addr_add (b off k : Nat) : (⟨b, off, none⟩ : Addr).add k = ⟨b, off + k, none⟩ := by
  by_cases hk : k = 0
  · subst hk; simp [Addr.add]
  · simp [Addr.add, hk]
section
variable {H : Type} {enc : TypeId × Value → H} {W : World}
set_option maxRecDepth 100000 in
theorem numsE_trod {v : Value} {fuel : Nat} {y : DataW H × List MemPlace} (h : DataW.trod enc Try.prog W 0 (fun _ => true) true fuel 25 [v] = some y) : ∃ a len cap l, v = .slice a len cap ∧ NS W a len l ∧ CP a len cap := by
  rcases open_ints Try.underlying25 Try.underlying3 (by kernel_rfl) h with ⟨hcs, _⟩ | ⟨x, l, c, zs, hcs, _, hl, hm, hz, hx, hcell, hwz⟩
  · simp at hcs
    subst hcs
    exact ⟨_, _, _, [], rfl, NS.nil _ _, Nat.le_refl _, by decide, fun _ => rfl⟩
  · simp at hcs
    subst hcs
    simp at hz
    exact ⟨_, _, _, zs.take l, rfl, ns_of_cells hl hm hz (fun i hi => hcell i (by omega)), hl, hm, fun h => by cases h⟩
theorem Try.cellsEff : Try.prog.cellsOf 35 = 6 := by kernel_rfl
theorem Try.cellsEvt : Try.prog.cellsOf 28 = 4 := by kernel_rfl
theorem Try.cellsInt : Try.prog.cellsOf 3 = 1 := by kernel_rfl
theorem Try.cellsStr : Try.prog.cellsOf 9 = 1 := by kernel_rfl
theorem Try.cellsDot : Try.prog.cellsOf 23 = 2 := by kernel_rfl
theorem Try.cellsClk : Try.prog.cellsOf 25 = 1 := by kernel_rfl
theorem Try.cellsEfs : Try.prog.cellsOf 26 = 1 := by kernel_rfl
set_option maxRecDepth 100000 in
/-- An effect's six cells. -/
theorem eff_trod {n : Nat} {v0 v1 v2 v3 v4 v5 : Value} {x : DataW H × List MemPlace} (h : DataW.trod enc Try.prog W 0 (fun _ => true) true n 35 [v0, v1, v2, v3, v4, v5] = some x) : ∃ e : Eff, ByF e ∧ encF e = [v0, v1, v2, v3, v4, v5] := by
  obtain ⟨xs, k, hk, hxy, _, hxl, hf⟩ := DataW.trod_struct Try.underlying35 h
  obtain ⟨y0, y1, y2, y3, y4, y5, rfl⟩ := len6 xs hxl
  have g0 : DataW.trod enc Try.prog W 0 (fun _ => true) true k 3 (([v0, v1, v2, v3, v4, v5].drop 0).take (Try.prog.cellsOf 3)) = some y0 := hf 0 _ rfl
  rw [Try.cellsInt] at g0
  have g1 : DataW.trod enc Try.prog W 0 (fun _ => true) true k 3 (([v0, v1, v2, v3, v4, v5].drop 1).take (Try.prog.cellsOf 3)) = some y1 := hf 1 _ rfl
  rw [Try.cellsInt] at g1
  have g2 : DataW.trod enc Try.prog W 0 (fun _ => true) true k 9 (([v0, v1, v2, v3, v4, v5].drop 2).take (Try.prog.cellsOf 9)) = some y2 := hf 2 _ rfl
  rw [Try.cellsStr] at g2
  have g3 : DataW.trod enc Try.prog W 0 (fun _ => true) true k 3 (([v0, v1, v2, v3, v4, v5].drop 3).take (Try.prog.cellsOf 3)) = some y3 := hf 3 _ rfl
  rw [Try.cellsInt] at g3
  have g4 : DataW.trod enc Try.prog W 0 (fun _ => true) true k 3 (([v0, v1, v2, v3, v4, v5].drop 4).take (Try.prog.cellsOf 3)) = some y4 := hf 4 _ rfl
  rw [Try.cellsInt] at g4
  have g5 : DataW.trod enc Try.prog W 0 (fun _ => true) true k 9 (([v0, v1, v2, v3, v4, v5].drop 5).take (Try.prog.cellsOf 9)) = some y5 := hf 5 _ rfl
  rw [Try.cellsStr] at g5
  obtain ⟨a0, h0, _, _⟩ := DataW.trod_int Try.underlying3 g0
  obtain ⟨a1, h1, _, _⟩ := DataW.trod_int Try.underlying3 g1
  obtain ⟨s2, h2, _, _⟩ := DataW.trod_string Try.underlying9 g2
  obtain ⟨a3, h3, _, _⟩ := DataW.trod_int Try.underlying3 g3
  obtain ⟨a4, h4, _, _⟩ := DataW.trod_int Try.underlying3 g4
  obtain ⟨s5, h5, _, _⟩ := DataW.trod_string Try.underlying9 g5
  simp at h0 h1 h2 h3 h4 h5
  subst h0 h1 h2 h3 h4 h5
  refine ⟨(a0, a1, bytesL s2, a3, a4, bytesL s5), ⟨bytesL_by s2, bytesL_by s5⟩, ?_⟩
  simp [encF, str_bytes]
set_option maxRecDepth 100000 in
theorem effs_trod {v : Value} {fuel : Nat} {y : DataW H × List MemPlace} (h : DataW.trod enc Try.prog W 0 (fun _ => true) true fuel 26 [v] = some y) : ∃ a len cap l, v = .slice a len cap ∧ ES W a len l ∧ CP a len cap := by
  rcases Deep.open_slice Try.underlying26 h with ⟨hcs, _⟩ | ⟨a, len, cap, m, n, D, Pl, hcs, _, hl, hm, hmm, _, hx⟩
  · simp at hcs
    subst hcs
    exact ⟨_, _, _, [], rfl, ES.nil _ _, Nat.le_refl _, by decide, fun _ => rfl⟩
  · simp at hcs
    subst hcs
    have hmm' : m = cap := by simpa using hmm
    subst hmm'
    rw [Try.cellsEff] at hx
    have each : ∀ i, i < len → ∃ e : Eff, ByF e ∧ ∀ j u, (encF e)[j]? = some u → W.cell? (a.add (i * 6 + j)) = some u := by
      intro i hi
      obtain ⟨cs', h1, h2⟩ := hx i (by omega)
      obtain ⟨_, hlen, hcell⟩ := World.cells?_some h1
      obtain ⟨v0, v1, v2, v3, v4, v5, rfl⟩ := len6 cs' hlen
      obtain ⟨e, he1, he2⟩ := eff_trod h2
      refine ⟨e, he1, fun j u hj => ?_⟩
      rw [he2] at hj
      have hj6 : j < 6 := (List.getElem?_eq_some_iff.1 hj).1
      have q := hcell j hj6
      rw [Deep.add_add] at q
      rw [q]
      exact hj
    have hf : ∃ f : Nat → Eff, ∀ i, i < len → ByF (f i) ∧ ∀ j u, (encF (f i))[j]? = some u → W.cell? (a.add (i * 6 + j)) = some u := by
      refine ⟨fun i => if h : i < len then Classical.choose (each i h) else (0, 0, [], 0, 0, []), fun i hi => ?_⟩
      have := Classical.choose_spec (each i hi)
      simpa [hi] using this
    obtain ⟨f, hf⟩ := hf
    refine ⟨_, _, _, (List.range len).map f, rfl, ⟨⟨by simp, by omega, ?_⟩, ?_⟩, hl, hm, fun h => by cases h⟩
    · rcases Nat.eq_zero_or_pos len with h0 | hp
      · exact .inl h0
      · obtain ⟨b, off, spot⟩ := a
        have hspot : spot = none := by
          have := (hf 0 hp).2 0 _ rfl
          simpa [Addr.add] using World.cell?_spot this
        subst hspot
        refine .inr ⟨b, off, rfl, fun i x hi j u hj => ?_⟩
        have hil : i < len := by have := (List.getElem?_eq_some_iff.1 hi).1; simpa using this
        have hxf : x = f i := by simpa [hil] using hi.symm
        subst hxf
        have q := (hf i hil).2 j u hj
        rw [addr_add] at q
        rw [Nat.add_assoc]
        exact q
    · intro x hx
      obtain ⟨i, hi, rfl⟩ := List.mem_map.1 hx
      exact (hf i (List.mem_range.1 hi)).1
theorem arr4 {c : Array Value} (h : c.size = 4) : ∃ a b d e, c = #[a, b, d, e] := by
  obtain ⟨l⟩ := c
  obtain ⟨a, b, d, e, rfl⟩ := len4 l (by simpa using h)
  exact ⟨a, b, d, e, rfl⟩
set_option maxRecDepth 100000 in
theorem evt_trod {n : Nat} {v0 v1 v2 v3 : Value} {x : DataW H × List MemPlace} (h : DataW.trod enc Try.prog W 0 (fun _ => true) true n 28 [v0, v1, v2, v3] = some x) :
    ∃ (r s : Int) (pa : Option Addr) (na ca : Nat) (pe : Option Addr) (ne ce : Nat) (c : List Int) (l : List Eff), [v0, v1, v2, v3] = [.int .i64 r, .int .i64 s, .slice pa na ca, .slice pe ne ce] ∧ NS W pa na c ∧ CP pa na ca ∧ ES W pe ne l ∧ CP pe ne ce := by
  obtain ⟨xs, k, hk, hxy, _, hxl, hf⟩ := DataW.trod_struct Try.underlying28 h
  obtain ⟨y0, xs', rfl⟩ : ∃ y ys, xs = y :: ys := by cases xs with | nil => simp at hxl | cons y ys => exact ⟨y, ys, rfl⟩
  obtain ⟨y1, y2, rfl⟩ := len2 xs' (by simpa using hxl)
  have g0 : DataW.trod enc Try.prog W 0 (fun _ => true) true k 23 (([v0, v1, v2, v3].drop 0).take (Try.prog.cellsOf 23)) = some y0 := hf 0 _ rfl
  have g1 : DataW.trod enc Try.prog W 0 (fun _ => true) true k 25 (([v0, v1, v2, v3].drop 2).take (Try.prog.cellsOf 25)) = some y1 := hf 1 _ rfl
  have g2 : DataW.trod enc Try.prog W 0 (fun _ => true) true k 26 (([v0, v1, v2, v3].drop 3).take (Try.prog.cellsOf 26)) = some y2 := hf 2 _ rfl
  rw [Try.cellsDot] at g0
  rw [Try.cellsClk] at g1
  rw [Try.cellsEfs] at g2
  obtain ⟨z0, z1, k2, _, _, d0, d1⟩ := trod_struct2 Try.underlying23 g0
  have d0' : DataW.trod enc Try.prog W 0 (fun _ => true) true k2 3 ((((([v0, v1, v2, v3].drop 0).take 2)).drop 0).take (Try.prog.cellsOf 3)) = some z0 := d0
  have d1' : DataW.trod enc Try.prog W 0 (fun _ => true) true k2 3 ((((([v0, v1, v2, v3].drop 0).take 2)).drop 1).take (Try.prog.cellsOf 3)) = some z1 := d1
  rw [Try.cellsInt] at d0' d1'
  obtain ⟨r, hr, _, _⟩ := DataW.trod_int Try.underlying3 d0'
  obtain ⟨s, hs, _, _⟩ := DataW.trod_int Try.underlying3 d1'
  simp at hr hs
  obtain ⟨pa, na, ca, c, hv2, hns, hca⟩ := numsE_trod (v := v2) (by simpa using g1)
  obtain ⟨pe, ne, ce, l, hv3, hes, hce⟩ := effs_trod (v := v3) (by simpa using g2)
  exact ⟨r, s, pa, na, ca, pe, ne, ce, c, l, by rw [hr, hs, hv2, hv3], hns, hca, hes, hce⟩
set_option maxRecDepth 100000 in
theorem in_event {v : Value} {d : DataW H} {p : List MemPlace} {base : Nat} (hok : Value.okWide Try.prog W .any base 28 v) (h : DataW.Trod enc Try.prog W 0 (fun _ => true) true 28 v d p) (hw : ∀ n ∈ d.weights Try.prog 28, n ≤ reachBytes) : InE W v := by
  obtain ⟨cs, rfl, hsz⟩ := okWide_struct Try.underlying28 hok
  obtain ⟨a, b, c, e, rfl⟩ := arr4 (hsz.trans Try.cellsEvt)
  obtain ⟨fuel, hf⟩ := h
  obtain ⟨r, s, pa, na, ca, pe, ne, ce, cc, l, hv, h1, h2, h3, h4⟩ := evt_trod (v0 := a) (v1 := b) (v2 := c) (v3 := e) (by simpa [Value.cells] using hf)
  simp only [List.cons.injEq, and_true] at hv
  obtain ⟨rfl, rfl, rfl, rfl⟩ := hv
  exact ⟨r, s, pa, na, ca, pe, ne, ce, cc, l, rfl, h1, h2, h3, h4⟩
end

def LightR (n : Nat) (w : World) (e : Ending) (w' : World) : Prop := ∃ b : Bool, e = .returned (.bool b) ∧ (b = true → n ≤ 40) ∧ w' = w
set_option maxHeartbeats 4000000 in
/-- 'Light' answers, and where it says yes there are 40 at most. -/
theorem light5 (a : Option Addr) (n cap : Nat) (es : List Evt) (w : World) (hE : EVS w a n es) : Calls Try.prog 8 #[.slice a n cap] w (LightR n w) := by
  have HV := hide hE
  have hmx := hE.max
  unfold maxLen at hmx
  clear hE
  go_enter Try.func8, Try.ntmps8
  go_wp2
  go_loopw [3] (fun i wr => ∃ k : Nat, k ≤ n ∧ k ≤ 41 ∧ i = .int .i64 k ∧ wr = w) (fun i _ => n - (intOf i).toNat)
  case atStart => exact ⟨0, by omega, by omega, rfl, rfl⟩
  case round =>
    obtain ⟨k, hk, hk2, rfl, hw⟩ := hrel
    obtain ⟨wo, hwo⟩ : ∃ x, x = wr := ⟨wr, rfl⟩
    subst hwo
    subst hw
    by_cases hlt : k < n
    · by_cases hk40 : (k : Int) ≤ 40
      · obtain ⟨b, off, rfl⟩ := HV.out.addr (by omega)
        obtain ⟨r, s, pa, na, ca, pe, ne, ce, c, fs, hx, x0, x1, x2, x3, hns, hca, hes, hce⟩ := HV.out.at k hlt
        have hna := hns.2.1
        have hne := hes.1.2.1
        unfold maxLen at hna hne
        by_cases h1 : (na : Int) > 20
        · go_wp2
          go_ret
          exact ⟨false, rfl, (fun h => by cases h), rfl⟩
        · by_cases h2 : (ne : Int) > 30
          · go_wp2
            go_ret
            exact ⟨false, rfl, (fun h => by cases h), rfl⟩
          · have HES := hide hes
            have hnl := hide hes.1.1
            clear hes hns hca hce hx x0 x1
            go_wp2
            go_loopw [4] (fun i wr => ∃ j : Nat, j ≤ ne ∧ i = .int .i64 j ∧ wr = wo) (fun i _ => ne - (intOf i).toNat)
            case atStart => exact ⟨0, by omega, rfl, rfl⟩
            case round =>
              obtain ⟨j, hj, rfl, hw2⟩ := hrel
              subst hw2
              by_cases hjl : j < ne
              · rcases HES.out.1.2.2 with h0 | ⟨be, oe, rfl, _⟩
                · omega
                obtain ⟨f, hf⟩ : ∃ f, fs[j]? = some f := ⟨_, List.getElem?_eq_getElem (by rw [hnl.out]; exact hjl)⟩
                obtain ⟨_, _, y2, _, _, y5⟩ := HES.out.at j f hf
                generalize strOfNums f.2.2.1 = sk at y2
                generalize strOfNums f.2.2.2.2.2 = sw at y5
                clear hf
                by_cases h3 : (sk.size : Int) > 100
                · go_wp2
                  go_ret
                  exact ⟨false, rfl, (fun h => by cases h), rfl⟩
                · by_cases h4 : (sw.size : Int) > 100
                  · go_wp2
                    go_ret
                    exact ⟨false, rfl, (fun h => by cases h), rfl⟩
                  · go_wp2
                    go_roundw
                    case rel => exact ⟨j + 1, by omega, by go_num, trivial⟩
                    case measure => simp [intOf]; omega
              · have hjk : j = ne := by omega
                subst hjk
                go_wp2
                go_roundw
                case rel => exact ⟨k + 1, by omega, by omega, by go_num, trivial⟩
                case measure => simp [intOf]; omega
      · go_wp2
        go_ret
        exact ⟨_, rfl, (fun h => by have := of_decide_eq_true h; omega), rfl⟩
    · have hkl : k = n := by omega
      subst hkl
      by_cases h40 : (k : Int) ≤ 40
      · go_wp2
        go_ret
        exact ⟨_, rfl, (fun h => by omega), rfl⟩
      · go_wp2
        go_ret
        exact ⟨false, rfl, (fun h => by cases h), rfl⟩
end Go.Proofs.Ytooggheoaglbeaa

