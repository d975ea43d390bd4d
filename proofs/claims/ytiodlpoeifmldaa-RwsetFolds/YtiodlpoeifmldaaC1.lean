/- What comes into layer 8's statements; their Light and awake. -/
import Derived.Test.YtiodlpoeifmldaaA7b
import Derived.Test.YtiodlpoeifmldaaGW
namespace Go.Proofs.Ytiodlpoeifmldaa
open Go.RowKit Go.ChangeShapes Go.WideShapes
set_option linter.unusedVariables false
def dotR : Rl Dot := fun _ cs x => cs = [.int .i64 x.1, .int .i64 x.2]
theorem Try.cellsDot : Try.prog.cellsOf 24 = 2 := by kernel_rfl
theorem Try.cellsEnt : Try.prog.cellsOf 48 = 3 := by kernel_rfl
theorem Try.cellsDeed : Try.prog.cellsOf 28 = 4 := by kernel_rfl
theorem Try.cellsI8 : Try.prog.cellsOf 3 = 1 := by kernel_rfl
theorem Try.cellsS8 : Try.prog.cellsOf 9 = 1 := by kernel_rfl
theorem Try.cellsD8 : Try.prog.cellsOf 46 = 1 := by kernel_rfl
theorem Try.cellsC8 : Try.prog.cellsOf 26 = 1 := by kernel_rfl
theorem len2N {α : Type} (l : List α) (h : l.length = 2) : ∃ a b, l = [a, b] := by
  match l, h with
  | [a, b], _ => exact ⟨a, b, rfl⟩
theorem len3N {α : Type} (l : List α) (h : l.length = 3) : ∃ a b c, l = [a, b, c] := by
  match l, h with
  | [a, b, c], _ => exact ⟨a, b, c, rfl⟩
theorem len4N {α : Type} (l : List α) (h : l.length = 4) : ∃ a b c d, l = [a, b, c, d] := by
  match l, h with
  | [a, b, c, d], _ => exact ⟨a, b, c, d, rfl⟩
set_option maxRecDepth 100000 in
theorem open_dot : Opens 24 dotR := by
  intro H enc W fuel cs y h
  obtain ⟨xs, k, hk, hxy, hcl, hxl, hf⟩ := DataW.trod_struct Try.underlying24 h
  rw [Try.cellsDot] at hcl
  obtain ⟨v0, v1, rfl⟩ := len2N cs hcl
  obtain ⟨y0, y1, rfl⟩ := len2N xs hxl
  have g0 : DataW.trod enc Try.prog W 0 (fun _ => true) true k 3 (([v0, v1].drop 0).take (Try.prog.cellsOf 3)) = some y0 := hf 0 _ rfl
  have g1 : DataW.trod enc Try.prog W 0 (fun _ => true) true k 3 (([v0, v1].drop 1).take (Try.prog.cellsOf 3)) = some y1 := hf 1 _ rfl
  rw [Try.cellsI8] at g0 g1
  obtain ⟨a0, h0⟩ := Opens.int Try.underlying3 _ _ _ _ _ _ g0
  obtain ⟨a1, h1⟩ := Opens.int Try.underlying3 _ _ _ _ _ _ g1
  simp [intR] at h0 h1
  exact ⟨(a0, a1), by rw [h0, h1]; rfl⟩
theorem SR.ds {w : World} {a : Option Addr} {n : Nat} {l : List Dot} (h : SR 2 dotR w a n l) : DS w a n l := by
  obtain ⟨h1, h2, h3⟩ := h
  refine ⟨h1, h2, h3.imp id ?_⟩
  rintro ⟨b, off, ha, hc⟩
  refine ⟨b, off, ha, fun i hi => ?_⟩
  have hl : i < l.length := by rw [h1]; exact hi
  obtain ⟨r, _, hr, hcell⟩ := hc i l[i] (List.getElem?_eq_getElem hl)
  rw [hr] at hcell
  rw [List.getD_eq_getElem?_getD, List.getElem?_eq_getElem hl]
  exact ⟨hcell 0 _ rfl, hcell 1 _ rfl⟩
def entR : Rl En := fun w cs x => ∃ p n c pd nd cd, cs = [.string x.1, .slice p n c, .slice pd nd cd] ∧ (DS w p n x.2.1 ∧ CP p n c) ∧ DS w pd nd x.2.2 ∧ CP pd nd cd
theorem open_dots8 {H : Type} {enc : TypeId × Value → H} {W : World} {fuel : Nat} {v : Value} {y : DataW H × List MemPlace} (h : DataW.trod enc Try.prog W 0 (fun _ => true) true fuel 46 [v] = some y) : ∃ (l : List Dot) (a : Option Addr) (n cap : Nat), v = .slice a n cap ∧ DS W a n l ∧ CP a n cap := by
  obtain ⟨l, a, n, cap, hv, h1, h2⟩ := Opens.slice Try.underlying46 Try.cellsDot (by decide) open_dot (0, 0) _ _ _ _ _ _ h
  exact ⟨l, a, n, cap, by simpa using hv, h1.ds, h2⟩
set_option maxRecDepth 100000 in
theorem open_ent : Opens 48 entR := by
  intro H enc W fuel cs y h
  obtain ⟨xs, k, hk, hxy, hcl, hxl, hf⟩ := DataW.trod_struct Try.underlying48 h
  rw [Try.cellsEnt] at hcl
  obtain ⟨v0, v1, v2, rfl⟩ := len3N cs hcl
  obtain ⟨y0, y1, y2, rfl⟩ := len3N xs hxl
  have g0 : DataW.trod enc Try.prog W 0 (fun _ => true) true k 9 (([v0, v1, v2].drop 0).take (Try.prog.cellsOf 9)) = some y0 := hf 0 _ rfl
  have g1 : DataW.trod enc Try.prog W 0 (fun _ => true) true k 46 (([v0, v1, v2].drop 1).take (Try.prog.cellsOf 46)) = some y1 := hf 1 _ rfl
  have g2 : DataW.trod enc Try.prog W 0 (fun _ => true) true k 46 (([v0, v1, v2].drop 2).take (Try.prog.cellsOf 46)) = some y2 := hf 2 _ rfl
  rw [Try.cellsS8] at g0
  rw [Try.cellsD8] at g1 g2
  obtain ⟨s0, h0⟩ := Opens.string Try.underlying9 _ _ _ _ _ _ g0
  obtain ⟨l1, a1, n1, c1, rfl, h1, q1⟩ := open_dots8 g1
  obtain ⟨l2, a2, n2, c2, rfl, h2, q2⟩ := open_dots8 g2
  simp [strR] at h0
  subst h0
  exact ⟨(s0, l1, l2), a1, n1, c1, a2, n2, c2, rfl, ⟨h1, q1⟩, h2, q2⟩
theorem SR.nss {w : World} {a : Option Addr} {n : Nat} {s : List En} (h : SR 3 entR w a n s) : NSS w a n s := by
  obtain ⟨h1, h2, h3⟩ := h
  rcases h3 with h3 | ⟨b, off, rfl, hc⟩
  · subst h3
    obtain rfl : s = [] := List.eq_nil_of_length_eq_zero h1
    exact NSS.nil w a
  · have each : ∀ i, i < s.length → ∃ x : Ne, (∀ e, s[i]? = some e → RelN w x e) ∧ ∀ j v, (encN x)[j]? = some v → w.cell? ⟨b, off + i * 3 + j, none⟩ = some v := by
      intro i hi
      obtain ⟨r, q1, ⟨p, n, c, pd, nd, cd, rfl, k1, k2⟩, q4⟩ := hc i s[i] (List.getElem?_eq_getElem hi)
      refine ⟨(s[i].1, (p, n, c), (pd, nd, cd)), fun e he => ?_, q4⟩
      rw [List.getElem?_eq_getElem hi] at he
      cases he
      exact ⟨rfl, k1, k2⟩
    have hf : ∃ f : Nat → Ne, ∀ i, i < s.length → (∀ e, s[i]? = some e → RelN w (f i) e) ∧ ∀ j v, (encN (f i))[j]? = some v → w.cell? ⟨b, off + i * 3 + j, none⟩ = some v := by
      refine ⟨fun i => if h : i < s.length then Classical.choose (each i h) else (⟨#[]⟩, (none, 0, 0), (none, 0, 0)), fun i hi => ?_⟩
      have := Classical.choose_spec (each i hi)
      simpa only [hi, dif_pos] using this
    obtain ⟨f, hf⟩ := hf
    refine ⟨(List.range s.length).map f, ⟨by simp [h1], h2, .inr ⟨b, off, rfl, ?_⟩⟩, by simp, ?_⟩
    · intro i x hi j v hj
      have hil : i < s.length := by have := (List.getElem?_eq_some_iff.1 hi).1; simpa using this
      have hx : x = f i := by simpa [hil] using hi.symm
      subst hx
      exact (hf i hil).2 j v hj
    · intro i x e hi he
      have hil : i < s.length := (List.getElem?_eq_some_iff.1 he).1
      have hx : x = f i := by simpa [hil] using hi.symm
      subst hx
      exact (hf i hil).1 e he
/-- A set that came in. -/
def InNs (w : World) (v : Value) : Prop := ∃ a n cap s, v = .slice a n cap ∧ NSS w a n s ∧ CP a n cap
set_option maxRecDepth 100000 in
theorem in_ents {H : Type} {enc : TypeId × Value → H} {W : World} {v : Value} {d : DataW H} {p : List MemPlace} {base : Nat} (hok : Value.okWide Try.prog W .any base 22 v) (h : DataW.Trod enc Try.prog W 0 (fun _ => true) true 22 v d p) (hw : ∀ n ∈ d.weights Try.prog 22, n ≤ reachBytes) : InNs W v := by
  obtain ⟨l, a, n, cap, hv, h1, h2⟩ := Opens.in Try.underlying22 (Opens.slice Try.underlying22 Try.cellsEnt (by decide) open_ent (⟨#[]⟩, [], [])) hok h
  exact ⟨a, n, cap, l, by simpa using hv, h1.nss, h2⟩
/-- A deed that came in. -/
def InDd (w : World) (v : Value) : Prop := ∃ t r q pa na ca c, v = .agg #[.string t, .int .i64 r, .int .i64 q, .slice pa na ca] ∧ NS w pa na c ∧ CP pa na ca
set_option maxRecDepth 100000 in
theorem in_deed {H : Type} {enc : TypeId × Value → H} {W : World} {v : Value} {d : DataW H} {p : List MemPlace} {base : Nat} (hok : Value.okWide Try.prog W .any base 28 v) (h : DataW.Trod enc Try.prog W 0 (fun _ => true) true 28 v d p) (hw : ∀ n ∈ d.weights Try.prog 28, n ≤ reachBytes) : InDd W v := by
  obtain ⟨cs, rfl, hsz⟩ := okWide_struct Try.underlying28 hok
  obtain ⟨cs⟩ := cs
  obtain ⟨a0, a1, a2, a3, rfl⟩ := len4N cs (by simpa using hsz.trans Try.cellsDeed)
  obtain ⟨fuel, hf⟩ := h
  obtain ⟨xs, k, hk, hxy, hcl, hxl, hf⟩ := DataW.trod_struct Try.underlying28 (show DataW.trod enc Try.prog W 0 (fun _ => true) true fuel 28 [a0, a1, a2, a3] = some (d, p) from by simpa [Value.cells] using hf)
  obtain ⟨y0, y1, y2, rfl⟩ := len3N xs hxl
  have g0 : DataW.trod enc Try.prog W 0 (fun _ => true) true k 9 (([a0, a1, a2, a3].drop 0).take (Try.prog.cellsOf 9)) = some y0 := hf 0 _ rfl
  have g1 : DataW.trod enc Try.prog W 0 (fun _ => true) true k 24 (([a0, a1, a2, a3].drop 1).take (Try.prog.cellsOf 24)) = some y1 := hf 1 _ rfl
  have g2 : DataW.trod enc Try.prog W 0 (fun _ => true) true k 26 (([a0, a1, a2, a3].drop 3).take (Try.prog.cellsOf 26)) = some y2 := hf 2 _ rfl
  rw [Try.cellsS8] at g0
  rw [Try.cellsDot] at g1
  rw [Try.cellsC8] at g2
  obtain ⟨s0, h0⟩ := Opens.string Try.underlying9 _ _ _ _ _ _ g0
  obtain ⟨dd, h1⟩ := open_dot _ _ _ _ _ _ g1
  obtain ⟨l4, p4, n4, c4, h4, q4, r4⟩ := Opens.nums Try.underlying26 Try.underlying3 Try.cellsI8 _ _ _ _ _ _ g2
  simp [strR] at h0
  simp [dotR] at h1
  simp at h4
  exact ⟨s0, dd.1, dd.2, p4, n4, c4, l4, by rw [h0, h1.1, h1.2, h4], q4, r4⟩
/-- A text that came in. -/
def InS (w : World) (v : Value) : Prop := ∃ t, v = .string t
set_option maxRecDepth 100000 in
theorem in_str8 {H : Type} {enc : TypeId × Value → H} {W : World} {v : Value} {d : DataW H} {p : List MemPlace} {base : Nat} (hok : Value.okWide Try.prog W .any base 9 v) (h : DataW.Trod enc Try.prog W 0 (fun _ => true) true 9 v d p) (hw : ∀ n ∈ d.weights Try.prog 9, n ≤ reachBytes) : InS W v := by
  obtain ⟨s, hs⟩ := okWide_string Try.underlying9 hok
  exact ⟨s, hs⟩
/-- A set is not too great. -/
def fewN (x : En) : Prop := x.1.size ≤ 100 ∧ x.2.1.length ≤ 30 ∧ x.2.2.length ≤ 30
def LightN (n : Nat) (s : List En) (w : World) (e : Ending) (w' : World) : Prop := ∃ b : Bool, e = .returned (.bool b) ∧ (b = true → n ≤ 30 ∧ ∀ x ∈ s, fewN x) ∧ w' = w
set_option maxHeartbeats 2000000 in
theorem light8 (a : Option Addr) (n cap : Nat) (s : List En) (w : World) (hA : NSS w a n s) : Calls Try.prog 7 #[.slice a n cap] w (LightN n s w) := by
  have HV := hide hA
  have HLEN := hide hA.len
  have hmx := hA.max
  unfold maxLen at hmx
  clear hA
  go_enter Try.func7, Try.ntmps7
  go_wp2
  go_loopw [3] (fun i wr => ∃ k : Nat, k ≤ n ∧ k ≤ 31 ∧ i = .int .i64 k ∧ Hid (∀ x ∈ s.take k, fewN x) ∧ wr = w) (fun i _ => n - (intOf i).toNat)
  case atStart => exact ⟨0, by omega, by omega, rfl, (fun x hx => by simp at hx), rfl⟩
  case round =>
    obtain ⟨k0, hk, hk2, rfl, HF, hw⟩ := hrel
    subst hw
    by_cases hlt : k0 < n
    · by_cases hk30 : (k0 : Int) ≤ 30
      · obtain ⟨b, off, rfl⟩ := HV.out.addr (by omega)
        obtain ⟨k, pl, nl, cl, pd, nd, cd, ll, mm, hx, c0, c1, c2, h1, _, h3, _⟩ := HV.out.at k0 hlt
        have hk0 : (0 : Int) ≤ (k0 : Int) := by omega
        have hk1 : (k0 : Int) < (n : Int) := by omega
        by_cases q1 : (k.size : Int) ≤ 100
        · by_cases q2 : (nl : Int) ≤ 30
          · by_cases q3 : (nd : Int) ≤ 30
            · have HF2 : Hid (∀ x ∈ s.take (k0 + 1), fewN x) := by
                intro x hx'
                rw [take_snocL hx] at hx'
                rcases List.mem_append.1 hx' with q | q
                · exact HF.out x q
                · simp at q
                  subst q
                  have := h1.1
                  have := h3.1
                  exact ⟨by simp only; omega, by simp only; omega, by simp only; omega⟩
              clear hx h1 h3
              go_wp2
              go_roundw
              case rel => exact ⟨k0 + 1, by omega, by omega, by go_num, HF2, trivial⟩
              case measure => simp [intOf]; omega
            · clear hx h1 h3
              go_wp2
              go_ret
              exact ⟨false, rfl, (fun h => by cases h), rfl⟩
          · clear hx h1 h3
            go_wp2
            go_ret
            exact ⟨false, rfl, (fun h => by cases h), rfl⟩
        · clear hx h1 h3
          go_wp2
          go_ret
          exact ⟨false, rfl, (fun h => by cases h), rfl⟩
      · have hn30 : ¬ (n : Int) ≤ 30 := by omega
        go_wp2
        go_ret
        exact ⟨false, by simp, (fun h => by cases h), rfl⟩
    · obtain rfl : k0 = n := by omega
      have HF2 : Hid (∀ x ∈ s, fewN x) := by have := HF.out; rwa [← HLEN.out, List.take_length] at this
      by_cases hk30 : (k0 : Int) ≤ 30
      · go_wp2
        go_ret
        exact ⟨true, by simp, (fun _ => ⟨by omega, HF2.out⟩), rfl⟩
      · go_wp2
        go_ret
        exact ⟨false, by simp, (fun h => by cases h), rfl⟩
/-- The key of 'awake'. -/
def kk : ByteArray := ⟨#[107]⟩
end Go.Proofs.Ytiodlpoeifmldaa
