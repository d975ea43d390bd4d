/- Texts of this claim, joined: C1, D0, Z0, Z5, G0, GT0, GE0. -/
import Derived.Test.YtkbbegbpkndebaaGreatJ1
import Derived.Test.YtkbbegbpkndebaaGreatJ10
import Derived.Test.YtkbbegbpkndebaaGreatJ2
import Derived.Test.YtkbbegbpkndebaaGreatJ3
import Derived.Test.YtkbbegbpkndebaaGreatJ4
/- What comes into layer 8's statements; their Light and awake. -/
namespace Go.Proofs.YtkbbegbpkndebaaGreat
open Go.RowKit Go.ChangeShapes Go.WideShapes
set_option linter.unusedVariables false
def dotR : Rl Dot := fun _ cs x => cs = [.int .i64 x.1, .int .i64 x.2]
theorem Tryz.cellsDot : Tryz.prog.cellsOf 33 = 2 := by kernel_rfl
theorem Tryz.cellsEnt : Tryz.prog.cellsOf 125 = 3 := by kernel_rfl
theorem Tryz.cellsI8 : Tryz.prog.cellsOf 3 = 1 := by kernel_rfl
theorem Tryz.cellsS8 : Tryz.prog.cellsOf 9 = 1 := by kernel_rfl
theorem Tryz.cellsD8 : Tryz.prog.cellsOf 123 = 1 := by kernel_rfl
theorem len2N {α : Type} (l : List α) (h : l.length = 2) : ∃ a b, l = [a, b] := by
  match l, h with
  | [a, b], _ => exact ⟨a, b, rfl⟩
theorem len3N {α : Type} (l : List α) (h : l.length = 3) : ∃ a b c, l = [a, b, c] := by
  match l, h with
  | [a, b, c], _ => exact ⟨a, b, c, rfl⟩
set_option maxRecDepth 100000 in
theorem open_dot : Opens 33 dotR := by
  intro H enc W fuel cs y h
  obtain ⟨xs, k, hk, hxy, hcl, hxl, hf⟩ := DataW.trod_struct Tryz.underlying33 h
  rw [Tryz.cellsDot] at hcl
  obtain ⟨v0, v1, rfl⟩ := len2N cs hcl
  obtain ⟨y0, y1, rfl⟩ := len2N xs hxl
  have g0 : DataW.trod enc Tryz.prog W 0 (fun _ => true) true k 3 (([v0, v1].drop 0).take (Tryz.prog.cellsOf 3)) = some y0 := hf 0 _ rfl
  have g1 : DataW.trod enc Tryz.prog W 0 (fun _ => true) true k 3 (([v0, v1].drop 1).take (Tryz.prog.cellsOf 3)) = some y1 := hf 1 _ rfl
  rw [Tryz.cellsI8] at g0 g1
  obtain ⟨a0, h0⟩ := Opens.int Tryz.underlying3 _ _ _ _ _ _ g0
  obtain ⟨a1, h1⟩ := Opens.int Tryz.underlying3 _ _ _ _ _ _ g1
  simp [intR] at h0 h1
  exact ⟨(a0, a1), by rw [h0, h1]; rfl⟩
theorem SR.ds {w : World} {a : Option Addr} {n : Nat} {l : List Dot} (h : SR 2 dotR w a n l) : DS w a n l := by
  obtain ⟨h1, h2, h3⟩ := h
  refine ⟨h1, h2, h3.imp id ?_⟩
  rintro ⟨b, off, ha, hc⟩
  refine ⟨b, off, ha, fun i hi => ?_⟩
  have hl : i < l.length := by rw [h1]; exact hi
  obtain ⟨r, _, hr, hcell⟩ := hc i l[i] (List.getElem?_eq_getElem hl)
  rw [hr] at hcell
  rw [List.getD_eq_getElem?_getD, List.getElem?_eq_getElem hl]
  exact ⟨hcell 0 _ rfl, hcell 1 _ rfl⟩
def entR : Rl En := fun w cs x => ∃ p n c pd nd cd, cs = [.string x.1, .slice p n c, .slice pd nd cd] ∧ (DS w p n x.2.1 ∧ CP p n c) ∧ DS w pd nd x.2.2 ∧ CP pd nd cd
theorem open_dots8 {H : Type} {enc : TypeId × Value → H} {W : World} {fuel : Nat} {v : Value} {y : DataW H × List MemPlace} (h : DataW.trod enc Tryz.prog W 0 (fun _ => true) true fuel 123 [v] = some y) : ∃ (l : List Dot) (a : Option Addr) (n cap : Nat), v = .slice a n cap ∧ DS W a n l ∧ CP a n cap := by
  obtain ⟨l, a, n, cap, hv, h1, h2⟩ := Opens.slice Tryz.underlying123 Tryz.cellsDot (by decide) open_dot (0, 0) _ _ _ _ _ _ h
  exact ⟨l, a, n, cap, by simpa using hv, h1.ds, h2⟩
set_option maxRecDepth 100000 in
theorem open_ent : Opens 125 entR := by
  intro H enc W fuel cs y h
  obtain ⟨xs, k, hk, hxy, hcl, hxl, hf⟩ := DataW.trod_struct Tryz.underlying125 h
  rw [Tryz.cellsEnt] at hcl
  obtain ⟨v0, v1, v2, rfl⟩ := len3N cs hcl
  obtain ⟨y0, y1, y2, rfl⟩ := len3N xs hxl
  have g0 : DataW.trod enc Tryz.prog W 0 (fun _ => true) true k 9 (([v0, v1, v2].drop 0).take (Tryz.prog.cellsOf 9)) = some y0 := hf 0 _ rfl
  have g1 : DataW.trod enc Tryz.prog W 0 (fun _ => true) true k 123 (([v0, v1, v2].drop 1).take (Tryz.prog.cellsOf 123)) = some y1 := hf 1 _ rfl
  have g2 : DataW.trod enc Tryz.prog W 0 (fun _ => true) true k 123 (([v0, v1, v2].drop 2).take (Tryz.prog.cellsOf 123)) = some y2 := hf 2 _ rfl
  rw [Tryz.cellsS8] at g0
  rw [Tryz.cellsD8] at g1 g2
  obtain ⟨s0, h0⟩ := Opens.string Tryz.underlying9 _ _ _ _ _ _ g0
  obtain ⟨l1, a1, n1, c1, rfl, h1, q1⟩ := open_dots8 g1
  obtain ⟨l2, a2, n2, c2, rfl, h2, q2⟩ := open_dots8 g2
  simp [strR] at h0
  subst h0
  exact ⟨(s0, l1, l2), a1, n1, c1, a2, n2, c2, rfl, ⟨h1, q1⟩, h2, q2⟩
theorem SR.nss {w : World} {a : Option Addr} {n : Nat} {s : List En} (h : SR 3 entR w a n s) : NSS w a n s := by
  obtain ⟨h1, h2, h3⟩ := h
  rcases h3 with h3 | ⟨b, off, rfl, hc⟩
  · subst h3
    obtain rfl : s = [] := List.eq_nil_of_length_eq_zero h1
    exact NSS.nil w a
  · have each : ∀ i, i < s.length → ∃ x : Ne, (∀ e, s[i]? = some e → RelN w x e) ∧ ∀ j v, (encN x)[j]? = some v → w.cell? ⟨b, off + i * 3 + j, none⟩ = some v := by
      intro i hi
      obtain ⟨r, q1, ⟨p, n, c, pd, nd, cd, rfl, k1, k2⟩, q4⟩ := hc i s[i] (List.getElem?_eq_getElem hi)
      refine ⟨(s[i].1, (p, n, c), (pd, nd, cd)), fun e he => ?_, q4⟩
      rw [List.getElem?_eq_getElem hi] at he
      cases he
      exact ⟨rfl, k1, k2⟩
    have hf : ∃ f : Nat → Ne, ∀ i, i < s.length → (∀ e, s[i]? = some e → RelN w (f i) e) ∧ ∀ j v, (encN (f i))[j]? = some v → w.cell? ⟨b, off + i * 3 + j, none⟩ = some v := by
      refine ⟨fun i => if h : i < s.length then Classical.choose (each i h) else (⟨#[]⟩, (none, 0, 0), (none, 0, 0)), fun i hi => ?_⟩
      have := Classical.choose_spec (each i hi)
      simpa only [hi, dif_pos] using this
    obtain ⟨f, hf⟩ := hf
    refine ⟨(List.range s.length).map f, ⟨by simp [h1], h2, .inr ⟨b, off, rfl, ?_⟩⟩, by simp, ?_⟩
    · intro i x hi j v hj
      have hil : i < s.length := by have := (List.getElem?_eq_some_iff.1 hi).1; simpa using this
      have hx : x = f i := by simpa [hil] using hi.symm
      subst hx
      exact (hf i hil).2 j v hj
    · intro i x e hi he
      have hil : i < s.length := (List.getElem?_eq_some_iff.1 he).1
      have hx : x = f i := by simpa [hil] using hi.symm
      subst hx
      exact (hf i hil).1 e he
/-- A set is not too great. -/
def fewN (x : En) : Prop := x.1.size ≤ 100 ∧ x.2.1.length ≤ 30 ∧ x.2.2.length ≤ 30
def LightN (n : Nat) (s : List En) (w : World) (e : Ending) (w' : World) : Prop := ∃ b : Bool, e = .returned (.bool b) ∧ (b = true → n ≤ 30 ∧ ∀ x ∈ s, fewN x) ∧ w' = w
set_option maxHeartbeats 2000000 in
theorem light8 (a : Option Addr) (n cap : Nat) (s : List En) (w : World) (hA : NSS w a n s) : Calls Tryz.prog 35 #[.slice a n cap] w (LightN n s w) := by
  have HV := hide hA
  have HLEN := hide hA.len
  have hmx := hA.max
  unfold maxLen at hmx
  clear hA
  go_enter Tryz.func35, Tryz.ntmps35
  go_wp2
  go_loopw [3] (fun i wr => ∃ k : Nat, k ≤ n ∧ k ≤ 31 ∧ i = .int .i64 k ∧ Hid (∀ x ∈ s.take k, fewN x) ∧ wr = w) (fun i _ => n - (intOf i).toNat)
  case atStart => exact ⟨0, by omega, by omega, rfl, (fun x hx => by simp at hx), rfl⟩
  case round =>
    obtain ⟨k0, hk, hk2, rfl, HF, hw⟩ := hrel
    subst hw
    by_cases hlt : k0 < n
    · by_cases hk30 : (k0 : Int) ≤ 30
      · obtain ⟨b, off, rfl⟩ := HV.out.addr (by omega)
        obtain ⟨k, pl, nl, cl, pd, nd, cd, ll, mm, hx, c0, c1, c2, h1, _, h3, _⟩ := HV.out.at k0 hlt
        have hk0 : (0 : Int) ≤ (k0 : Int) := by omega
        have hk1 : (k0 : Int) < (n : Int) := by omega
        by_cases q1 : (k.size : Int) ≤ 100
        · by_cases q2 : (nl : Int) ≤ 30
          · by_cases q3 : (nd : Int) ≤ 30
            · have HF2 : Hid (∀ x ∈ s.take (k0 + 1), fewN x) := by
                intro x hx'
                rw [take_snocL hx] at hx'
                rcases List.mem_append.1 hx' with q | q
                · exact HF.out x q
                · simp at q
                  subst q
                  have := h1.1
                  have := h3.1
                  exact ⟨by simp only; omega, by simp only; omega, by simp only; omega⟩
              clear hx h1 h3
              go_wp2
              go_roundw
              case rel => exact ⟨k0 + 1, by omega, by omega, by go_num, HF2, trivial⟩
              case measure => simp [intOf]; omega
            · clear hx h1 h3
              go_wp2
              go_ret
              exact ⟨false, rfl, (fun h => by cases h), rfl⟩
          · clear hx h1 h3
            go_wp2
            go_ret
            exact ⟨false, rfl, (fun h => by cases h), rfl⟩
        · clear hx h1 h3
          go_wp2
          go_ret
          exact ⟨false, rfl, (fun h => by cases h), rfl⟩
      · have hn30 : ¬ (n : Int) ≤ 30 := by omega
        go_wp2
        go_ret
        exact ⟨false, by simp, (fun h => by cases h), rfl⟩
    · obtain rfl : k0 = n := by omega
      have HF2 : Hid (∀ x ∈ s, fewN x) := by have := HF.out; rwa [← HLEN.out, List.take_length] at this
      by_cases hk30 : (k0 : Int) ≤ 30
      · go_wp2
        go_ret
        exact ⟨true, by simp, (fun _ => ⟨by omega, HF2.out⟩), rfl⟩
      · go_wp2
        go_ret
        exact ⟨false, by simp, (fun h => by cases h), rfl⟩
end Go.Proofs.YtkbbegbpkndebaaGreat

/- The theorem of the set (layer 8), in plain mathematics. -/
namespace Go.Proofs.YtkbbegbpkndebaaGreat
set_option linter.unusedVariables false
/-- An effect's key. -/
def kOf (x : Eff) : ByteArray := strOfNums x.2.2.1
/-- Does an event do something of a kind to a key of a thing? -/
def doesB (e : Evt) (kind o : Int) (k : ByteArray) : Bool := e.2.2.any fun x => decide (x.1 = kind) && decide (x.2.1 = o) && decide (kOf x = k)
end Go.Proofs.YtkbbegbpkndebaaGreat

/- Sets of keys with Live and Dead (layer 9), in plain mathematics. -/
namespace Go.Proofs.YtkbbegbpkndebaaGreat
set_option linter.unusedVariables false
/-- Live and Dead. -/
abbrev Pr := List Dot × List Dot
def getP : List En → ByteArray → Pr
  | [], _ => ([], [])
  | x :: r, k => if x.1 = k then x.2 else getP r k
def putP (s : List En) (k : ByteArray) (p : Pr) : List En := s.filter (fun x => ltK x.1 k) ++ (if p = ([], []) then [] else [(k, p)]) ++ s.filter (fun x => ltK k x.1)
theorem getP_or (s : List En) (k : ByteArray) : (getP s k = ([], []) ∧ ∀ x ∈ s, x.1 ≠ k) ∨ ∃ x ∈ s, x.1 = k ∧ getP s k = x.2 := by
  induction s with
  | nil => exact .inl ⟨rfl, fun x hx => by cases hx⟩
  | cons a r ih =>
    by_cases h : a.1 = k
    · exact .inr ⟨a, List.mem_cons_self, h, by simp [getP, h]⟩
    · rcases ih with ⟨h1, h2⟩ | ⟨x, h1, h2, h3⟩
      · refine .inl ⟨by simp [getP, h, h1], fun x hx => ?_⟩
        rcases List.mem_cons.1 hx with rfl | hx
        · exact h
        · exact h2 x hx
      · exact .inr ⟨x, List.mem_cons_of_mem _ h1, h2, by simp [getP, h, h3]⟩
theorem srtP_put {s : List En} (hs : SrtK s) (k : ByteArray) (p : Pr) : SrtK (putP s k p) := by
  unfold putP SrtK
  rw [List.append_assoc, List.pairwise_append, List.pairwise_append]
  refine ⟨List.Pairwise.filter _ hs, ⟨?_, List.Pairwise.filter _ hs, ?_⟩, ?_⟩
  · split <;> simp
  · intro a ha b hb
    split at ha
    · cases ha
    · simp only [List.mem_singleton] at ha
      subst ha
      exact (List.mem_filter.1 hb).2
  · intro a ha b hb
    have ha := (List.mem_filter.1 ha).2
    rcases List.mem_append.1 hb with hb | hb
    · split at hb
      · cases hb
      · simp only [List.mem_singleton] at hb
        subst hb
        exact ha
    · exact ltK_trans ha (List.mem_filter.1 hb).2
theorem memP_put {s : List En} {k : ByteArray} {p : Pr} {x : En} : x ∈ putP s k p ↔ (x ∈ s ∧ x.1 ≠ k) ∨ (p ≠ ([], []) ∧ x = (k, p)) := by
  unfold putP
  simp only [List.mem_append, List.mem_filter]
  constructor
  · rintro ((⟨h1, h2⟩ | h) | ⟨h1, h2⟩)
    · exact .inl ⟨h1, ltK_ne h2⟩
    · split at h
      · cases h
      · exact .inr ⟨by assumption, by simpa using h⟩
    · exact .inl ⟨h1, (ltK_ne h2).symm⟩
  · rintro (⟨h1, h2⟩ | ⟨h1, rfl⟩)
    · rcases hb : ltK x.1 k with _ | _
      · rcases hc : ltK k x.1 with _ | _
        · exact absurd (ltK_tri hb hc) h2
        · exact .inr ⟨h1, rfl⟩
      · exact .inl (.inl ⟨h1, rfl⟩)
    · exact .inl (.inr (by rw [if_neg h1]; exact List.mem_singleton.2 rfl))
theorem putP_len (s : List En) (k : ByteArray) (p : Pr) : (putP s k p).length ≤ s.length + 1 := by
  have h : ∀ t : List En, (t.filter (fun x => ltK x.1 k)).length + (t.filter (fun x => ltK k x.1)).length ≤ t.length := by
    intro t
    induction t with
    | nil => simp
    | cons a r ih =>
      rcases h1 : ltK a.1 k with _ | _
      · rcases h2 : ltK k a.1 with _ | _ <;> simp [h1, h2] <;> omega
      · have h2 := ltK_asym h1
        simp [h1, h2]
        omega
  have := h s
  unfold putP
  simp only [List.length_append]
  split <;> simp <;> omega
/-- What a set has of each key but the empty ones: each entry's pair turned by a function. -/
def mapP (f : Pr → Pr) (s : List En) : List En := (s.map fun x => (x.1, f x.2)).filter fun x => decide (x.2 ≠ ([], []))
theorem mem_map9 {f : Pr → Pr} {s : List En} {y : En} : y ∈ mapP f s ↔ ∃ x ∈ s, y = (x.1, f x.2) ∧ f x.2 ≠ ([], []) := by
  unfold mapP
  rw [List.mem_filter, List.mem_map]
  constructor
  · rintro ⟨⟨x, hx, rfl⟩, h⟩
    exact ⟨x, hx, rfl, by simpa using h⟩
  · rintro ⟨x, hx, rfl, h⟩
    exact ⟨⟨x, hx, rfl⟩, by simpa using h⟩
def plainF (p : Pr) : Pr := (p.1, [])
def dropP (s : List En) (k : ByteArray) (d : Dot) (c : List Int) : List En := putP s k ([], putD (leftD (getP s k).2 c) d)
def addP (s : List En) (k : ByteArray) (d : Dot) (c : List Int) : List En := if leftD (getP s k).2 c = [] then putP s k (putD (leftD (getP s k).1 c) d, (getP s k).2) else s
end Go.Proofs.YtkbbegbpkndebaaGreat

/- Which sets of layer 9 may be; cleaned and plain as the document puts them; what drops leave. -/
namespace Go.Proofs.YtkbbegbpkndebaaGreat
set_option linter.unusedVariables false
def mayN9 (x : En) : Bool := mayK x.1 && decide (x.2 ≠ ([], [])) && rowsB x.2.1 && rowsB x.2.2
def mayS9 (s : List En) : Bool := s.all mayN9 && risB s && decide (s.length ≤ 4000)
theorem mayN9_iff {x : En} : mayN9 x = true ↔ mayK x.1 = true ∧ x.2 ≠ ([], []) ∧ rowsB x.2.1 = true ∧ rowsB x.2.2 = true := by
  unfold mayN9
  rw [Bool.and_eq_true, Bool.and_eq_true, Bool.and_eq_true, decide_eq_true_iff]
  exact ⟨fun h => ⟨h.1.1.1, h.1.1.2, h.1.2, h.2⟩, fun h => ⟨⟨⟨h.1, h.2.1⟩, h.2.2.1⟩, h.2.2.2⟩⟩
theorem mayS9_iff {s : List En} : mayS9 s = true ↔ (∀ x ∈ s, mayN9 x = true) ∧ SrtK s ∧ s.length ≤ 4000 := by
  simp [mayS9, risB_iff, and_assoc]
theorem rows9_get {s : List En} (hs : mayS9 s = true) (k : ByteArray) : rowsB (getP s k).1 = true ∧ rowsB (getP s k).2 = true := by
  rcases getP_or s k with ⟨e, _⟩ | ⟨x, hx, _, e⟩
  · rw [e]; exact ⟨by decide, by decide⟩
  · rw [e]; exact (mayN9_iff.1 ((mayS9_iff.1 hs).1 x hx)).2.2
theorem mayS9_put {s : List En} (hs : mayS9 s = true) {k : ByteArray} (hk : mayK k = true) {p : Pr} (h1 : rowsB p.1 = true) (h2 : rowsB p.2 = true) (hn : s.length < 4000) : mayS9 (putP s k p) = true := by
  obtain ⟨q1, q2, q3⟩ := mayS9_iff.1 hs
  refine mayS9_iff.2 ⟨fun x hx => ?_, srtP_put q2 k p, by have := putP_len s k p; omega⟩
  rcases memP_put.1 hx with ⟨h, _⟩ | ⟨h, rfl⟩
  · exact q1 x h
  · exact mayN9_iff.2 ⟨hk, h, h1, h2⟩
theorem mayS9_drop {s : List En} (hs : mayS9 s = true) {k : ByteArray} (hk : mayK k = true) {d : Dot} (hd : mayD d = true) (c : List Int) (hn : s.length < 4000) : mayS9 (dropP s k d c) = true :=
  mayS9_put hs hk (show rowsB [] = true by decide) (rowsB_putD (rowsB_left (rows9_get hs k).2 c) hd) hn
theorem mayS9_add {s : List En} (hs : mayS9 s = true) {k : ByteArray} (hk : mayK k = true) {d : Dot} (hd : mayD d = true) (c : List Int) (hn : s.length < 4000) : mayS9 (addP s k d c) = true := by
  unfold addP
  split
  · exact mayS9_put hs hk (rowsB_putD (rowsB_left (rows9_get hs k).1 c) hd) (rows9_get hs k).2 hn
  · exact hs
theorem mapP_snoc (f : Pr → Pr) (s : List En) (x : En) : mapP f (s ++ [x]) = mapP f s ++ (if f x.2 = ([], []) then [] else [(x.1, f x.2)]) := by
  unfold mapP
  rw [List.map_append, List.filter_append]
  by_cases h : f x.2 = ([], [])
  · simp [h]
  · simp [h]
end Go.Proofs.YtkbbegbpkndebaaGreat

/- Rows with keys in order: a key's row, a row put, taken out; where a key stands: in plain mathematics, of any rows. -/
namespace Go.Proofs.YtkbbegbpkndebaaGreat
set_option linter.unusedVariables false
section
variable {α : Type} (key : α → ByteArray)
/-- Keys rise. -/
def SrtG (s : List α) : Prop := s.Pairwise (fun a b => ltK (key a) (key b) = true)
/-- A key's row. -/
def getG : List α → ByteArray → Option α
  | [], _ => none
  | x :: r, k => if key x = k then some x else getG r k
/-- A set with a key's row, or without. -/
def putG (s : List α) (k : ByteArray) (x : Option α) : List α := s.filter (fun y => ltK (key y) k) ++ x.toList ++ s.filter (fun y => ltK k (key y))
/-- Keys rise from one to the next. -/
def risG : List α → Bool
  | [] => true
  | [_] => true
  | a :: b :: r => ltK (key a) (key b) && risG (b :: r)
variable {key}
theorem risG_iff : ∀ {s : List α}, risG key s = true ↔ SrtG key s
  | [] => by simp [risG, SrtG]
  | [a] => by simp [risG, SrtG]
  | a :: b :: r => by
    have ih := @risG_iff (b :: r)
    simp only [risG, Bool.and_eq_true, ih, SrtG, List.pairwise_cons]
    constructor
    · rintro ⟨h, k⟩
      refine ⟨fun x hx => ?_, k⟩
      rcases List.mem_cons.1 hx with rfl | hx
      · exact h
      · exact ltK_trans h (k.1 x hx)
    · rintro ⟨h, k⟩
      exact ⟨h b List.mem_cons_self, k⟩
theorem srtG_put {s : List α} (hs : SrtG key s) (k : ByteArray) {x : Option α} (hx : ∀ y, x = some y → key y = k) : SrtG key (putG key s k x) := by
  unfold putG SrtG
  rw [List.append_assoc, List.pairwise_append, List.pairwise_append]
  have hm : ∀ y ∈ x.toList, key y = k := fun y hy => hx y (by simpa using hy)
  refine ⟨List.Pairwise.filter _ hs, ⟨?_, List.Pairwise.filter _ hs, ?_⟩, ?_⟩
  · rcases x with _ | x <;> simp
  · intro a ha b hb
    rw [hm a ha]
    exact (List.mem_filter.1 hb).2
  · intro a ha b hb
    have ha := (List.mem_filter.1 ha).2
    rcases List.mem_append.1 hb with hb | hb
    · rw [hm b hb]
      exact ha
    · exact ltK_trans ha (List.mem_filter.1 hb).2
theorem memG_put {s : List α} {k : ByteArray} {x : Option α} {y : α} : y ∈ putG key s k x ↔ (y ∈ s ∧ key y ≠ k) ∨ x = some y := by
  unfold putG
  simp only [List.mem_append, List.mem_filter, Option.mem_toList]
  constructor
  · rintro ((⟨h1, h2⟩ | h) | ⟨h1, h2⟩)
    · exact .inl ⟨h1, ltK_ne h2⟩
    · exact .inr h
    · exact .inl ⟨h1, (ltK_ne h2).symm⟩
  · rintro (⟨h1, h2⟩ | h)
    · rcases hb : ltK (key y) k with _ | _
      · rcases hc : ltK k (key y) with _ | _
        · exact absurd (ltK_tri hb hc) h2
        · exact .inr ⟨h1, rfl⟩
      · exact .inl (.inl ⟨h1, rfl⟩)
    · exact .inl (.inr h)
theorem putG_len (s : List α) (k : ByteArray) (x : Option α) : (putG key s k x).length ≤ s.length + 1 := by
  have h : ∀ t : List α, (t.filter (fun x => ltK (key x) k)).length + (t.filter (fun x => ltK k (key x))).length ≤ t.length := by
    intro t
    induction t with
    | nil => simp
    | cons a r ih =>
      rcases h1 : ltK (key a) k with _ | _
      · rcases h2 : ltK k (key a) with _ | _ <;> simp [h1, h2] <;> omega
      · have h2 := ltK_asym h1
        simp [h1, h2]
        omega
  have := h s
  unfold putG
  simp only [List.length_append]
  rcases x with _ | x <;> simp <;> omega
theorem srtG_lt {s : List α} (hs : SrtG key s) {i j : Nat} {x y : α} (hi : s[i]? = some x) (hj : s[j]? = some y) (h : i < j) : ltK (key x) (key y) = true := by
  obtain ⟨h1, e1⟩ := List.getElem?_eq_some_iff.1 hi
  obtain ⟨h2, e2⟩ := List.getElem?_eq_some_iff.1 hj
  have := List.pairwise_iff_getElem.1 hs i j h1 h2 h
  rw [e1, e2] at this
  exact this
theorem takeG_snoc {l : List α} {k : Nat} {x : α} (h : l[k]? = some x) : l.take (k + 1) = l.take k ++ [x] := by
  obtain ⟨hk, rfl⟩ := List.getElem?_eq_some_iff.1 h
  rw [List.take_succ_eq_append_getElem hk]
/-- Rows that may be, in order: from one to the next. -/
theorem stepG {may : α → Bool} {s : List α} {k : Nat} {x : α} (hx : s[k]? = some x) (h : (s.take k).all may = true ∧ SrtG key (s.take k)) (hd : may x = true) (hp : ∀ j y, k = j + 1 → s[j]? = some y → ltK (key y) (key x) = true) : (s.take (k + 1)).all may = true ∧ SrtG key (s.take (k + 1)) := by
  rw [takeG_snoc hx]
  refine ⟨by simp [h.1, hd], ?_⟩
  have h2 := h.2
  unfold SrtG at *
  rw [List.pairwise_append]
  refine ⟨h2, List.pairwise_singleton _ _, fun z hz y hy => ?_⟩
  simp at hy
  subst hy
  obtain ⟨i, hi⟩ := List.mem_iff_getElem?.1 hz
  rw [List.getElem?_take] at hi
  split at hi
  · rename_i hik
    obtain ⟨j, rfl⟩ : ∃ j, k = j + 1 := ⟨k - 1, by omega⟩
    have hjl : j < s.length := by have := (List.getElem?_eq_some_iff.1 hx).1; omega
    have hj : s[j]? = some s[j] := List.getElem?_eq_getElem hjl
    have h3 := hp j _ rfl hj
    rcases Nat.lt_or_ge i j with hij | hij
    · have hil : i < s.length := by omega
      have := List.pairwise_iff_getElem.1 h2 i j (by rw [List.length_take]; omega) (by rw [List.length_take]; omega) hij
      rw [List.getElem_take, List.getElem_take] at this
      rw [List.getElem?_eq_getElem hil] at hi
      cases hi
      exact ltK_trans this h3
    · obtain rfl : i = j := by omega
      rw [hj] at hi
      cases hi
      exact h3
  · cases hi
theorem stepGS {may : α → Bool} {s : List α} {j : Nat} {c x : α} (hx : s[j + 1]? = some x) (hc : s[j]? = some c) (h : (s.take (j + 1)).all may = true ∧ SrtG key (s.take (j + 1))) (hd : may x = true) (hl : ltK (key c) (key x) = true) : (s.take (j + 1 + 1)).all may = true ∧ SrtG key (s.take (j + 1 + 1)) := by
  refine stepG hx h hd (fun i e hi he => ?_)
  obtain rfl : i = j := by omega
  rw [hc] at he
  cases he
  exact hl
/-- Which sets of rows may be. -/
def mayG (key : α → ByteArray) (may : α → Bool) (s : List α) : Bool := s.all may && risG key s && decide (s.length ≤ 4000)
theorem mayG_iff {may : α → Bool} {s : List α} : mayG key may s = true ↔ (∀ x ∈ s, may x = true) ∧ SrtG key s ∧ s.length ≤ 4000 := by
  simp [mayG, risG_iff, and_assoc]
theorem mayG_no {may : α → Bool} {s : List α} {k : Nat} {x : α} (hx : s[k]? = some x) (h : may x = false) : mayG key may s = false := by
  rcases hb : mayG key may s with _ | _
  · rfl
  · have := (mayG_iff.1 hb).1 x (List.mem_of_getElem? hx)
    rw [h] at this
    cases this
theorem mayG_less {may : α → Bool} {s : List α} {j : Nat} {c d : α} (hc : s[j]? = some c) (hd : s[j + 1]? = some d) (h : ltK (key c) (key d) = false) : mayG key may s = false := by
  rcases hb : mayG key may s with _ | _
  · rfl
  · have := srtG_lt (mayG_iff.1 hb).2.1 hc hd (by omega)
    rw [h] at this
    cases this
theorem mayG_put {may : α → Bool} {s : List α} (hs : mayG key may s = true) (k : ByteArray) {x : Option α} (hx : ∀ y, x = some y → key y = k ∧ may y = true) (hn : s.length < 4000) : mayG key may (putG key s k x) = true := by
  obtain ⟨q1, q2, q3⟩ := mayG_iff.1 hs
  refine mayG_iff.2 ⟨fun y hy => ?_, srtG_put q2 k (fun y h => (hx y h).1), by have := putG_len (key := key) s k x; omega⟩
  rcases memG_put.1 hy with ⟨h, _⟩ | h
  · exact q1 y h
  · exact (hx y h).2
end
end Go.Proofs.YtkbbegbpkndebaaGreat

/- Tallies (layer 10), in plain mathematics: which may be, a key's number, more added; the theorems of order and of sums. -/
namespace Go.Proofs.YtkbbegbpkndebaaGreat
set_option linter.unusedVariables false
/-- A cell: Key, N. -/
abbrev Ce := ByteArray × Int
abbrev kC : Ce → ByteArray := Prod.fst
def big40 : Int := 1099511627776
def mayCe (x : Ce) : Bool := mayK x.1 && decide (x.2 ≠ 0 ∧ -big40 ≤ x.2 ∧ x.2 ≤ big40)
theorem mayCe_iff {x : Ce} : mayCe x = true ↔ mayK x.1 = true ∧ x.2 ≠ 0 ∧ -big40 ≤ x.2 ∧ x.2 ≤ big40 := by simp [mayCe]
abbrev mayT (s : List Ce) : Bool := mayG kC mayCe s
/-- A key's number. -/
def numT (s : List Ce) (k : ByteArray) : Int := match getG kC s k with
  | none => 0
  | some x => x.2
/-- What a key has with a number. -/
def celT (k : ByteArray) (n : Int) : Option Ce := if n = 0 then none else some (k, n)
/-- A tally in which a key has a number; of 0 it is left out. -/
def setT (s : List Ce) (k : ByteArray) (n : Int) : List Ce := putG kC s k (celT k n)
def addT (s : List Ce) (k : ByteArray) (n : Int) : List Ce := setT s k (numT s k + n)
end Go.Proofs.YtkbbegbpkndebaaGreat

/- Accounts (layer 11), in plain mathematics: which may be, a key's number, rights, more had, moved. -/
namespace Go.Proofs.YtkbbegbpkndebaaGreat
set_option linter.unusedVariables false
/-- An account: Key, Have. -/
abbrev Ac := ByteArray × List Int
abbrev kA : Ac → ByteArray := Prod.fst
def top40 : Int := 1099511627776
abbrev in40 (x : Int) : Bool := decide (-top40 ≤ x ∧ x ≤ top40)
abbrev nzA (x : Int) : Bool := decide (x ≠ 0)
def mayAc (x : Ac) : Bool := mayK x.1 && decide (x.2.length = 5) && x.2.all in40 && x.2.any nzA
theorem mayAc_iff {x : Ac} : mayAc x = true ↔ mayK x.1 = true ∧ x.2.length = 5 ∧ x.2.all in40 = true ∧ x.2.any nzA = true := by simp [mayAc, and_assoc]
abbrev mayA (s : List Ac) : Bool := mayG kA mayAc s
def nul5 : List Int := [0, 0, 0, 0, 0]
/-- What one has. -/
def atH (h : List Int) (j : Nat) : Int := h.getD j 0
/-- What all have of a key. -/
def havA (s : List Ac) (k : ByteArray) : List Int := match getG kA s k with
  | none => nul5
  | some x => x.2
/-- An account of a key with numbers; of noughts alone: none. -/
def accA (k : ByteArray) (h : List Int) : Option Ac := if h.any nzA = true then some (k, h) else none
def setA (s : List Ac) (k : ByteArray) (h : List Int) : List Ac := putG kA s k (accA k h)
/-- What one has: more. -/
def incA (h : List Int) (r : Nat) (n : Int) : List Int := h.set (r - 1) (atH h (r - 1) + n)
def addA (s : List Ac) (k : ByteArray) (r : Nat) (n : Int) : List Ac := setA s k (incA (havA s k) r n)
/-- Every row has five. -/
def FvA (s : List Ac) : Prop := ∀ x ∈ s, x.2.length = 5
end Go.Proofs.YtkbbegbpkndebaaGreat

