/- Texts of this claim, joined: H2, H15, H16, H19, H20. -/
import Derived.Test.YtkbbegbpkndebaaGreatJ10
import Derived.Test.YtkbbegbpkndebaaGreatJ28
/- The theorem of things (layer 13), in plain mathematics, 2: all events; the document's fold. -/
namespace Go.Proofs.YtkbbegbpkndebaaGreat
set_option linter.unusedVariables false
abbrev Pa := (Dot × List Int) × Eff
structure OkP (p : Pa) : Prop where
 dot : mayD p.1.1 = true
 past : mayC p.1.2 = true
 eff : mayF p.2 = true
theorem mayF13 {x : Eff} : mayF x = true ↔ (1 ≤ x.2.2.1.length ∧ x.2.2.1.length ≤ 32 ∧ 0 ≤ x.2.1 ∧ x.2.1 ≤ 15) ∧ fits x.1 x.2.2.2.1 x.2.2.2.2.1 x.2.2.2.2.2.length = true := by simp [mayF]
theorem fits_N {k n t : Int} {wl : Nat} (h : fits k n t wl = true) : -1000 ≤ n ∧ n ≤ 1000 ∧ (k = 5 → 1 ≤ t ∧ t ≤ 5) ∧ wl ≤ 64 := by
 unfold fits at h
 rw [decide_eq_true_iff] at h
 omega
theorem sumL_bd (c : List Int) : 0 ≤ sumL c ∧ sumL c ≤ 5242880 := by
 have h0 := at5_bd c 0
 have h1 := at5_bd c 1
 have h2 := at5_bd c 2
 have h3 := at5_bd c 3
 have h4 := at5_bd c 4
 unfold sumL
 omega
theorem OkP.key {p : Pa} (h : OkP p) : mayK (kOf p.2) = true := by
 have q := (mayF13.1 h.eff).1
 unfold mayK kOf
 rw [decide_eq_true_iff, strOfNums_size]
 omega
theorem OkP.rep {p : Pa} (h : OkP p) : 1 ≤ p.1.1.1 ∧ p.1.1.1 ≤ 5 := by
 have q := h.dot
 unfold mayD at q
 simp at q
 omega
theorem OkP.note {p : Pa} (h : OkP p) : mayNt (ntE p.1.1 p.1.2 p.2) = true := by
 have hr := h.rep
 have hs := sumL_bd p.1.2
 have hw := (fits_N (mayF13.1 h.eff).2).2.2.2
 refine mayNt_iff.2 ⟨h.key, ⟨?_, ?_⟩, ⟨hr.1, hr.2⟩, ?_⟩
 ·show 1 ≤ sumL p.1.2 + 1
  omega
 ·show sumL p.1.2 + 1 ≤ 1099511627776
  omega
 ·show (wordN p.2).size ≤ 64
  unfold wordN
  rw [strOfNums_size]
  exact hw
end Go.Proofs.YtkbbegbpkndebaaGreat

/- What an effect does to raw (layer 13), thing by thing; what raw keeps while effects are done. -/
namespace Go.Proofs.YtkbbegbpkndebaaGreat
set_option linter.unusedVariables false
/-! One effect turns one thing -/
theorem of_cast {x : Eff} (h : 0 ≤ x.2.1) {i : Nat} : x.2.1 = (i : Int) ↔ ofN x = i := by unfold ofN; omega
theorem dropW_no {k : Kd} {e : Evt} {w : Rw} {x : Eff} (h : x.1 ≠ 2) : dropW k e w x = w := by
 unfold dropW
 rw [mapIdx_id (fun i s _ => by unfold dS; rw [if_neg (fun q => h q.2)])]
theorem tS_id {f : Bool} {o : Int} {t : List Ce} {x : Eff} (h : x.1 ≠ 3 ∧ x.1 ≠ 4 ∨ f = true) : tS f o t x = t := by
 unfold tS
 rw [if_neg (fun q => by rcases h with h | h; exact h.1 q.2.2; rw [h] at q; cases q.2.1), if_neg (fun q => by rcases h with h | h; exact h.2 q.2.2; rw [h] at q; cases q.2.1)]
theorem cS_id {f : Bool} {d : Dot} {o : Int} {a : List Ac} {x : Eff} (h : (x.1 ≠ 3 ∧ x.1 ≠ 4 ∨ f = false) ∧ (x.1 ≠ 5 ∨ x.2.2.2.2.1 = d.1)) : cS f d o a x = a := by
 unfold cS
 rw [if_neg (fun q => by rcases h.1 with h | h; exact h.1 q.2.2; rw [h] at q; cases q.2.1), if_neg (fun q => by rcases h.1 with h | h; exact h.2 q.2.2; rw [h] at q; cases q.2.1), if_neg (fun q => by rcases h.2 with h | h; exact h q.2.1; exact q.2.2 h)]
theorem gS_id {d : Dot} {c : List Int} {o : Int} {g : List Nt} {x : Eff} (h : x.1 ≠ 6) : gS d c o g x = g := by unfold gS; rw [if_neg (fun q => h q.2)]
theorem aS_aw {e : Evt} {j : Nat} {s : List En} {x : Eff} (hk : x.1 = 1) (hj : x.2.1 = (j : Int)) : aS false e j s x = addS s (kOf x) e.1 e.2.1 := by unfold aS; rw [if_pos ⟨hj, hk⟩, if_neg (by decide)]
end Go.Proofs.YtkbbegbpkndebaaGreat

/- What raw keeps while effects are done (layer 13): in order, and not too great. -/
namespace Go.Proofs.YtkbbegbpkndebaaGreat
set_option linter.unusedVariables false
def OkE (c : Nat) (s : List En) : Prop := SrtK s ∧ s.length ≤ 1000 + c ∧ ∀ x ∈ s, x.2.1.length ≤ 1000 + c ∧ x.2.2.length ≤ 1000 + c
theorem OkE.mono {c c' : Nat} {s : List En} (h : OkE c s) (hc : c ≤ c') : OkE c' s := ⟨h.1, by have := h.2.1; omega, fun x hx => by have := h.2.2 x hx; omega⟩
theorem left_len13 (l : List Dot) (c : List Int) : (leftD l c).length ≤ l.length := List.length_filter_le _ _
theorem getP_bd {c : Nat} {s : List En} (h : OkE c s) (k : ByteArray) : (getP s k).1.length ≤ 1000 + c ∧ (getP s k).2.length ≤ 1000 + c := by
 rcases getP_or s k with ⟨e, _⟩ | ⟨x, hx, _, e⟩
 ·rw [e]; simp
 ·rw [e]; exact h.2.2 x hx
theorem getS_bd {c : Nat} {s : List En} (h : OkE c s) (k : ByteArray) : (getS s k).length ≤ 1000 + c := by
 rcases getS_or s k with ⟨e, _⟩ | ⟨x, hx, _, e⟩
 ·rw [e]; simp
 ·rw [e]; exact (h.2.2 x hx).1
theorem putP_S13 (s : List En) (k : ByteArray) (l : List Dot) : putP s k (l, []) = putS s k l := by
 unfold putP putS
 by_cases h : l = []
 ·rw [if_pos h, if_pos (by rw [h])]
 ·rw [if_neg h, if_neg (fun q => h (Prod.ext_iff.1 q).1)]
theorem OkE.putP {c : Nat} {s : List En} (h : OkE c s) (k : ByteArray) {p : Pr} (h1 : p.1.length ≤ 1000 + (c + 1)) (h2 : p.2.length ≤ 1000 + (c + 1)) : OkE (c + 1) (putP s k p) := by
 refine ⟨srtP_put h.1 _ _, by have := putP_len s k p; have := h.2.1; omega, fun x hx => ?_⟩
 rcases memP_put.1 hx with ⟨q, _⟩ | ⟨_, rfl⟩
 ·have := h.2.2 x q; omega
 ·exact ⟨h1, h2⟩
theorem OkE.putS {c : Nat} {s : List En} (h : OkE c s) (k : ByteArray) {l : List Dot} (h1 : l.length ≤ 1000 + (c + 1)) : OkE (c + 1) (putS s k l) := by
 rw [← putP_S13 s k l]
 exact h.putP k h1 (by simp)
theorem OkE.dropP {c : Nat} {s : List En} (h : OkE c s) (k : ByteArray) (d : Dot) (cl : List Int) : OkE (c + 1) (dropP s k d cl) :=
 h.putP k (by simp) (by have := getP_bd h k; have := left_len13 (getP s k).2 cl; have := putD_len (d := d) (l := leftD (getP s k).2 cl); show (putD (leftD (getP s k).2 cl) d).length ≤ _; omega)
theorem OkE.addP {c : Nat} {s : List En} (h : OkE c s) (k : ByteArray) (d : Dot) (cl : List Int) : OkE (c + 1) (addP s k d cl) := by
 unfold Go.Proofs.YtkbbegbpkndebaaGreat.addP
 split
 ·refine h.putP k ?_ ?_
  ·have := getP_bd h k; have := left_len13 (getP s k).1 cl; have := putD_len (d := d) (l := leftD (getP s k).1 cl); show (putD (leftD (getP s k).1 cl) d).length ≤ _; omega
  ·have := getP_bd h k; show (getP s k).2.length ≤ _; omega
 ·exact h.mono (by omega)
theorem OkE.dropS {c : Nat} {s : List En} (h : OkE c s) (k : ByteArray) (cl : List Int) : OkE (c + 1) (dropS s k cl) :=
 h.putS k (by have := getS_bd h k; have := left_len13 (getS s k) cl; omega)
theorem OkE.addS {c : Nat} {s : List En} (h : OkE c s) (k : ByteArray) (d : Dot) (cl : List Int) : OkE (c + 1) (addS s k d cl) :=
 h.putS k (by have := getS_bd h k; have := left_len13 (getS s k) cl; have := putD_len (d := d) (l := leftD (getS s k) cl); omega)
theorem OkE.dS {c : Nat} {s : List En} (h : OkE c s) (r : Bool) (e : Evt) (o : Int) (x : Eff) : OkE (c + 1) (dS r e o s x) := by
 unfold Go.Proofs.YtkbbegbpkndebaaGreat.dS
 split
 ·split
  ·exact h.dropP _ _ _
  ·split
   ·exact h.dropS _ _
   ·exact h.mono (by omega)
 ·exact h.mono (by omega)
theorem OkE.aS {c : Nat} {s : List En} (h : OkE c s) (r : Bool) (e : Evt) (o : Int) (x : Eff) : OkE (c + 1) (aS r e o s x) := by
 unfold Go.Proofs.YtkbbegbpkndebaaGreat.aS
 split
 ·split
  ·split
   ·exact h.addP _ _ _
   ·exact h.mono (by omega)
  ·exact h.addS _ _ _
 ·exact h.mono (by omega)
structure GW (c : Nat) (r : Rw) : Prop where
 s : ∀ s ∈ r.1, OkE c s
 t : ∀ t ∈ r.2.1, mayT t = true
 a : ∀ a ∈ r.2.2.1, mayA a = true
 g : ∀ g ∈ r.2.2.2, mayR12 g = true ∧ g.length ≤ 1000 + c
theorem mem_mapIdx {α : Type} {f : Nat → α → α} {l : List α} {y : α} (h : y ∈ l.mapIdx f) : ∃ (i : Nat) (x : α), l[i]? = some x ∧ y = f i x := by
 obtain ⟨i, hi⟩ := List.mem_iff_getElem?.1 h
 rw [List.getElem?_mapIdx] at hi
 obtain ⟨x, hx, rfl⟩ := Option.map_eq_some_iff.1 hi
 exact ⟨i, x, hx, rfl⟩
theorem GW.drop {c : Nat} {r : Rw} (h : GW c r) (k : Kd) (e : Evt) (x : Eff) : GW (c + 1) (dropW k e r x) := by
 refine ⟨fun s hs => ?_, h.t, h.a, fun g hg => ⟨(h.g g hg).1, by have := (h.g g hg).2; omega⟩⟩
 obtain ⟨i, s0, h0, rfl⟩ := mem_mapIdx hs
 exact (h.s s0 (List.mem_of_getElem? h0)).dS _ _ _ _
theorem GW.oth {c : Nat} {r : Rw} (h : GW c r) (hc : c ≤ 2000) {k : Kd} {e : Evt} {x : Eff} (hp : OkP ((e.1, e.2.1), x)) (hok : okW (othW k e r x) x = true) : GW (c + 1) (othW k e r x) := by
 have ho : 0 ≤ x.2.1 := (mayF13.1 hp.eff).1.2.2.1
 refine ⟨fun s hs => ?_, fun t ht => ?_, fun a ha => ?_, fun g hg => ?_⟩
 ·obtain ⟨i, s0, h0, rfl⟩ := mem_mapIdx hs
  exact (h.s s0 (List.mem_of_getElem? h0)).aS _ _ _ _
 ·obtain ⟨i, t0, h0, e1⟩ := mem_mapIdx ht
  by_cases hi : x.2.1 = (i : Int)
  ·by_cases h34 : x.1 = 3 ∨ x.1 = 4
   ·unfold okW at hok
    rw [Bool.or_eq_true, decide_eq_true_iff] at hok
    rcases hok with hok | hok
    ·omega
    ·have q := (Bool.and_eq_true_iff.1 hok).1
     have ei : ofN x = i := (of_cast ho).1 hi
     rw [ei, List.getD_eq_getElem?_getD, show (othW k e r x).2.1[i]? = some t from by simp only [othW, List.getElem?_mapIdx]; rw [h0, e1]; rfl] at q
     exact q
   ·rw [e1, tS_id (.inl ⟨by omega, by omega⟩)]
    exact h.t t0 (List.mem_of_getElem? h0)
  ·have : tS (fK k i) i t0 x = t0 := by unfold tS; rw [if_neg (fun q => hi q.1), if_neg (fun q => hi q.1)]
   rw [e1, this]
   exact h.t t0 (List.mem_of_getElem? h0)
 ·obtain ⟨i, a0, h0, e1⟩ := mem_mapIdx ha
  by_cases hi : x.2.1 = (i : Int)
  ·by_cases h34 : x.1 = 3 ∨ x.1 = 4 ∨ x.1 = 5
   ·unfold okW at hok
    rw [Bool.or_eq_true, decide_eq_true_iff] at hok
    rcases hok with hok | hok
    ·omega
    ·have q := (Bool.and_eq_true_iff.1 hok).2
     have ei : ofN x = i := (of_cast ho).1 hi
     rw [ei, List.getD_eq_getElem?_getD, show (othW k e r x).2.2.1[i]? = some a from by simp only [othW, List.getElem?_mapIdx]; rw [h0, e1]; rfl] at q
     exact q
   ·rw [e1, cS_id ⟨.inl ⟨by omega, by omega⟩, .inl (by omega)⟩]
    exact h.a a0 (List.mem_of_getElem? h0)
  ·have : cS (fK k i) e.1 i a0 x = a0 := by unfold cS; rw [if_neg (fun q => hi q.1), if_neg (fun q => hi q.1), if_neg (fun q => hi q.1)]
   rw [e1, this]
   exact h.a a0 (List.mem_of_getElem? h0)
 ·obtain ⟨i, g0, h0, e1⟩ := mem_mapIdx hg
  have q := h.g g0 (List.mem_of_getElem? h0)
  rw [e1]
  unfold gS
  split
  ·exact ⟨setN_may q.1 hp.note (by omega), by have := setN_len g0 (ntE e.1 e.2.1 x); omega⟩
  ·exact ⟨q.1, by omega⟩
theorem GW.start {k : Kd} {r : Rw} (h : mayW k r = true) (hs : ∀ s ∈ r.1, s.length ≤ 1000 ∧ ∀ x ∈ s, x.2.1.length ≤ 1000 ∧ x.2.2.length ≤ 1000) (hg : ∀ g ∈ r.2.2.2, g.length ≤ 1000) : GW 0 r := by
 obtain ⟨_, hl, h1, h2, h3⟩ := mayW_iff.1 h
 have hl := lensB_iff.1 hl
 refine ⟨fun s hm => ?_, fun t ht => ?_, fun a ha => ?_, fun g hm => ⟨h3 g hm, hg g hm⟩⟩
 ·obtain ⟨i, hi⟩ := List.mem_iff_getElem?.1 hm
  obtain ⟨x, hx⟩ : ∃ x, k.1[i]? = some x := ⟨_, List.getElem?_eq_getElem (by have := (List.getElem?_eq_some_iff.1 hi).1; omega)⟩
  have q := h1 i x s hx hi
  have hq := hs s hm
  refine ⟨?_, hq.1, hq.2⟩
  unfold setB at q
  split at q
  ·exact (mayS9_iff.1 q).2.1
  ·exact (mayS_iff.1 q).2.1
 ·obtain ⟨i, hi⟩ := List.mem_iff_getElem?.1 ht
  have hlt := (List.getElem?_eq_some_iff.1 hi).1
  have q := h2 i _ _ _ (List.getElem?_eq_getElem (by omega)) hi (List.getElem?_eq_getElem (by omega))
  unfold cntB at q
  simp only [Bool.and_eq_true] at q
  exact q.1.1
 ·obtain ⟨i, hi⟩ := List.mem_iff_getElem?.1 ha
  have hlt := (List.getElem?_eq_some_iff.1 hi).1
  have q := h2 i _ _ _ (List.getElem?_eq_getElem (by omega)) (List.getElem?_eq_getElem (by omega)) hi
  unfold cntB at q
  simp only [Bool.and_eq_true] at q
  exact q.1.2
end Go.Proofs.YtkbbegbpkndebaaGreat

/- For the document's Apply (layer 13): an account's add by a replica told as a number; whether a number went too far. -/
namespace Go.Proofs.YtkbbegbpkndebaaGreat
open Go.RowKit Go.Lib
set_option linter.unusedVariables false
theorem okW_not {w : Rw} {x : Eff} (hk : ¬ (2 < x.1 ∧ x.1 < 6)) : okW w x = true := by
 unfold okW
 rw [decide_eq_true hk, Bool.true_or]
end Go.Proofs.YtkbbegbpkndebaaGreat

/- The program's order of an event's effects (drops, then adds, then the others) gives what the document's gives (layer 13); what raw that may be keeps. -/
namespace Go.Proofs.YtkbbegbpkndebaaGreat
set_option linter.unusedVariables false
def addW (k : Kd) (e : Evt) (w : Rw) (x : Eff) : Rw := (w.1.mapIdx (fun i s => aS (rK k i) e i s x), w.2)
def restW (k : Kd) (e : Evt) (w : Rw) (x : Eff) : Rw := (w.1, (othW k e w x).2)
theorem othW_two (k : Kd) (e : Evt) (w : Rw) (x : Eff) : othW k e w x = restW k e (addW k e w x) x := rfl
theorem adds_rest (k : Kd) (e : Evt) (x : Eff) : ∀ (xs : List Eff) (w : Rw), xs.foldl (addW k e) (restW k e w x) = restW k e (xs.foldl (addW k e) w) x
 | [], w => rfl
 | y :: ys, w => by
  rw [List.foldl_cons, List.foldl_cons]
  exact adds_rest k e x ys (addW k e w y)
theorem okW_two {w v : Rw} {x : Eff} (h : w.2 = v.2) : okW w x = okW v x := by unfold okW; rw [h]
theorem adds_snd (k : Kd) (e : Evt) : ∀ (xs : List Eff) (w : Rw), (xs.foldl (addW k e) w).2 = w.2
 | [], w => rfl
 | y :: ys, w => by
  rw [List.foldl_cons]
  exact adds_snd k e ys (addW k e w y)
def stepsR (k : Kd) (e : Evt) : List Eff → Rw → Option Rw
 | [], w => some w
 | x :: xs, w => if okW (restW k e w x) x = true then stepsR k e xs (restW k e w x) else none
theorem rest_snd {k : Kd} {e : Evt} {w v : Rw} {x : Eff} (h : w.2 = v.2) : (restW k e w x).2 = (restW k e v x).2 := by
 unfold restW othW
 simp only [h]
theorem steps_two (k : Kd) (e : Evt) : ∀ (xs : List Eff) (w : Rw), stepsW k e xs w = stepsR k e xs (xs.foldl (addW k e) w)
 | [], w => rfl
 | x :: xs, w => by
  rw [stepsW, List.foldl_cons, stepsR, othW_two, okW_two (w := restW k e (addW k e w x) x) (v := restW k e (xs.foldl (addW k e) (addW k e w x)) x) (rest_snd (adds_snd k e xs _).symm), steps_two k e xs, adds_rest]
theorem applyW_is (k : Kd) (w : Rw) (e : Evt) : applyW k w e = stepsR k e e.2.2 (e.2.2.foldl (addW k e) (e.2.2.foldl (dropW k e) w)) := by
 unfold applyW
 rw [steps_two]
theorem stepsR_next {k : Kd} {e : Evt} {l : List Eff} {i : Nat} {x : Eff} {w : Rw} {R : Option Rw} (hx : l[i]? = some x) (h : stepsR k e (l.drop i) w = R) (hok : okW (restW k e w x) x = true) : stepsR k e (l.drop (i + 1)) (restW k e w x) = R := by
 obtain ⟨hk, rfl⟩ := List.getElem?_eq_some_iff.1 hx
 rw [List.drop_eq_getElem_cons hk, stepsR, if_pos hok] at h
 exact h
theorem stepsR_far {k : Kd} {e : Evt} {l : List Eff} {i : Nat} {x : Eff} {w : Rw} {R : Option Rw} (hx : l[i]? = some x) (h : stepsR k e (l.drop i) w = R) (hok : okW (restW k e w x) x = false) : R = none := by
 obtain ⟨hk, rfl⟩ := List.getElem?_eq_some_iff.1 hx
 rw [List.drop_eq_getElem_cons hk, stepsR, if_neg (by rw [hok]; decide)] at h
 exact h.symm
theorem stepsR_end {k : Kd} {e : Evt} {l : List Eff} {i : Nat} {w : Rw} {R : Option Rw} (hi : l.length = i) (h : stepsR k e (l.drop i) w = R) : R = some w := by
 rw [List.drop_eq_nil_of_le (by omega), stepsR] at h
 exact h.symm
theorem addW_set {k : Kd} {e : Evt} {w : Rw} {x : Eff} {j : Nat} {s s' : List En} (hj : x.2.1 = (j : Int)) (hs : w.1[j]? = some s) (h : aS (rK k j) e j s x = s') : addW k e w x = (w.1.set j s', w.2) := by
 unfold addW
 rw [mapIdx_set hs (fun i y hi _ => by unfold aS; rw [if_neg (fun q => hi (by have := q.1; omega))]), h]
theorem restW_set {k : Kd} {e : Evt} {w : Rw} {x : Eff} (h : x.1 = 1 ∨ x.1 = 2) : restW k e w x = w := by
 have e1 : (othW k e w x).2 = w.2 := by
  unfold othW
  simp only
  rw [mapIdx_id (fun i t _ => tS_id (.inl ⟨by omega, by omega⟩)), mapIdx_id (fun i t _ => cS_id ⟨.inl ⟨by omega, by omega⟩, .inl (by omega)⟩), mapIdx_id (fun i t _ => gS_id (by omega))]
 unfold restW
 rw [e1]
structure MG (k : Kd) (c : Nat) (r : Rw) : Prop where
 g : GW c r
 s : ∀ (i : Nat) s, r.1[i]? = some s → setB (rK k i) s = true
 l1 : r.1.length = k.1.length
 l2 : r.2.1.length = k.2.1.length
 l3 : r.2.2.1.length = k.2.1.length
 l4 : (r.2.2.2.length : Int) = k.2.2
theorem MG.start {k : Kd} {r : Rw} (h : mayW k r = true) (hs : ∀ s ∈ r.1, s.length ≤ 1000 ∧ ∀ x ∈ s, x.2.1.length ≤ 1000 ∧ x.2.2.length ≤ 1000) (hg : ∀ g ∈ r.2.2.2, g.length ≤ 1000) : MG k 0 r := by
 obtain ⟨_, hl, h1, _, _⟩ := mayW_iff.1 h
 have hl := lensB_iff.1 hl
 refine ⟨GW.start h hs hg, fun i s hi => ?_, hl.1, hl.2.1, hl.2.2.1, hl.2.2.2⟩
 obtain ⟨x, hx⟩ : ∃ x, k.1[i]? = some x := ⟨_, List.getElem?_eq_getElem (by have := (List.getElem?_eq_some_iff.1 hi).1; omega)⟩
 have e : rK k i = x := by show k.1.getD i false = x; rw [List.getD_eq_getElem?_getD, hx]; rfl
 rw [e]
 exact h1 i x s hx hi
theorem setB_d {r : Bool} {e : Evt} {o : Int} {s : List En} {x : Eff} (hs : setB r s = true) (hn : s.length < 4000) (hk : mayK (kOf x) = true) (hd : mayD e.1 = true) : setB r (dS r e o s x) = true := by
 unfold dS
 split
 ·cases r
  ·rw [if_neg (by decide)]
   split
   ·exact mayS_drop hs hk _ hn
   ·exact hs
  ·rw [if_pos rfl]
   exact mayS9_drop hs hk hd _ hn
 ·exact hs
theorem setB_a {r : Bool} {e : Evt} {o : Int} {s : List En} {x : Eff} (hs : setB r s = true) (hn : s.length < 4000) (hk : mayK (kOf x) = true) (hd : mayD e.1 = true) : setB r (aS r e o s x) = true := by
 unfold aS
 split
 ·cases r
  ·rw [if_neg (by decide)]
   exact mayS_add hs hk hd _ hn
  ·rw [if_pos rfl]
   split
   ·exact mayS9_add hs hk hd _ hn
   ·exact hs
 ·exact hs
theorem MG.len {k : Kd} {c : Nat} {r : Rw} (h : MG k c r) (hc : c ≤ 2000) {i : Nat} {s : List En} (hi : r.1[i]? = some s) : s.length < 4000 := by
 have := (h.g.s s (List.mem_of_getElem? hi)).2.1
 omega
theorem MG.drop {k : Kd} {c : Nat} {r : Rw} (h : MG k c r) (hc : c ≤ 2000) {e : Evt} {x : Eff} (hk : mayK (kOf x) = true) (hd : mayD e.1 = true) : MG k (c + 1) (dropW k e r x) := by
 refine ⟨h.g.drop k e x, fun i s hi => ?_, by simp only [dropW, List.length_mapIdx]; exact h.l1, h.l2, h.l3, h.l4⟩
 simp only [dropW, List.getElem?_mapIdx] at hi
 obtain ⟨s0, h0, rfl⟩ := Option.map_eq_some_iff.1 hi
 exact setB_d (h.s i s0 h0) (h.len hc h0) hk hd
theorem GW.add {c : Nat} {r : Rw} (h : GW c r) (k : Kd) (e : Evt) (x : Eff) : GW (c + 1) (addW k e r x) := by
 refine ⟨fun s hs => ?_, h.t, h.a, fun g hg => ⟨(h.g g hg).1, by have := (h.g g hg).2; omega⟩⟩
 obtain ⟨i, s0, h0, rfl⟩ := mem_mapIdx hs
 exact (h.s s0 (List.mem_of_getElem? h0)).aS _ _ _ _
theorem MG.add {k : Kd} {c : Nat} {r : Rw} (h : MG k c r) (hc : c ≤ 2000) {e : Evt} {x : Eff} (hk : mayK (kOf x) = true) (hd : mayD e.1 = true) : MG k (c + 1) (addW k e r x) := by
 refine ⟨h.g.add k e x, fun i s hi => ?_, by simp only [addW, List.length_mapIdx]; exact h.l1, h.l2, h.l3, h.l4⟩
 simp only [addW, List.getElem?_mapIdx] at hi
 obtain ⟨s0, h0, rfl⟩ := Option.map_eq_some_iff.1 hi
 exact setB_a (h.s i s0 h0) (h.len hc h0) hk hd
theorem GW.rest {c : Nat} {r : Rw} (h : GW c r) (hc : c ≤ 2000) {k : Kd} {e : Evt} {x : Eff} (hp : OkP ((e.1, e.2.1), x)) (hok : okW (restW k e r x) x = true) : GW (c + 1) (restW k e r x) := by
 have q := h.oth hc hp (k := k) (show okW (othW k e r x) x = true by rw [okW_two (w := othW k e r x) (v := restW k e r x) rfl]; exact hok)
 exact ⟨fun s hs => (h.s s hs).mono (by omega), q.t, q.a, q.g⟩
theorem MG.rest {k : Kd} {c : Nat} {r : Rw} (h : MG k c r) (hc : c ≤ 2000) {e : Evt} {x : Eff} (hp : OkP ((e.1, e.2.1), x)) (hok : okW (restW k e r x) x = true) : MG k (c + 1) (restW k e r x) :=
 ⟨h.g.rest hc hp hok, h.s, h.l1, by simp only [restW, othW, List.length_mapIdx]; exact h.l2, by simp only [restW, othW, List.length_mapIdx]; exact h.l3, by simp only [restW, othW, List.length_mapIdx]; exact h.l4⟩
end Go.Proofs.YtkbbegbpkndebaaGreat

