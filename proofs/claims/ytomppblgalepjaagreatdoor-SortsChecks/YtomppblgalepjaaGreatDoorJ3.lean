/- Texts of this claim, joined: OA, L1, L2, L3. -/
import Derived.Maps.OwnSet
import Derived.Maps.OwnOps
import Derived.DeepKeys4
import Derived.Deep.CutBlock
import Derived.Deep.CutRange
import Derived.Test.YtomppblgalepjaaGreatDoorJ2
/- Maps in memory (layer 16): names that were seen, counts with a floor, which operation did something to a thing last, the numbers of things by their names. -/
namespace Go.Proofs.YtomppblgalepjaaGreatDoor
open Go.RowKit Go.Lib
set_option linter.unusedVariables false
theorem laid16 : laidOutB Tryz.prog = true := by kernel_rfl
theorem row_thing : (123 : TypeId) < Tryz.prog.types.size := of_decide_eq_true (by kernel_rfl)
theorem kty_thing : Tryz.prog.keyTypeAt 2 123 = true := by kernel_rfl
theorem law_thing : WideMaps.KeyLaw Tryz.prog 123 := deep_law_laid laid16 (m := 2) (by omega) row_thing kty_thing (by rw [Tryz.underlying123])
theorem key_thing : Maps.Keyed Tryz.prog 123 := Maps.Keyed.of_law law_thing
theorem row_label : (77 : TypeId) < Tryz.prog.types.size := of_decide_eq_true (by kernel_rfl)
theorem kty_label : Tryz.prog.keyTypeAt 2 77 = true := by kernel_rfl
theorem law_label : WideMaps.KeyLaw Tryz.prog 77 := deep_law_laid laid16 (m := 2) (by omega) row_label kty_label (by rw [Tryz.underlying77])
theorem key_label : Maps.Keyed Tryz.prog 77 := Maps.Keyed.of_law law_label
theorem key_name : Maps.Keyed Tryz.prog 9 := Maps.string_keyed Tryz.underlying9
theorem key_floor : Maps.Keyed Tryz.prog 3 := Maps.int_keyed Tryz.underlying3
theorem map_name : Tryz.prog.underlying 80 = some (.map 9 118) := by kernel_rfl
theorem map_floor : Tryz.prog.underlying 81 = some (.map 3 118) := by kernel_rfl
theorem map_thing : Tryz.prog.underlying 82 = some (.map 123 3) := by kernel_rfl
theorem map_label : Tryz.prog.underlying 48 = some (.map 77 3) := by kernel_rfl
theorem zero_unit (w : World) : (zeroValue 118).run Tryz.prog w = .ok (.agg #[]) w := by kernel_rfl
theorem zero_int (w : World) : (zeroValue 3).run Tryz.prog w = .ok (.int .i64 0) w := by kernel_rfl
theorem cells_int : Tryz.prog.cellsOf 3 = 1 := by kernel_rfl
theorem cells_str : Tryz.prog.cellsOf 9 = 1 := by kernel_rfl
theorem cells_thing : Tryz.prog.cellsOf 123 = 2 := by kernel_rfl
theorem cells_label : Tryz.prog.cellsOf 77 = 2 := by kernel_rfl
def klT (a b : Int) : Lit := .string (keyBytes [.int .i64 a, .int .i64 b])
def klM (a : Int) (s : ByteArray) : Lit := .string (keyBytes [.int .i64 a, .string s.data.toList])
theorem of_thing {a b : Int} (ha : (Lit.int .i64 a).wf = true) (hb : (Lit.int .i64 b).wf = true) : keyOf Tryz.prog 123 (.agg #[.int .i64 a, .int .i64 b]) = some (klT a b) := by
 have h1 : Tryz.prog.keyType 123 = true := by kernel_rfl
 obtain ⟨m, hm⟩ : ∃ m, Tryz.prog.types.size = m + 1 := ⟨Tryz.prog.types.size - 1, by kernel_rfl⟩
 unfold keyOf
 simp only [Tryz.underlying123]
 rw [if_pos (by simp [h1, Value.formed, Tryz.underlying123, cells_thing]), hm]
 unfold Program.keyLits
 simp [Tryz.underlying123, Value.cells, cells_thing, cells_int, Program.keyLits, Tryz.underlying3, ha, hb, klT]
theorem of_label {a : Int} {s : ByteArray} (ha : (Lit.int .i64 a).wf = true) (hs : s.size ≤ maxLen) : keyOf Tryz.prog 77 (.agg #[.int .i64 a, .string s]) = some (klM a s) := by
 have h1 : Tryz.prog.keyType 77 = true := by kernel_rfl
 obtain ⟨m, hm⟩ : ∃ m, Tryz.prog.types.size = m + 1 := ⟨Tryz.prog.types.size - 1, by kernel_rfl⟩
 unfold keyOf
 simp only [Tryz.underlying77]
 rw [if_pos (by simp [h1, Value.formed, Tryz.underlying77, cells_label]), hm]
 unfold Program.keyLits
 simp [Tryz.underlying77, Value.cells, cells_label, cells_int, cells_str, Program.keyLits, Tryz.underlying3, Tryz.underlying9, ha, hs, klM]
theorem of_name {s : ByteArray} (hs : s.size ≤ maxLen) : keyOf Tryz.prog 9 (.string s) = some (.string s.data.toList) := WideMaps.keyOf_string_mk Tryz.underlying9 hs
theorem of_floor {a : Int} (ha : (Lit.int .i64 a).wf = true) : keyOf Tryz.prog 3 (.int .i64 a) = some (.int .i64 a) := Maps.keyOf_int_mk Tryz.underlying3 ha
theorem klT_inj {a b a' b' : Int} (ha : (Lit.int .i64 a).wf = true) (hb : (Lit.int .i64 b).wf = true) (ha' : (Lit.int .i64 a').wf = true) (hb' : (Lit.int .i64 b').wf = true) (h : klT a b = klT a' b') : a = a' ∧ b = b' := by
 have q := key_thing.inj (of_thing ha hb) (by rw [h]; exact of_thing ha' hb')
 injection q with q
 injection q with q
 injection q with q1 q2
 injection q2 with q2 _
 injection q1 with _ q1
 injection q2 with _ q2
 exact ⟨q1, q2⟩
theorem klM_inj {a a' : Int} {s s' : ByteArray} (ha : (Lit.int .i64 a).wf = true) (hs : s.size ≤ maxLen) (ha' : (Lit.int .i64 a').wf = true) (hs' : s'.size ≤ maxLen) (h : klM a s = klM a' s') : a = a' ∧ s = s' := by
 have q := key_label.inj (of_label ha hs) (by rw [h]; exact of_label ha' hs')
 injection q with q
 injection q with q
 injection q with q1 q2
 injection q2 with q2 _
 injection q1 with _ q1
 injection q2 with q2
 exact ⟨q1, q2⟩
theorem name_inj {s s' : ByteArray} (h : (Lit.string s.data.toList) = .string s'.data.toList) : s = s' := by
 injection h with h
 cases s; cases s'
 exact congrArg _ (Array.toList_inj.1 h)
def NMp (w : World) (b k : Nat) (S : List ByteArray) : Prop := ∃ n, ∃ D : DataW Unit, n ≤ k ∧ w.ownsMap Tryz.prog 9 (unitElem (H := Unit)) b n D ∧ ∀ s : ByteArray, s.size ≤ maxLen → (Maps.has D (.string s.data.toList) = true ↔ s ∈ S)
def FMp (w : World) (b k : Nat) (S : List Int) : Prop := ∃ n, ∃ D : DataW Unit, n ≤ k ∧ w.ownsMap Tryz.prog 3 (unitElem (H := Unit)) b n D ∧ ∀ c : Int, (Lit.int .i64 c).wf = true → (Maps.has D (.int .i64 c) = true ↔ c ∈ S)
def LMp (w : World) (b k : Nat) (f : Int → Int → Int) : Prop := ∃ n, ∃ D : DataW Unit, n ≤ k ∧ w.ownsMap Tryz.prog 123 (plainElem (H := Unit) Tryz.prog 3) b n D ∧ ∀ a c : Int, (Lit.int .i64 a).wf = true → (Lit.int .i64 c).wf = true → D.atKey (klT a c) (.lit (.int .i64 0)) = .lit (.int .i64 (f a c))
def MMp (w : World) (b k : Nat) (f : Int → ByteArray → Option Int) : Prop := ∃ n, ∃ D : DataW Unit, n ≤ k ∧ w.ownsMap Tryz.prog 77 (plainElem (H := Unit) Tryz.prog 3) b n D ∧ ∀ (a : Int) (s : ByteArray), (Lit.int .i64 a).wf = true → s.size ≤ maxLen → Maps.has D (klM a s) = (f a s).isSome ∧ D.atKey (klM a s) (.lit (.int .i64 0)) = .lit (.int .i64 ((f a s).getD 0))
theorem NMp.made (w : World) : NMp (w.alloc (.map #[] 0)) w.heap.size 0 [] := ⟨0, .map [], Nat.le_refl _, World.ownsMap_made _ _ _ _, fun s _ => by simp [Maps.has]⟩
theorem FMp.made (w : World) : FMp (w.alloc (.map #[] 0)) w.heap.size 0 [] := ⟨0, .map [], Nat.le_refl _, World.ownsMap_made _ _ _ _, fun s _ => by simp [Maps.has]⟩
theorem LMp.made (w : World) : LMp (w.alloc (.map #[] 0)) w.heap.size 0 (fun _ _ => 0) := ⟨0, .map [], Nat.le_refl _, World.ownsMap_made _ _ _ _, fun a c _ _ => by simp [DataW.atKey]⟩
theorem MMp.made (w : World) : MMp (w.alloc (.map #[] 0)) w.heap.size 0 (fun _ _ => none) := ⟨0, .map [], Nat.le_refl _, World.ownsMap_made _ _ _ _, fun a s _ _ => by simp [DataW.atKey, Maps.has]⟩
theorem owns_of {H : Type} {w w' : World} {P : Program} {k : TypeId} {R : Value → Option (DataW H × List MemPlace)} {b n : Nat} {D : DataW H} (h : w.ownsMap P k R b n D) (e : w'.heap[b]? = w.heap[b]?) : w'.ownsMap P k R b n D := by
 obtain ⟨es, c, h1, h2⟩ := h
 exact ⟨es, c, e.trans h1, h2⟩
theorem NMp.keep {w w' : World} {b k : Nat} {S : List ByteArray} (h : NMp w b k S) (e : w'.heap[b]? = w.heap[b]?) : NMp w' b k S := by
 obtain ⟨n, D, h1, h2, h3⟩ := h
 exact ⟨n, D, h1, owns_of h2 e, h3⟩
theorem FMp.keep {w w' : World} {b k : Nat} {S : List Int} (h : FMp w b k S) (e : w'.heap[b]? = w.heap[b]?) : FMp w' b k S := by
 obtain ⟨n, D, h1, h2, h3⟩ := h
 exact ⟨n, D, h1, owns_of h2 e, h3⟩
theorem LMp.keep {w w' : World} {b k : Nat} {f : Int → Int → Int} (h : LMp w b k f) (e : w'.heap[b]? = w.heap[b]?) : LMp w' b k f := by
 obtain ⟨n, D, h1, h2, h3⟩ := h
 exact ⟨n, D, h1, owns_of h2 e, h3⟩
theorem MMp.keep {w w' : World} {b k : Nat} {f : Int → ByteArray → Option Int} (h : MMp w b k f) (e : w'.heap[b]? = w.heap[b]?) : MMp w' b k f := by
 obtain ⟨n, D, h1, h2, h3⟩ := h
 exact ⟨n, D, h1, owns_of h2 e, h3⟩
theorem NMp.lt {w : World} {b k : Nat} {S : List ByteArray} (h : NMp w b k S) : b < w.heap.size := by
 obtain ⟨n, D, h1, h2, h3⟩ := h
 exact h2.lt
theorem FMp.lt {w : World} {b k : Nat} {S : List Int} (h : FMp w b k S) : b < w.heap.size := by
 obtain ⟨n, D, h1, h2, h3⟩ := h
 exact h2.lt
theorem LMp.lt {w : World} {b k : Nat} {f : Int → Int → Int} (h : LMp w b k f) : b < w.heap.size := by
 obtain ⟨n, D, h1, h2, h3⟩ := h
 exact h2.lt
theorem MMp.lt {w : World} {b k : Nat} {f : Int → ByteArray → Option Int} (h : MMp w b k f) : b < w.heap.size := by
 obtain ⟨n, D, h1, h2, h3⟩ := h
 exact h2.lt
theorem NMp.mono {w : World} {b k k' : Nat} {S : List ByteArray} (h : NMp w b k S) (hk : k ≤ k') : NMp w b k' S := by
 obtain ⟨n, D, h1, h2⟩ := h
 exact ⟨n, D, Nat.le_trans h1 hk, h2⟩
theorem FMp.mono {w : World} {b k k' : Nat} {S : List Int} (h : FMp w b k S) (hk : k ≤ k') : FMp w b k' S := by
 obtain ⟨n, D, h1, h2⟩ := h
 exact ⟨n, D, Nat.le_trans h1 hk, h2⟩
theorem LMp.mono {w : World} {b k k' : Nat} {f : Int → Int → Int} (h : LMp w b k f) (hk : k ≤ k') : LMp w b k' f := by
 obtain ⟨n, D, h1, h2⟩ := h
 exact ⟨n, D, Nat.le_trans h1 hk, h2⟩
theorem NMp.look {w : World} {b k : Nat} {S : List ByteArray} (h : NMp w b k S) {s : ByteArray} (hs : s.size ≤ maxLen) {z : Bool} (hz : z = true ↔ s ∈ S) : (Instr.lookup 80 (.map (some b)) (.string s) true).run Tryz.prog w = .ok (.tuple #[.agg #[], .bool z]) w := by
 obtain ⟨n, D, h1, h2, h3⟩ := h
 obtain ⟨v, ps, hrun, hv⟩ := h2.look_ok key_name map_name (zero_unit w) unitElem_mk (of_name hs)
 obtain ⟨rfl, _⟩ := unitElem_inv hv
 have e : Maps.has D (.string s.data.toList) = z := Bool.eq_iff_iff.2 ((h3 s hs).trans hz.symm)
 rw [hrun, e]
theorem FMp.look {w : World} {b k : Nat} {S : List Int} (h : FMp w b k S) {c : Int} (hc : (Lit.int .i64 c).wf = true) {z : Bool} (hz : z = true ↔ c ∈ S) : (Instr.lookup 81 (.map (some b)) (.int .i64 c) true).run Tryz.prog w = .ok (.tuple #[.agg #[], .bool z]) w := by
 obtain ⟨n, D, h1, h2, h3⟩ := h
 obtain ⟨v, ps, hrun, hv⟩ := h2.look_ok key_floor map_floor (zero_unit w) unitElem_mk (of_floor hc)
 obtain ⟨rfl, _⟩ := unitElem_inv hv
 have e : Maps.has D (.int .i64 c) = z := Bool.eq_iff_iff.2 ((h3 c hc).trans hz.symm)
 rw [hrun, e]
theorem LMp.look {w : World} {b k : Nat} {f : Int → Int → Int} (h : LMp w b k f) {a c : Int} (ha : (Lit.int .i64 a).wf = true) (hc : (Lit.int .i64 c).wf = true) {z : Int} (hz : f a c = z) : (Instr.lookup 82 (.map (some b)) (.agg #[.int .i64 a, .int .i64 c]) false).run Tryz.prog w = .ok (.int .i64 z) w := by
 obtain ⟨n, D, h1, h2, h3⟩ := h
 obtain ⟨c', hrun, hat, hwc⟩ := h2.lookup_int key_thing map_thing Tryz.underlying3 (zero_int w) (of_thing ha hc)
 rw [h3 a c ha hc, hz] at hat
 have hat2 := Lit.int.inj (DataW.lit.inj hat)
 rw [hrun, hat2.2]
theorem MMp.look {w : World} {b k : Nat} {f : Int → ByteArray → Option Int} (h : MMp w b k f) {a : Int} {s : ByteArray} (ha : (Lit.int .i64 a).wf = true) (hs : s.size ≤ maxLen) {z : Option Int} (hz : f a s = z) : (Instr.lookup 48 (.map (some b)) (.agg #[.int .i64 a, .string s]) true).run Tryz.prog w = .ok (.tuple #[.int .i64 (z.getD 0), .bool z.isSome]) w := by
 obtain ⟨n, D, h1, h2, h3⟩ := h
 obtain ⟨v, ps, hrun, hv⟩ := h2.look_ok key_label map_label (zero_int w) (plainElem_int Tryz.underlying3 (by decide)) (of_label ha hs)
 obtain ⟨c, rfl, hc, hwc⟩ := plainElem_int_inv Tryz.underlying3 hv
 have q := congrArg Prod.fst hc
 simp only at q
 rw [(h3 a s ha hs).2, hz] at q
 have q2 := Lit.int.inj (DataW.lit.inj q)
 rw [hrun, (h3 a s ha hs).1, hz, q2.2]
theorem NMp.put {w : World} {b k : Nat} {S : List ByteArray} (h : NMp w b k S) (hk : k < maxLen) {s : ByteArray} (hs : s.size ≤ maxLen) : ∃ w', (Instr.mapUpdate 80 (.map (some b)) (.string s) (.agg #[])).run Tryz.prog w = .ok () w' ∧ NMp w' b (k + 1) (S ++ [s]) ∧ w.grownBy w' (some b) := by
 obtain ⟨n, D, h1, h2, h3⟩ := h
 obtain ⟨w', hrun, hown, hg⟩ := h2.update key_name map_name (Nat.lt_of_le_of_lt h1 hk) (of_name hs) unitElem_mk
 refine ⟨w', hrun, ⟨n + 1, _, by omega, hown, fun s' hs' => ?_⟩, hg⟩
 by_cases e : s' = s
 ·subst e
  rw [Maps.has_put_same h2.isMap (key_name.key (of_name hs))]
  simp
 ·rw [Maps.has_put_other (fun q => e (name_inj q)), h3 s' hs']
  simp [e]
theorem FMp.put {w : World} {b k : Nat} {S : List Int} (h : FMp w b k S) (hk : k < maxLen) {c : Int} (hc : (Lit.int .i64 c).wf = true) : ∃ w', (Instr.mapUpdate 81 (.map (some b)) (.int .i64 c) (.agg #[])).run Tryz.prog w = .ok () w' ∧ FMp w' b (k + 1) (S ++ [c]) ∧ w.grownBy w' (some b) := by
 obtain ⟨n, D, h1, h2, h3⟩ := h
 obtain ⟨w', hrun, hown, hg⟩ := h2.update key_floor map_floor (Nat.lt_of_le_of_lt h1 hk) (of_floor hc) unitElem_mk
 refine ⟨w', hrun, ⟨n + 1, _, by omega, hown, fun c' hc' => ?_⟩, hg⟩
 by_cases e : c' = c
 ·subst e
  rw [Maps.has_put_same h2.isMap (key_floor.key (of_floor hc))]
  simp
 ·rw [Maps.has_put_other (fun q => e (by injection q)), h3 c' hc']
  simp [e]
def setL16 (f : Int → Int → Int) (a c v : Int) (a' c' : Int) : Int := if a' = a ∧ c' = c then v else f a' c'
def setM16 (f : Int → ByteArray → Option Int) (a : Int) (s : ByteArray) (v : Int) (a' : Int) (s' : ByteArray) : Option Int := if a' = a ∧ s' = s then some v else f a' s'
theorem LMp.put {w : World} {b k : Nat} {f : Int → Int → Int} (h : LMp w b k f) (hk : k < maxLen) {a c v : Int} (ha : (Lit.int .i64 a).wf = true) (hc : (Lit.int .i64 c).wf = true) (hv : (Lit.int .i64 v).wf = true) : ∃ w', (Instr.mapUpdate 82 (.map (some b)) (.agg #[.int .i64 a, .int .i64 c]) (.int .i64 v)).run Tryz.prog w = .ok () w' ∧ LMp w' b (k + 1) (setL16 f a c v) ∧ w.grownBy w' (some b) := by
 obtain ⟨n, D, h1, h2, h3⟩ := h
 obtain ⟨w', hrun, hown, hg⟩ := h2.update key_thing map_thing (Nat.lt_of_le_of_lt h1 hk) (of_thing ha hc) (plainElem_int Tryz.underlying3 hv)
 refine ⟨w', hrun, ⟨n + 1, _, by omega, hown, fun a' c' ha' hc' => ?_⟩, hg⟩
 unfold setL16
 by_cases e : a' = a ∧ c' = c
 ·obtain ⟨rfl, rfl⟩ := e
  rw [Maps.atKey_put_same h2.isMap (key_thing.key (of_thing ha hc)), if_pos ⟨rfl, rfl⟩]
 ·rw [Maps.atKey_put_other (fun q => e (klT_inj ha' hc' ha hc q)), h3 a' c' ha' hc', if_neg e]
theorem MMp.put {w : World} {b k : Nat} {f : Int → ByteArray → Option Int} (h : MMp w b k f) (hk : k < maxLen) {a v : Int} {s : ByteArray} (ha : (Lit.int .i64 a).wf = true) (hs : s.size ≤ maxLen) (hv : (Lit.int .i64 v).wf = true) : ∃ w', (Instr.mapUpdate 48 (.map (some b)) (.agg #[.int .i64 a, .string s]) (.int .i64 v)).run Tryz.prog w = .ok () w' ∧ MMp w' b (k + 1) (setM16 f a s v) ∧ w.grownBy w' (some b) := by
 obtain ⟨n, D, h1, h2, h3⟩ := h
 obtain ⟨w', hrun, hown, hg⟩ := h2.update key_label map_label (Nat.lt_of_le_of_lt h1 hk) (of_label ha hs) (plainElem_int Tryz.underlying3 hv)
 refine ⟨w', hrun, ⟨n + 1, _, by omega, hown, fun a' s' ha' hs' => ?_⟩, hg⟩
 unfold setM16
 by_cases e : a' = a ∧ s' = s
 ·obtain ⟨rfl, rfl⟩ := e
  rw [Maps.atKey_put_same h2.isMap (key_label.key (of_label ha hs)), Maps.has_put_same h2.isMap (key_label.key (of_label ha hs)), if_pos ⟨rfl, rfl⟩]
  exact ⟨rfl, rfl⟩
 ·rw [Maps.atKey_put_other (fun q => e (klM_inj ha' hs' ha hs q)), Maps.has_put_other (fun q => e (klM_inj ha' hs' ha hs q)), if_neg e]
  exact h3 a' s' ha' hs'
end Go.Proofs.YtomppblgalepjaaGreatDoor

/- A word, or a number, alone is one token; two with a blank between are two (layer 14), in plain mathematics. -/
namespace Go.Proofs.YtomppblgalepjaaGreatDoor
set_option linter.unusedVariables false
theorem isWd_not {c : Int} (h : isWd c = true) : ¬ (c = 32 ∨ c = 9) ∧ c ≠ 35 ∧ c ≠ 58 ∧ c ≠ 44 ∧ c ≠ 10 := by
 unfold isWd isLt isDg at h
 simp only [Bool.or_eq_true, decide_eq_true_iff] at h
 omega
theorem digU_dg : ∀ (f n : Nat), ∀ c ∈ digU f n, isDg c = true
 | 0, n, c, h => by cases h
 | f + 1, n, c, h => by
  unfold digU at h
  split at h
  ·rw [List.mem_singleton] at h
   subst h
   unfold isDg
   rw [decide_eq_true_iff]
   omega
  ·rcases List.mem_append.1 h with h | h
   ·exact digU_dg f _ c h
   ·rw [List.mem_singleton] at h
    subst h
    unfold isDg
    rw [decide_eq_true_iff]
    omega
theorem takeW_all {p : Int → Bool} {l m : List Int} (h : ∀ c ∈ l, p c = true) (hm : m = [] ∨ ∃ c t, m = c :: t ∧ p c = false) : (l ++ m).takeWhile p = l ∧ (l ++ m).dropWhile p = m := by
 induction l with
 | nil =>
  rcases hm with rfl | ⟨c, t, rfl, hc⟩
  ·simp
  ·simp [hc]
 | cons c t ih =>
  have q := ih (fun x hx => h x (List.mem_cons_of_mem _ hx))
  simp only [List.cons_append, List.takeWhile_cons, List.dropWhile_cons, h c List.mem_cons_self, if_true]
  exact ⟨by rw [q.1], q.2⟩
end Go.Proofs.YtomppblgalepjaaGreatDoor

/- letter, digit and Word of the document (layer 14). -/
namespace Go.Proofs.YtomppblgalepjaaGreatDoor
open Go.RowKit Go.Lib
set_option linter.unusedVariables false
def byS (s : ByteArray) (i : Nat) : Int := ((s.data.toList.getD i 0).toNat : Int)
theorem bytesL_at {s : ByteArray} {i : Nat} (h : i < s.size) : (bytesL s)[i]? = some (byS s i) := by
 have h2 : i < s.data.toList.length := by simpa using h
 unfold bytesL byS
 rw [List.getElem?_map, List.getElem?_eq_getElem h2, List.getD_eq_getElem?_getD, List.getElem?_eq_getElem h2]
 rfl
theorem bytesL_sz (s : ByteArray) : (bytesL s).length = s.size := by unfold bytesL; rw [List.length_map]; rfl
theorem letter14 (c : Int) (w : World) : Calls Tryz.prog 57 #[.int .u8 c] w fun e w' => e = .returned (.bool (isLt c)) ∧ w' = w := by
 unfold isLt
 by_cases h1 : 97 ≤ c
 ·by_cases h2 : c ≤ 122
  ·go_enter Tryz.func57, Tryz.ntmps57
   go_wp2
   go_ret
   exact ⟨by rw [decide_eq_true ⟨h1, h2⟩]; rfl, rfl⟩
  ·go_enter Tryz.func57, Tryz.ntmps57
   go_wp2
   go_ret
   exact ⟨by rw [decide_eq_false (by omega)]; rfl, rfl⟩
 ·go_enter Tryz.func57, Tryz.ntmps57
  go_wp2
  go_ret
  exact ⟨by rw [decide_eq_false (by omega)]; rfl, rfl⟩
theorem digit14 (c : Int) (w : World) : Calls Tryz.prog 58 #[.int .u8 c] w fun e w' => e = .returned (.bool (isDg c)) ∧ w' = w := by
 unfold isDg
 by_cases h1 : 48 ≤ c
 ·by_cases h2 : c ≤ 57
  ·go_enter Tryz.func58, Tryz.ntmps58
   go_wp2
   go_ret
   exact ⟨by rw [decide_eq_true ⟨h1, h2⟩]; rfl, rfl⟩
  ·go_enter Tryz.func58, Tryz.ntmps58
   go_wp2
   go_ret
   exact ⟨by rw [decide_eq_false (by omega)]; rfl, rfl⟩
 ·go_enter Tryz.func58, Tryz.ntmps58
  go_wp2
  go_ret
  exact ⟨by rw [decide_eq_false (by omega)]; rfl, rfl⟩
def okW14 (i : Nat) (c : Int) : Bool := isLt c || (isDg c && decide (0 < i))
theorem word_far {l : List Int} {i : Nat} {c : Int} (hc : l[i]? = some c) (h : okW14 i c = false) : wordB l = false := by
 match l, hc with
 | x :: t, hc =>
  rcases hw : wordB (x :: t) with _ | _
  ·rfl
  unfold wordB at hw
  simp only [Bool.and_eq_true, List.all_eq_true] at hw
  unfold okW14 at h
  rw [Bool.or_eq_false_iff] at h
  match i, hc with
  | 0, hc =>
   simp only [List.getElem?_cons_zero, Option.some.injEq] at hc
   subst hc
   rw [hw.1.1] at h
   cases h.1
  | i + 1, hc =>
   simp only [List.getElem?_cons_succ] at hc
   have q := hw.1.2 c (List.mem_of_getElem? hc)
   rw [h.1] at q
   simp at h
   simp [h.2] at q
theorem word_all {l : List Int} (h : ∀ (i : Nat) c, l[i]? = some c → okW14 i c = true) : wordB l = decide (1 ≤ l.length ∧ l.length ≤ 16) := by
 match l with
 | [] => rfl
 | x :: t =>
  have h0 := h 0 x rfl
  unfold okW14 at h0
  simp at h0
  have h1 : t.all (fun c => isLt c || isDg c) = true := by
   rw [List.all_eq_true]
   intro c hc
   obtain ⟨i, hi⟩ := List.mem_iff_getElem?.1 hc
   have q := h (i + 1) c hi
   unfold okW14 at q
   simpa using q
  unfold wordB
  simp only [h0, h1, Bool.true_and, List.length_cons]
  rw [Bool.eq_iff_iff, decide_eq_true_iff, decide_eq_true_iff]
  omega
end Go.Proofs.YtomppblgalepjaaGreatDoor

/- Word of the document (layer 14). -/
namespace Go.Proofs.YtomppblgalepjaaGreatDoor
open Go.RowKit Go.Lib
set_option linter.unusedVariables false
theorem byS_is {s : ByteArray} {i : Nat} (h : i < s.size) : ((s[i]'h).toNat : Int) = byS s i := by
 obtain ⟨⟨l⟩⟩ := s
 have hl : i < l.length := h
 unfold byS
 rw [List.getD_eq_getElem?_getD, show ({ data := { toList := l } } : ByteArray).data.toList = l from rfl, List.getElem?_eq_getElem hl]
 rfl
theorem byS_bd (s : ByteArray) (i : Nat) : 0 ≤ byS s i ∧ byS s i ≤ 255 := by
 unfold byS
 have := (s.data.toList.getD i 0).toNat_lt
 omega
set_option maxHeartbeats 2000000 in
theorem Word14 (s : ByteArray) (w : World) (hs : s.size ≤ 10000) : Calls Tryz.prog 40 #[.string s] w fun e w' => e = .returned (.bool (wordB (bytesL s))) ∧ w' = w := by
 obtain ⟨n, hn⟩ : ∃ n, s.size = n := ⟨_, rfl⟩
 have HN := hide hn
 go_enter Tryz.func40, Tryz.ntmps40
 go_wp2
 go_loopw [3] (fun v wr => ∃ i : Nat, i ≤ n ∧ v = .int .i64 i ∧ Hid (∀ (k : Nat) c, k < i → (bytesL s)[k]? = some c → okW14 k c = true) ∧ wr = w) (fun v _ => n - (intOf v).toNat)
 case atStart => exact ⟨0, by omega, rfl, fun k c h => by omega, rfl⟩
 case round =>
  obtain ⟨i, hi, rfl, HF, hww⟩ := hrel
  have hww2 := hww.symm
  subst hww2
  clear hww
  by_cases hlt : i < n
  ·have hi0 : (0 : Int) ≤ (i : Int) := by omega
   have hi1 : (i : Int) < (n : Int) := by omega
   have HAT := hide (bytesL_at (s := s) (i := i) (by rw [hn]; exact hlt))
   have hix : ∀ h : i < s.size, ((s[i]'h).toNat : Int) = byS s i := fun h => byS_is h
   generalize byS s i = c at *
   have step : okW14 i c = true → Hid (∀ (k : Nat) c, k < i + 1 → (bytesL s)[k]? = some c → okW14 k c = true) := fun h k x hk hx => by
    by_cases e : k = i
    ·subst e
     rw [HAT.out] at hx
     cases hx
     exact h
    ·exact HF.out k x (by omega) hx
   rcases hl : isLt c with _ | _
   ·have HL := hide hl
    rcases hd : isDg c with _ | _
    ·have HD := hide hd
     have HW := hide (word_far HAT.out (by unfold okW14; rw [hl, hd]; rfl))
     clear hl hd step
     go_wp2_with (first
      | (go_at_call 57; refine (letter14 c _).mono ?_; rintro e wl ⟨rfl, hw9⟩; have hw8 := hw9.symm; subst hw8; clear hw9; rw [HL.out])
      | (go_at_call 58; refine (digit14 c _).mono ?_; rintro e wl ⟨rfl, hw9⟩; have hw8 := hw9.symm; subst hw8; clear hw9; rw [HD.out]))
     go_ret
     exact ⟨by rw [HW.out]; rfl, rfl⟩
    ·have HD := hide hd
     by_cases h0 : i = 0
     ·have HW := hide (word_far HAT.out (by unfold okW14; rw [hl, h0]; simp))
      have h01 : (i : Int) = 0 := by omega
      have h02 : ¬ (0 : Int) < (i : Int) := by omega
      have h03 : ¬ 0 < i := by omega
      clear hl hd step h0 h01
      go_wp2_with (first
       | (go_at_call 57; refine (letter14 c _).mono ?_; rintro e wl ⟨rfl, hw9⟩; have hw8 := hw9.symm; subst hw8; clear hw9; rw [HL.out])
       | (go_at_call 58; refine (digit14 c _).mono ?_; rintro e wl ⟨rfl, hw9⟩; have hw8 := hw9.symm; subst hw8; clear hw9; rw [HD.out]))
      go_ret
      exact ⟨by rw [HW.out]; rfl, rfl⟩
     ·have HS1 := step (by unfold okW14; rw [hd]; simp; omega)
      have h02 : (0 : Int) < (i : Int) := by omega
      have h03 : 0 < i := by omega
      clear hl hd step h0
      go_wp2_with (first
       | (go_at_call 57; refine (letter14 c _).mono ?_; rintro e wl ⟨rfl, hw9⟩; have hw8 := hw9.symm; subst hw8; clear hw9; rw [HL.out])
       | (go_at_call 58; refine (digit14 c _).mono ?_; rintro e wl ⟨rfl, hw9⟩; have hw8 := hw9.symm; subst hw8; clear hw9; rw [HD.out]))
      go_roundw
      case rel => exact ⟨i + 1, by omega, by go_num, HS1, by trivial⟩
      case measure => simp [intOf]; omega
   ·have HL := hide hl
    have HS1 := step (by unfold okW14; rw [hl]; rfl)
    clear hl step
    go_wp2_with (go_at_call 57; refine (letter14 c _).mono ?_; rintro e wl ⟨rfl, hw9⟩; have hw8 := hw9.symm; subst hw8; clear hw9; rw [HL.out])
    go_roundw
    case rel => exact ⟨i + 1, by omega, by go_num, HS1, by trivial⟩
    case measure => simp [intOf]; omega
  ·obtain rfl : i = n := by omega
   have HW := hide (word_all (l := bytesL s) (fun k c hc => HF.out k c (by have := (List.getElem?_eq_some_iff.1 hc).1; rw [bytesL_sz, hn] at this; exact this) hc))
   rw [bytesL_sz, hn] at HW
   by_cases h1 : 1 ≤ i
   ·have h11 : (1 : Int) ≤ (i : Int) := by omega
    by_cases h2 : i ≤ 16
    ·have h21 : (i : Int) ≤ 16 := by omega
     go_wp2
     go_ret
     exact ⟨by rw [HW.out, decide_eq_true ⟨h1, h2⟩]; rfl, rfl⟩
    ·have h21 : ¬ (i : Int) ≤ 16 := by omega
     go_wp2
     go_ret
     exact ⟨by rw [HW.out, decide_eq_false (by omega)]; rfl, rfl⟩
   ·have h11 : ¬ (1 : Int) ≤ (i : Int) := by omega
    go_wp2
    go_ret
    exact ⟨by rw [HW.out, decide_eq_false (by omega)]; rfl, rfl⟩
end Go.Proofs.YtomppblgalepjaaGreatDoor

