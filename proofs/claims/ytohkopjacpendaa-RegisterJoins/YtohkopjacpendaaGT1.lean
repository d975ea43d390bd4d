/- Cells in memory; the document's May, Get, Same of layer 10; Light. -/
import Derived.Test.YtohkopjacpendaaGT0
import Derived.Test.YtohkopjacpendaaGRel
import Derived.Deep.RegionWith
import Derived.Deep.CutBlock
import Derived.Deep.CutRange
namespace Go.Proofs.Ytohkopjacpendaa
open Go.RowKit Go.Lib
set_option linter.unusedVariables false
def encC (x : Ce) : List Value := [.string x.1, .int .i64 x.2]
theorem encC_len (x : Ce) : (encC x).length = 2 := rfl
theorem encC_one (x : Ce) : ∀ v ∈ encC x, v.oneCell' = true := by
  intro v hv
  simp only [encC, List.mem_cons, List.not_mem_nil, or_false] at hv
  rcases hv with rfl | rfl <;> rfl
/-- A slice's cells. -/
def TS (w : World) (a : Option Addr) (n : Nat) (s : List Ce) : Prop := RS encC 2 w a n s
theorem TS.below {w w' : World} {a : Option Addr} {n : Nat} {s : List Ce} (h : TS w a n s) (hb : Below w.heap.size w w') : TS w' a n s := RS.below h hb
theorem TS.nil (w : World) (p : Option Addr) : TS w p 0 [] := RS.nil w p
theorem TS.at {w : World} {b off n : Nat} {s : List Ce} (h : TS w (some ⟨b, off, none⟩) n s) (i : Nat) (hi : i < n) : ∃ (k : ByteArray) (m : Int), s[i]? = some (k, m) ∧ w.cell? ⟨b, off + i * 2, none⟩ = some (.string k) ∧ w.cell? ⟨b, off + i * 2 + 1, none⟩ = some (.int .i64 m) := by
  have hl : i < s.length := by rw [h.1]; exact hi
  have hx : s[i]? = some s[i] := List.getElem?_eq_getElem hl
  rcases h.2.2 with h0 | ⟨b', off', ha, hc⟩
  · omega
  · cases ha
    have q := hc i _ hx
    exact ⟨s[i].1, s[i].2, hx, q 0 _ rfl, q 1 _ rfl⟩
theorem TS.addr {w : World} {a : Option Addr} {n : Nat} {s : List Ce} (h : TS w a n s) (h0 : 0 < n) : ∃ b off, a = some ⟨b, off, none⟩ := by
  rcases h.2.2 with hz | ⟨b, off, ha, _⟩
  · omega
  · exact ⟨b, off, ha⟩
theorem wrapT {j : Nat} (h : j ≤ 9223372036854775807) : IntKind.i64.wrap (j : Int) = j := by simp [IntKind.wrap, IntKind.bits, IntKind.signed]; omega
/-- An empty key. -/
theorem empT (k : ByteArray) : (k.toList == (⟨#[]⟩ : ByteArray).toList) = decide (k.size = 0) := by
  rw [eqK, Bool.eq_iff_iff, decide_eq_true_iff, decide_eq_true_iff]
  constructor
  · rintro rfl; rfl
  · intro h
    obtain ⟨⟨x⟩⟩ := k
    have : x.length = 0 := h
    rw [List.eq_nil_of_length_eq_zero this]
theorem neT {k : ByteArray} (h : ¬ k.size = 0) : ¬ k.toList = [] ∧ k.toList.isEmpty = false ∧ (k.toList == (⟨#[]⟩ : ByteArray).toList) = false := by
  have he := empT k
  rw [decide_eq_false h] at he
  have h0 : (⟨#[]⟩ : ByteArray).toList = [] := by rw [ByteArray.toList_eq]
  have hn : ¬ k.toList = [] := by
    intro q
    rw [q, h0] at he
    cases he
  refine ⟨hn, ?_, he⟩
  rcases hk : k.toList with _ | ⟨x, l⟩
  · exact absurd hk hn
  · rfl
theorem eqT {k : ByteArray} (h : k.size = 0) : k = ⟨#[]⟩ := by
  have he := empT k
  rw [decide_eq_true h, eqK, decide_eq_true_iff] at he
  exact he
theorem numT_yes {s : List Ce} {k : Nat} {x : Ce} {t : ByteArray} (hb : ∀ y ∈ s.take k, kC y ≠ t) (hx : s[k]? = some x) (he : x.1 = t) : numT s t = x.2 := by
  unfold numT
  rw [getG_yes hb hx he]
theorem numT_no {s : List Ce} {t : ByteArray} (hb : ∀ y ∈ s, kC y ≠ t) : numT s t = 0 := by
  unfold numT
  rw [getG_not hb]
def LightT (n : Nat) (s : List Ce) (w : World) (e : Ending) (w' : World) : Prop := ∃ b : Bool, e = .returned (.bool b) ∧ (b = true → n ≤ 60 ∧ ∀ x ∈ s, x.1.size ≤ 100) ∧ w' = w
end Go.Proofs.Ytohkopjacpendaa
