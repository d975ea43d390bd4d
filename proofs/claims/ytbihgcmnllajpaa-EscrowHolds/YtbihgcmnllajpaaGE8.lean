/- What layer 11's functions tell. -/
import Derived.Test.YtbihgcmnllajpaaGE5
namespace Go.Proofs.Ytbihgcmnllajpaa
open Go.RowKit Go.Lib
set_option linter.unusedVariables false
abbrev okRep (r : Int) : Bool := decide (1 ≤ r ∧ r ≤ 5)
abbrev okFlo (f : Int) : Bool := decide (-1000 ≤ f ∧ f ≤ 0)
abbrev okMuch (m : Int) : Bool := decide (1 ≤ m ∧ m ≤ 1000)
def chk11 (s : List Ac) : Int := if mayA s = true then 0 else 1
def num11 (s : List Ac) (t : ByteArray) : Int := if mayA s = true then numA (havA s t) else 0
def rgt11 (s : List Ac) (t : ByteArray) (r f : Int) : Int := if (mayA s && okRep r && okFlo f) = true then rgtA (havA s t) r.toNat f else 0
def may11 (s : List Ac) (t : ByteArray) (r f m : Int) : Int := if (mayA s && mayK t && okRep r && okFlo f && okMuch m) = true then (if rgtA (havA s t) r.toNat f < m then 5 else 0) else 1
/-- Is an up one that may be asked for? a move? -/
def okUp (s : List Ac) (t : ByteArray) (r m : Int) : Bool := mayA s && mayK t && okRep r && decide (-1000 ≤ m ∧ m ≤ 1000)
def okMov (s : List Ac) (t : ByteArray) (r q m : Int) : Bool := mayA s && mayK t && okRep r && okRep q && okMuch m
/-- What comes of a move. -/
def movA (s : List Ac) (t : ByteArray) (r q : Nat) (m : Int) : List Ac := if q = r then s else addA (addA s t r (-m)) t q m
theorem chk11_yes {s : List Ac} (h : mayA s = true) : chk11 s = 0 := by unfold chk11; rw [if_pos h]
theorem chk11_no {s : List Ac} (h : mayA s = false) : chk11 s = 1 := by unfold chk11; rw [h]; rfl
theorem num11_yes {s : List Ac} (h : mayA s = true) (t : ByteArray) : num11 s t = numA (havA s t) := by unfold num11; rw [if_pos h]
theorem num11_no {s : List Ac} (h : mayA s = false) (t : ByteArray) : num11 s t = 0 := by unfold num11; rw [h]; rfl
theorem movA_num {s : List Ac} (h : mayA s = true) (t : ByteArray) {r q : Nat} (hr : 1 ≤ r ∧ r ≤ 5) (hq : 1 ≤ q ∧ q ≤ 5) (m : Int) : numA (havA (movA s t r q m) t) = numA (havA s t) := by
  unfold movA
  split
  · rfl
  · have p := mayA_parts h
    have hl := havA_len p.2.1 t
    rw [addA_add p.1 p.2.1, havA_set p.1 t ((incA_len _ _ _).trans ((incA_len _ _ _).trans hl)), if_pos rfl, numA_mov hl hr hq]
/-- What is moved by two steps may be, whatever stands between. -/
theorem addA_srt {s : List Ac} (hs : SrtG kA s) (t : ByteArray) (r : Nat) (m : Int) : SrtG kA (addA s t r m) := setA_srt hs t _
theorem addA_fv {s : List Ac} (hf : FvA s) (t : ByteArray) (r : Nat) (m : Int) : FvA (addA s t r m) := setA_fv hf t ((incA_len _ _ _).trans (havA_len hf t))
theorem incA_bd {h : List Int} (hl : h.length = 5) (hb : h.all in40 = true) {r : Nat} (hr : 1 ≤ r ∧ r ≤ 5) {m : Int} (hm : -1000 ≤ m ∧ m ≤ 1000) (j : Nat) : -1099511628776 ≤ atH (incA h r m) j ∧ atH (incA h r m) j ≤ 1099511628776 := by
  have := bd_of hb j
  rw [incA_get hl hr]
  split <;> omega
theorem inc_bd41 {h : List Int} (hl : h.length = 5) (hb : h.all in40 = true) {r : Nat} (hr : 1 ≤ r ∧ r ≤ 5) {m : Int} (hm : -1000 ≤ m ∧ m ≤ 1000) : bd41 (incA h r m) := fun j => by
  have := incA_bd hl hb hr hm j
  omega
theorem numA_bd {h : List Int} (hb : h.all in40 = true) : -5497558138880 ≤ numA h ∧ numA h ≤ 5497558138880 := by
  have h0 := bd_of hb 0
  have h1 := bd_of hb 1
  have h2 := bd_of hb 2
  have h3 := bd_of hb 3
  have h4 := bd_of hb 4
  unfold numA
  omega
theorem rgtA_bd {h : List Int} (hb : h.all in40 = true) (r : Nat) {f : Int} (hf : -1000 ≤ f ∧ f ≤ 0) : -1099511627776 ≤ rgtA h r f ∧ rgtA h r f ≤ 1099511628776 := by
  unfold rgtA
  split
  · have := bd_of hb 0
    omega
  · have := bd_of hb (r - 1)
    omega
end Go.Proofs.Ytbihgcmnllajpaa
