/- Deeds put into accounts (layer 11): what 'known' reckons, and what the theorem of rights says of it. -/
import Derived.Test.YtbihgcmnllajpaaGE0
import Derived.Test.YtbihgcmnllajpaaGE1
namespace Go.Proofs.Ytbihgcmnllajpaa
set_option linter.unusedVariables false
/-- The accounts of the deeds that are known. -/
def knA (key : ByteArray) (k : Nat → Nat) (l : List Gd) : List Ac := oneA key (fun j => hG k j l)
theorem knA_nil (key : ByteArray) (k : Nat → Nat) : knA key k [] = [] := oneA_nil key
/-- A deed that is not known turns nothing. -/
theorem knA_not {key : ByteArray} {k : Nat → Nat} {l : List Gd} {d : Gd} (h : ¬ d.m ≤ k d.rep) : knA key k (l ++ [d]) = knA key k l := by
  unfold knA
  exact oneA_ext (fun j _ _ => by rw [hG_app, hG_one, if_neg h, Int.add_zero])
/-- Up or down. -/
theorem knA_up {key : ByteArray} {k : Nat → Nat} {l : List Gd} {d : Gd} (h : d.m ≤ k d.rep) (ht : d.tgt = 0) (hr : 1 ≤ d.rep ∧ d.rep ≤ 5) : addA (knA key k l) key d.rep d.n = knA key k (l ++ [d]) := by
  unfold knA
  rw [oneA_add key _ hr]
  exact oneA_ext (fun j _ _ => by rw [hG_app, hG_one, if_pos h, effG, if_pos ht])
/-- Moved to one's own. -/
theorem knA_own {key : ByteArray} {k : Nat → Nat} {l : List Gd} {d : Gd} (h : d.m ≤ k d.rep) (ht : d.tgt = d.rep) (hr : 1 ≤ d.rep ∧ d.rep ≤ 5) : knA key k l = knA key k (l ++ [d]) := by
  unfold knA
  refine oneA_ext (fun j _ _ => ?_)
  rw [hG_app, hG_one, if_pos h, effG, if_neg (by omega), if_pos ht, Int.add_zero]
/-- Moved to another. -/
theorem knA_mov {key : ByteArray} {k : Nat → Nat} {l : List Gd} {d : Gd} (h : d.m ≤ k d.rep) (h0 : d.tgt ≠ d.rep) (hr : 1 ≤ d.rep ∧ d.rep ≤ 5) (ht : 1 ≤ d.tgt ∧ d.tgt ≤ 5) : addA (addA (knA key k l) key d.rep (-d.n)) key d.tgt d.n = knA key k (l ++ [d]) := by
  unfold knA
  rw [oneA_add key _ hr, oneA_add key _ ht]
  refine oneA_ext (fun j _ _ => ?_)
  rw [hG_app, hG_one, if_pos h, effG, if_neg (show ¬ d.tgt = 0 by omega), if_neg h0]
  repeat' split
  all_goals omega
theorem knA_have (key : ByteArray) (k : Nat → Nat) (l : List Gd) : havA (knA key k l) key = vec5 (fun j => hG k j l) := oneA_have key _
/-- They may be: numbers of few and small deeds. -/
theorem knA_bd {k : Nat → Nat} {l : List Gd} (hl : l.length ≤ 24) (hn : ∀ d ∈ l, -9 ≤ d.n ∧ d.n ≤ 9) (j : Nat) : -216 ≤ hG k j l ∧ hG k j l ≤ 216 := by
  have := hG_bd (b := 9) k j (by omega) l hn
  omega
theorem knA_may {key : ByteArray} (hk : mayK key = true) {k : Nat → Nat} {l : List Gd} (hl : l.length ≤ 24) (hn : ∀ d ∈ l, -9 ≤ d.n ∧ d.n ≤ 9) : mayA (knA key k l) = true := by
  refine oneA_may hk (fun j => ?_)
  have := knA_bd (k := k) hl hn j
  unfold top40
  omega
theorem knA_len (key : ByteArray) (k : Nat → Nat) (l : List Gd) : (knA key k l).length ≤ 1 := setA_len [] key _
/-- What one may begin with. -/
def baseA (low : Int) : Nat → Int := fun j => if j = 1 then -low else 0
theorem baseA_pos {low : Int} (h : low ≤ 0) (j : Nat) : 0 ≤ baseA low j := by
  unfold baseA
  split <;> omega
theorem knA_rights {key : ByteArray} {low : Int} {l : List Gd} {K : Nat → Nat → Nat} (h : EI (baseA low) l K) (q : Nat) {j : Nat} (hj : 1 ≤ j ∧ j ≤ 5) : 0 ≤ rgtA (havA (knA key (K q) l) key) j low := by
  rw [knA_have, vec5_rgt _ hj]
  exact h.rights q j
theorem knA_floor {key : ByteArray} {low : Int} {l : List Gd} {K : Nat → Nat → Nat} (h : EI (baseA low) l K) (q : Nat) : low ≤ numA (havA (knA key (K q) l) key) := by
  have h1 := knA_rights (key := key) h q (j := 1) (by omega)
  have h2 := knA_rights (key := key) h q (j := 2) (by omega)
  have h3 := knA_rights (key := key) h q (j := 3) (by omega)
  have h4 := knA_rights (key := key) h q (j := 4) (by omega)
  have h5 := knA_rights (key := key) h q (j := 5) (by omega)
  have := rgtA_sum (havA (knA key (K q) l) key) low
  omega
/-- What is within the rights is right. -/
theorem deed_right {key : ByteArray} {low : Int} {l : List Gd} {K : Nat → Nat → Nat} (h : EI (baseA low) l K) (d : Gd) (hr : 1 ≤ d.rep ∧ d.rep ≤ 5) (x : Int) (hx : 0 ≤ x) (hd : d.n = x ∨ d.n = -x) (hm : x ≤ rgtA (havA (knA key (K d.rep) l) key) d.rep low) : 0 ≤ baseA low d.rep + hG (K d.rep) d.rep l + effG d d.rep := by
  rw [knA_have, vec5_rgt _ hr] at hm
  have hm' : x ≤ baseA low d.rep + hG (K d.rep) d.rep l := hm
  have : -x ≤ effG d d.rep := by
    unfold effG
    split
    · rw [if_pos rfl]; omega
    · split
      · omega
      · rw [if_pos rfl]; omega
  omega
end Go.Proofs.Ytbihgcmnllajpaa
