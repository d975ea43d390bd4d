/- Texts of this claim, joined: OK. -/
import Derived.Test.YtomppblgalepjaaGreatDoorJ25
import Derived.Test.YtomppblgalepjaaGreatDoorJ39
/- All of rules is seen (the program's, layer 16). -/
namespace Go.Proofs.YtomppblgalepjaaGreatDoor
open Go.RowKit Go.Lib
set_option linter.unusedVariables false
theorem RS.off {α : Type} {enc : α → List Value} {k D : Nat} {w0 : World} {a : Option Addr} {n : Nat} {l : List α} (h : RS enc k w0 a n l) (hk : ∀ x, (enc x).length = k) (h0 : 0 < k) (hD : w0.heap.size ≤ D) : OffD D a n := fun hn b hb => by
 obtain ⟨h1, h2, h3⟩ := h
 rcases h3 with hz | ⟨g, off, ha, hc⟩
 ·omega
 ·rw [ha] at hb
  have e : b = ⟨g, off, none⟩ := (Option.some.inj hb).symm
  subst e
  obtain ⟨x, hx⟩ : ∃ x, l[0]? = some x := ⟨_, List.getElem?_eq_getElem (by omega)⟩
  obtain ⟨v, hv⟩ : ∃ v, (enc x)[0]? = some v := ⟨_, List.getElem?_eq_getElem (by rw [hk]; exact h0)⟩
  have q := World.block_lt_of_cell? w0 _ (hc 0 x hx 0 v hv)
  exact .inl (Nat.lt_of_lt_of_le q hD)
def flL (G : List Int) (l : List Cl) : List Int := l.foldl (fun G c => flo8 c.1 c.2.2.1 G) G
theorem flL_snoc (G : List Int) (l : List Cl) (c : Cl) : flL G (l ++ [c]) = flo8 c.1 c.2.2.1 (flL G l) := by unfold flL; rw [List.foldl_append]; rfl
def okC (h : Int × Int × Int) (l : List Cl) (i : Nat) : Bool := match l[i]? with
 | some c => clsS h (i : Int) (flL [] (l.take i)) c
 | none => true
def okO (h : Int × Int × Int) (S : List ByteArray) (l : List Op) (i : Nat) : Bool := match l[i]? with
 | some o => opS h (i : Int) (S ++ (l.take i).map (·.1)) o
 | none => true
theorem clsS_le {h : Int × Int × Int} {cl : Int} {G : List Int} {c : Cl} (q : clsS h cl G c = true) : cl + 1 ≤ 12 := by
 unfold clsS at q
 rw [Bool.and_eq_true, Bool.and_eq_true, decide_eq_true_iff] at q
 exact q.1.1
theorem opS_le {h : Int × Int × Int} {op : Int} {S : List ByteArray} {o : Op} (q : opS h op S o = true) : op + 1 ≤ 16 := by
 unfold opS at q
 rw [Bool.and_eq_true, decide_eq_true_iff] at q
 exact q.1
theorem cls16 (D k : Nat) (h : Int × Int × Int) (t1 t2 t3 : Int) (S : List ByteArray) (f : Int → Int → Int) (a : Option Addr) (n c : Nat) (l : List Cl) (w : World) (hS : SN w D h k ((t1, t2, t3, 0, 0), S, [], f)) (hk : k ≤ 9000) (hh : h.2.1 ≤ 1000000) (hl : RS encCl 5 w a n l) (ho : OffD D a n) :
  Calls Tryz.prog 47 #[.slice a n c, .func (.func 48) #[.pointer (some ⟨D + 3, 0, none⟩)] #[]] w (ST D (fun W => SN W D h (k + 12) ((t1, t2, t3, (n : Int), 0), S, flL [] l, f)) (allN n (okC h l)) w) := by
 have hln := hl.1
 refine (all16Cl D l (okC h l) (fun i W => SN W D h (k + i) ((t1, t2, t3, (i : Int), 0), S, flL [] (l.take i), f) ∧ (i : Int) ≤ 12) (fun i W W' hi hb => ⟨hi.1.below hb, hi.2⟩) (fun i x W hx hi => ?_) a n c w hl ho ⟨by simpa [flL] using hS, by omega⟩ (by have := hS.size; omega)).mono ?_
 ·obtain ⟨i1, i2⟩ := hi
  have e : okC h l i = clsS h (i : Int) (flL [] (l.take i)) x := by unfold okC; rw [hx]
  have e2 : flL [] (l.take (i + 1)) = flo8 x.1 x.2.2.1 (flL [] (l.take i)) := by rw [List.take_add_one, hx, Option.toList_some, flL_snoc]
  rw [e, e2]
  refine (clause16 D (k + i) h t1 t2 t3 (i : Int) 0 S (flL [] (l.take i)) f x.1 x.2.2.1 x.2.2.2.1 x.2.2.2.2 x.2.1 W i1 (by omega) (by omega) hh).mono ?_
  rintro e W' ⟨rfl, hq, hp⟩
  refine ⟨rfl, hq, fun hz => ⟨?_, ?_⟩⟩
  ·have q := hp hz
   rw [show (((i + 1 : Nat) : Int)) = (i : Int) + 1 by omega]
   exact q
  ·have q := clsS_le hz
   omega
 ·rintro e W' ⟨rfl, hq, hp⟩
  refine ⟨rfl, hq, fun hz => ?_⟩
  have q := hp hz
  rw [List.take_of_length_le (by omega)] at q
  exact q.1.mono (by have := q.2; omega)
theorem ops16 (D k : Nat) (h : Int × Int × Int) (w0 : World) (t1 t2 t3 cl : Int) (S : List ByteArray) (G : List Int) (f : Int → Int → Int) (a : Option Addr) (n c : Nat) (l : List Op) (w : World) (hD : w0.heap.size ≤ D) (hb0 : Below w0.heap.size w0 w) (hS : SN w D h k ((t1, t2, t3, cl, 0), S, G, f)) (hf : ∀ a b, f a b ≤ 0) (hk : k ≤ 5000) (hh : h.1 ≤ 1000000 ∧ h.2.1 ≤ 1000000 ∧ h.2.2 ≤ 1000000) (hl : SF 2 ROp w0 a n l) (hs : ∀ o ∈ l, o.1.size ≤ maxLen) :
  Calls Tryz.prog 49 #[.slice a n c, .func (.func 50) #[.pointer (some ⟨D + 3, 0, none⟩)] #[]] w fun e w' => e = .returned (.bool (allN n (okO h S l))) ∧ GQ 4 D w w' := by
 refine (all16Op D w0 l (okO h S l) (fun i W => (∃ f', SN W D h (k + 20 * i) ((t1, t2, t3, cl, (i : Int)), S ++ (l.take i).map (·.1), G, f') ∧ ∀ a b, f' a b ≤ (i : Int)) ∧ (i : Int) ≤ 16) hD (fun i W W' hi hb => ?_) (fun i o p co W hx hi hbW hr => ?_) a n c w hl hb0 ⟨⟨f, by simpa using hS, by simpa using hf⟩, by omega⟩ (by have := hS.size; omega)).mono ?_
 ·obtain ⟨⟨f', i1, i2⟩, i3⟩ := hi
  exact ⟨⟨f', i1.below hb, i2⟩, i3⟩
 ·obtain ⟨⟨f', i1, i2⟩, i3⟩ := hi
  have e : okO h S l i = opS h (i : Int) (S ++ (l.take i).map (·.1)) o := by unfold okO; rw [hx]
  have e2 : S ++ (l.take (i + 1)).map (·.1) = S ++ (l.take i).map (·.1) ++ [o.1] := by rw [List.take_add_one, hx, Option.toList_some, List.map_append, List.append_assoc]; rfl
  rw [e]
  refine (oper16 D (k + 20 * i) h t1 t2 t3 cl (i : Int) (S ++ (l.take i).map (·.1)) G f' o.1 p o.2.length co o.2 W i1 (by omega) (hs o (List.mem_of_getElem? hx)) (by omega) hh i2 (hr.below hbW) (hr.off encDg_len (by decide) hD)).mono ?_
  rintro e W' ⟨rfl, hq, hp⟩
  refine ⟨rfl, hq, fun hz => ⟨?_, ?_⟩⟩
  ·obtain ⟨f2, q1, q2⟩ := hp hz
   refine ⟨f2, ?_, fun a b => by have := q2 a b; omega⟩
   rw [e2, show (((i + 1 : Nat) : Int)) = (i : Int) + 1 by omega]
   exact q1.mono (by omega)
  ·have q := opS_le hz
   omega
 ·rintro e W' ⟨rfl, hq, hp⟩
  exact ⟨rfl, hq⟩
end Go.Proofs.YtomppblgalepjaaGreatDoor

