/- A region that draws its order, whose operations only read, and whose callees hand back a value that does not hang on the world and write nothing that was there: one walk, in the order of the text. -/
import Derived.Test.YtgmimneendnfgaaWOpen
import Derived.Deep.QuietTactic
import Derived.BigQuiet
namespace Go.Proofs.Ytgmimneendnfgaa
open Go.RowKit

/-- A world in which all that was there in 'w' is as it was. -/
structure Gr (w : World) where
  val : World
  bel : Below w.heap.size w val

theorem region_grown {id : Nat} {Q : Exit → Act → World → Prop} {a : Act} {w : World} {l : List Oper} (hm : Try.prog.follows .mixedOrders = true) (hB : Region.lexB .any l.toArray = true)
    (h : wpQuiet Try.prog l.toArray (fun w' => ∃ g : Gr w, w' = g.val) (fun a' => ∀ w', (∃ g : Gr w, w' = g.val) → Q .normal a' w') l a) : (Code.region id l.toArray true).wp Try.prog Q a w :=
  wp_region_quiet (C := fun w' => ∃ g : Gr w, w' = g.val) hm hB ⟨⟨{ w with drawn := w.drawn + 1 }, ⟨rfl, rfl, rfl, Nat.le_refl _, fun _ _ => rfl⟩⟩, rfl⟩ (by simpa using h)

/-- A callee's contract in that class. -/
theorem calls_grown {f : FuncId} {args : Array Value} {W : World} {g : Gr W} {v : Value} (h : Calls Try.prog f args g.val fun e w' => e = .returned v ∧ Below g.val.heap.size g.val w') :
    Calls Try.prog f args g.val fun e w' => e = .returned v ∧ ∃ g' : Gr W, w' = g'.val :=
  h.mono fun _ w' ⟨he, hb'⟩ => ⟨he, ⟨w', g.bel.trans (hb'.mono g.bel.size)⟩, rfl⟩
theorem calls_grown_same {f : FuncId} {args : Array Value} {W : World} {g : Gr W} {v : Value} (h : Calls Try.prog f args g.val fun e w' => e = .returned v ∧ w' = g.val) :
    Calls Try.prog f args g.val fun e w' => e = .returned v ∧ ∃ g' : Gr W, w' = g'.val :=
  h.mono fun _ _ ⟨he, hw⟩ => ⟨he, g, hw⟩
end Go.Proofs.Ytgmimneendnfgaa
