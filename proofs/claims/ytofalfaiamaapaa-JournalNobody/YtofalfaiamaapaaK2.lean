/- The document's disk: what an act makes of it. -/
import Derived.Test.YtofalfaiamaapaaK1
namespace Go.Proofs.Ytofalfaiamaapaa
open Go.RowKit
set_option linter.unusedVariables false
section
variable {X : Nat → Prop}
theorem Dk.tick_get (d : Dk) (i : Int) : d.tick.get i = d.get i := by unfold Dk.tick; split <;> rfl
theorem Dk.tick_pos {d : Dk} (h : d.stop > 0) : d.tick = { d with stop := d.stop - 1 } := by unfold Dk.tick; rw [if_pos h]
theorem Dk.tick_neg {d : Dk} (h : ¬ d.stop > 0) : d.tick = d := by unfold Dk.tick; rw [if_neg h]
theorem NoB.disk (a b : Option Addr) (na ca nb cb : Nat) (x y z q : Int) (e : Bool) : NoB #[.slice a na ca, .int .i64 x, .slice b nb cb, .int .i64 y, .int .i64 z, .int .i64 q, .bool e] := NoB.mk _ (by simp)
theorem NoB.slot (a : Option Addr) (na ca : Nat) (x : Int) : NoB #[.slice a na ca, .int .i64 x] := NoB.mk _ (by simp)
theorem RD.kp {g : Nat} {u W : World} {v : Value} {d : Dk} (h : RD X u v d) (hk : KP g u W) {C : Array Value} {t : TypeId} (hx : BX u g C t) (hv : NoB C) : RD X W v d := by
  obtain ⟨pa, ca, pb, cb, h0, h1, h2, h3, h4⟩ := h
  exact ⟨pa, ca, pb, cb, h0, h1.kp hk hx hv, h2, h3.kp hk hx hv, h4⟩
end
end Go.Proofs.Ytofalfaiamaapaa
