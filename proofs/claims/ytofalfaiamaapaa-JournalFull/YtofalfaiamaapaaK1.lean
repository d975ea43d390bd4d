/- The document's disk: New, Get, set, Left. -/
import Derived.Test.YtofalfaiamaapaaKMath
namespace Go.Proofs.Ytofalfaiamaapaa
open Go.RowKit
set_option linter.unusedVariables false

/-- Bytes that lie in none of some blocks. -/
def BSX (X : Nat → Prop) (w : World) (p : Option Addr) (n : Nat) (l : List Int) : Prop := BS w p n l ∧ (n = 0 ∨ ∀ a, p = some a → ¬ X a.block)
section
variable {X : Nat → Prop}
theorem BSX.below {w w' : World} {p : Option Addr} {n : Nat} {l : List Int} (h : BSX X w p n l) (hb : Below w.heap.size w w') : BSX X w' p n l := ⟨h.1.below hb, h.2⟩
theorem BSX.alloc {w : World} {p : Option Addr} {n : Nat} {l : List Int} (h : BSX X w p n l) (o : Obj) : BSX X (w.alloc o) p n l := ⟨h.1.alloc o, h.2⟩
theorem BSX.nil (w : World) (p : Option Addr) : BSX X w p 0 [] := ⟨BS.nil _ _, .inl rfl⟩
theorem BSX.kp {g : Nat} {u W : World} {p : Option Addr} {n : Nat} {l : List Int} (h : BSX X u p n l) (hk : KP g u W) {C : Array Value} {t : TypeId} (hx : BX u g C t) (hv : NoB C) : BSX X W p n l := ⟨h.1.kp hk hx hv, h.2⟩
theorem Own.blk {N : Nat} {w : World} {p : Option Addr} {n cap : Nat} {l : List Int} (h : Own N w (.slice p n cap) l) (a : Addr) (ha : p = some a) : N ≤ a.block := by
  obtain ⟨_, h0 | ⟨g, cap', cur, h1, h2, _⟩⟩ := h
  · have := h0.1; cases this; cases ha
  · cases h1; cases ha; exact h2
theorem Own.off {N : Nat} {w : World} {p : Option Addr} {n cap : Nat} {l : List Int} (h : Own N w (.slice p n cap) l) (hX : ∀ b, X b → b < N) : n = 0 ∨ ∀ a, p = some a → ¬ X a.block := .inr fun a ha hx => by
  have q := h.blk a ha
  have := hX _ hx
  omega
end
/-- A slot's two cells, a disk's seven. -/
def RSl (X : Nat → Prop) (w : World) (v : Value) (x : Sl) : Prop := ∃ p c, v = .agg #[.slice p x.l.length c, .int .i64 x.s] ∧ BSX X w p x.l.length x.l ∧ CP p x.l.length c
def RD (X : Nat → Prop) (w : World) (v : Value) (d : Dk) : Prop := ∃ pa ca pb cb, v = .agg #[.slice pa d.a.l.length ca, .int .i64 d.a.s, .slice pb d.b.l.length cb, .int .i64 d.b.s, .int .i64 d.room, .int .i64 d.stop, .bool d.dead] ∧ BSX X w pa d.a.l.length d.a.l ∧ CP pa d.a.l.length ca ∧ BSX X w pb d.b.l.length d.b.l ∧ CP pb d.b.l.length cb
section
variable {X : Nat → Prop}
theorem RD.below {w w' : World} {v : Value} {d : Dk} (h : RD X w v d) (hb : Below w.heap.size w w') : RD X w' v d := by
  obtain ⟨pa, ca, pb, cb, h0, h1, h2, h3, h4⟩ := h
  exact ⟨pa, ca, pb, cb, h0, h1.below hb, h2, h3.below hb, h4⟩
theorem RSl.below {w w' : World} {v : Value} {x : Sl} (h : RSl X w v x) (hb : Below w.heap.size w w') : RSl X w' v x := by
  obtain ⟨p, c, h0, h1, h2⟩ := h
  exact ⟨p, c, h0, h1.below hb, h2⟩
def newD (room : Int) : Dk := ⟨⟨[], 0⟩, ⟨[], 0⟩, room, -1, false⟩
theorem newD_ok {room : Int} (h0 : 0 ≤ room) (h1 : room ≤ 1048576) : (newD room).ok := ⟨⟨By.nil, Nat.le_refl _⟩, ⟨By.nil, Nat.le_refl _⟩, by simp [Dk.left, newD]; omega, h1, by simp [newD], by simp [newD]⟩
end
end Go.Proofs.Ytofalfaiamaapaa
