/- The document's disk: New, Get, set, Left. -/
import Derived.Test.YteamedilcpfkgaaKMath
namespace Go.Proofs.Yteamedilcpfkgaa
open Go.RowKit
set_option linter.unusedVariables false

/-- Bytes that lie in none of some blocks. -/
def BSX (X : Nat → Prop) (w : World) (p : Option Addr) (n : Nat) (l : List Int) : Prop := BS w p n l ∧ (n = 0 ∨ ∀ a, p = some a → ¬ X a.block)
section
variable {X : Nat → Prop}
theorem BSX.below {w w' : World} {p : Option Addr} {n : Nat} {l : List Int} (h : BSX X w p n l) (hb : Below w.heap.size w w') : BSX X w' p n l := ⟨h.1.below hb, h.2⟩
theorem BSX.alloc {w : World} {p : Option Addr} {n : Nat} {l : List Int} (h : BSX X w p n l) (o : Obj) : BSX X (w.alloc o) p n l := ⟨h.1.alloc o, h.2⟩
theorem BSX.nil (w : World) (p : Option Addr) : BSX X w p 0 [] := ⟨BS.nil _ _, .inl rfl⟩
theorem BSX.kp {g : Nat} {u W : World} {p : Option Addr} {n : Nat} {l : List Int} (h : BSX X u p n l) (hk : KP g u W) {C : Array Value} {t : TypeId} (hx : BX u g C t) (hv : NoB C) : BSX X W p n l := ⟨h.1.kp hk hx hv, h.2⟩
theorem Own.blk {N : Nat} {w : World} {p : Option Addr} {n cap : Nat} {l : List Int} (h : Own N w (.slice p n cap) l) (a : Addr) (ha : p = some a) : N ≤ a.block := by
  obtain ⟨_, h0 | ⟨g, cap', cur, h1, h2, _⟩⟩ := h
  · have := h0.1; cases this; cases ha
  · cases h1; cases ha; exact h2
theorem Own.off {N : Nat} {w : World} {p : Option Addr} {n cap : Nat} {l : List Int} (h : Own N w (.slice p n cap) l) (hX : ∀ b, X b → b < N) : n = 0 ∨ ∀ a, p = some a → ¬ X a.block := .inr fun a ha hx => by
  have q := h.blk a ha
  have := hX _ hx
  omega
end
/-- A slot's two cells, a disk's seven. -/
def RSl (X : Nat → Prop) (w : World) (v : Value) (x : Sl) : Prop := ∃ p c, v = .agg #[.slice p x.l.length c, .int .i64 x.s] ∧ BSX X w p x.l.length x.l ∧ CP p x.l.length c
def RD (X : Nat → Prop) (w : World) (v : Value) (d : Dk) : Prop := ∃ pa ca pb cb, v = .agg #[.slice pa d.a.l.length ca, .int .i64 d.a.s, .slice pb d.b.l.length cb, .int .i64 d.b.s, .int .i64 d.room, .int .i64 d.stop, .bool d.dead] ∧ BSX X w pa d.a.l.length d.a.l ∧ CP pa d.a.l.length ca ∧ BSX X w pb d.b.l.length d.b.l ∧ CP pb d.b.l.length cb
section
variable {X : Nat → Prop}
theorem RD.below {w w' : World} {v : Value} {d : Dk} (h : RD X w v d) (hb : Below w.heap.size w w') : RD X w' v d := by
  obtain ⟨pa, ca, pb, cb, h0, h1, h2, h3, h4⟩ := h
  exact ⟨pa, ca, pb, cb, h0, h1.below hb, h2, h3.below hb, h4⟩
theorem RSl.below {w w' : World} {v : Value} {x : Sl} (h : RSl X w v x) (hb : Below w.heap.size w w') : RSl X w' v x := by
  obtain ⟨p, c, h0, h1, h2⟩ := h
  exact ⟨p, c, h0, h1.below hb, h2⟩
def newD (room : Int) : Dk := ⟨⟨[], 0⟩, ⟨[], 0⟩, room, -1, false⟩
theorem newD_ok {room : Int} (h0 : 0 ≤ room) (h1 : room ≤ 1048576) : (newD room).ok := ⟨⟨By.nil, Nat.le_refl _⟩, ⟨By.nil, Nat.le_refl _⟩, by simp [Dk.left, newD]; omega, h1, by simp [newD], by simp [newD]⟩
theorem newR_any (room : Int) (w : World) : Calls Try.prog 8 #[.int .i64 room] w fun e w' => ∃ v, e = .returned v ∧ RD X w' v (newD room) ∧ Below w.heap.size w w' := by
  go_enter Try.func8, Try.ntmps8
  go_wp2
  refine bodyPost_ret (v := .agg #[.slice none 0 0, .int .i64 0, .slice none 0 0, .int .i64 0, .int .i64 room, .int .i64 (-1), .bool false]) (by simp [results, Try.results8, go_sem]) rfl ⟨_, rfl, ⟨none, 0, none, 0, rfl, BSX.nil _ _, ⟨Nat.le_refl _, by decide, fun _ => rfl⟩, BSX.nil _ _, Nat.le_refl _, by decide, fun _ => rfl⟩, ?_⟩
  exact (Below.refl _ _).alloc (Nat.le_refl _) _
theorem getR_any (v : Value) (d : Dk) (i : Int) (w : World) (h : RD X w v d) : Calls Try.prog 16 #[v, .int .i64 i] w fun e w' => ∃ x, e = .returned x ∧ RSl X w' x (d.get i) ∧ Below w.heap.size w w' := by
  obtain ⟨pa, ca, pb, cb, rfl, h1, h2, h3, h4⟩ := h
  have H1 := hide h1
  have H3 := hide h3
  clear h1 h3
  by_cases hi : i = 0
  · have HG : Hid (d.get i = d.a) := by unfold Hid Dk.get; rw [if_pos hi]
    go_enter Try.func16, Try.ntmps16
    go_wp2
    refine bodyPost_ret (v := .agg #[.slice pa d.a.l.length ca, .int .i64 d.a.s]) (by simp [results, Try.results16, go_sem]) rfl ⟨_, rfl, ?_, (Below.refl _ _).alloc (Nat.le_refl _) _ |>.alloc (by simp) _⟩
    first | rw [HG.out] | (rw [hi] at HG; rw [HG.out])
    exact ⟨pa, ca, rfl, (H1.out.alloc _).alloc _, h2⟩
  · have HG : Hid (d.get i = d.b) := by unfold Hid Dk.get; rw [if_neg hi]
    go_enter Try.func16, Try.ntmps16
    go_wp2
    refine bodyPost_ret (v := .agg #[.slice pb d.b.l.length cb, .int .i64 d.b.s]) (by simp [results, Try.results16, go_sem]) rfl ⟨_, rfl, ?_, (Below.refl _ _).alloc (Nat.le_refl _) _ |>.alloc (by simp) _⟩
    rw [HG.out]
    exact ⟨pb, cb, rfl, (H3.out.alloc _).alloc _, h4⟩
theorem setR_any (v : Value) (d : Dk) (i : Int) (x : Value) (s : Sl) (w : World) (h : RD X w v d) (hx : RSl X w x s) : Calls Try.prog 27 #[v, .int .i64 i, x] w fun e w' => ∃ y, e = .returned y ∧ RD X w' y (d.set i s) ∧ Below w.heap.size w w' := by
  obtain ⟨pa, ca, pb, cb, rfl, h1, h2, h3, h4⟩ := h
  obtain ⟨p, c, rfl, g1, g2⟩ := hx
  have H1 := hide h1
  have H3 := hide h3
  have G1 := hide g1
  clear h1 h3 g1
  by_cases hi : i = 0
  · have HG : Hid (d.set i s = { d with a := s }) := by unfold Hid Dk.set; rw [if_pos hi]
    go_enter Try.func27, Try.ntmps27
    go_wp2
    refine bodyPost_ret (v := .agg #[.slice p s.l.length c, .int .i64 s.s, .slice pb d.b.l.length cb, .int .i64 d.b.s, .int .i64 d.room, .int .i64 d.stop, .bool d.dead]) (by simp [results, Try.results27, go_sem]) rfl ⟨_, rfl, ?_, ((Below.refl _ _).alloc (Nat.le_refl _) _ |>.alloc (by simp) _).alloc (by simp; omega) _⟩
    first | rw [HG.out] | (rw [hi] at HG; rw [HG.out])
    exact ⟨p, c, pb, cb, rfl, ((G1.out.alloc _).alloc _).alloc _, g2, ((H3.out.alloc _).alloc _).alloc _, h4⟩
  · have HG : Hid (d.set i s = { d with b := s }) := by unfold Hid Dk.set; rw [if_neg hi]
    go_enter Try.func27, Try.ntmps27
    go_wp2
    refine bodyPost_ret (v := .agg #[.slice pa d.a.l.length ca, .int .i64 d.a.s, .slice p s.l.length c, .int .i64 s.s, .int .i64 d.room, .int .i64 d.stop, .bool d.dead]) (by simp [results, Try.results27, go_sem]) rfl ⟨_, rfl, ?_, ((Below.refl _ _).alloc (Nat.le_refl _) _ |>.alloc (by simp) _).alloc (by simp; omega) _⟩
    rw [HG.out]
    exact ⟨pa, ca, p, c, rfl, ((H1.out.alloc _).alloc _).alloc _, h2, ((G1.out.alloc _).alloc _).alloc _, g2⟩
theorem leftR_any (v : Value) (d : Dk) (w : World) (h : RD X w v d) (hd : d.ok) : Calls Try.prog 26 #[v] w fun e w' => e = .returned (.int .i64 d.left) ∧ Below w.heap.size w w' := by
  obtain ⟨pa, ca, pb, cb, rfl, _⟩ := h
  have hl := hd.lens
  have hr : d.room ≤ 1048576 := hd.2.2.2.1
  obtain ⟨hl, h0⟩ := hl
  go_enter Try.func26, Try.ntmps26
  go_wp2
  go_ret
  exact ⟨by unfold Dk.left; rfl, (Below.refl _ _).alloc (Nat.le_refl _) _⟩
end
end Go.Proofs.Yteamedilcpfkgaa
