/- What a step leaves as it was; the journal in memory; what it tells; what is done when a renewal ends (layer 7). -/
import Derived.Test.YtofalfaiamaapaaQ3
import Derived.Test.YtofalfaiamaapaaP4
import Derived.Defers
import Derived.Deep.RegionWith
namespace Go.Proofs.Ytofalfaiamaapaa
open Go.RowKit
set_option linter.unusedVariables false
/-- What a step leaves: all blocks but those of X; it may write those of X' next. -/
def Sp (X X' : Nat → Prop) (w w' : World) : Prop := (∀ k, k < w.heap.size → ¬ X k → w'.heap[k]? = w.heap[k]?) ∧ (∀ b, X' b → X b ∨ w.heap.size ≤ b) ∧ w.heap.size ≤ w'.heap.size
theorem Stp.sp {g : Nat} {va vb va' vb' : Value} {w w' : World} (h : Stp g va vb va' vb' w w') : Sp (Xs g va vb) (Xs g va' vb') w w' := h
theorem Sp.refl (X : Nat → Prop) (w : World) : Sp X X w w := ⟨fun _ _ _ => rfl, fun _ h => .inl h, Nat.le_refl _⟩
theorem Sp.below {X : Nat → Prop} {w w' : World} (h : Below w.heap.size w w') : Sp X X w w' := ⟨fun k hk _ => h.block k hk, fun _ h => .inl h, h.size⟩
theorem Sp.trans {X Y Z : Nat → Prop} {w w1 w2 : World} (h : Sp X Y w w1) (k : Sp Y Z w1 w2) : Sp X Z w w2 := by
  refine ⟨fun j hj hx => ?_, fun b hb => ?_, Nat.le_trans h.2.2 k.2.2⟩
  · rw [k.1 j (Nat.lt_of_lt_of_le hj h.2.2) (fun hx' => ?_), h.1 j hj hx]
    rcases h.2.1 _ hx' with q | q
    · exact hx q
    · omega
  · rcases k.2.1 b hb with q | q
    · exact h.2.1 b q
    · exact .inr (Nat.le_trans h.2.2 q)
theorem Sp.add {X X' : Nat → Prop} {w w' : World} (h : Sp X X' w w') (Y : Nat → Prop) : Sp (fun b => X b ∨ Y b) (fun b => X' b ∨ Y b) w w' :=
  ⟨fun k hk hn => h.1 k hk (fun q => hn (.inl q)), fun b hb => hb.elim (fun q => (h.2.1 b q).imp .inl id) (fun q => .inl (.inr q)), h.2.2⟩
theorem Sp.setc {X X' : Nat → Prop} {w : World} {g : Nat} (hg : X g) (hx : ∀ b, X' b → X b ∨ w.heap.size ≤ b) (i : Nat) (x : Value) : Sp X X' w (w.setCell ⟨g, i, none⟩ x) := by
  refine ⟨fun k hk hn => ?_, hx, by simp [World.setCell]⟩
  have hne : g ≠ k := fun e => hn (e ▸ hg)
  simp [World.setCell, Array.getElem?_modify, hne]
theorem Sp.cell {X X' : Nat → Prop} {w w' : World} (s : Sp X X' w w') {p : Addr} {v : Value} (hp : w.cell? p = some v) (hn : ¬ X p.block) : w'.cell? p = some v := by
  rw [World.cell?_of_block (s.1 _ (World.block_lt_of_cell? w _ hp) hn)]
  exact hp
theorem BX.sp {X X' : Nat → Prop} {w w' : World} {k : Nat} {C : Array Value} {t : TypeId} (h : BX w k C t) (s : Sp X X' w w') (hn : ¬ X k) : BX w' k C t := by
  unfold BX
  rw [s.1 k h.size hn]
  exact h
theorem OwnR.sp {α : Type} {e : α → List Value} {k : Nat} {T : TypeId} {N : Nat} {X X' : Nat → Prop} {w w' : World} {v : Value} {l : List α} (h : OwnR e k T N w v l) (s : Sp X X' w w') (hn : ∀ b, v.ownBlock = some b → ¬ X b) : OwnR e k T N w' v l := by
  obtain ⟨h0, h1 | ⟨g, cap, cur, h1, h2, h3, h4⟩⟩ := h
  · exact ⟨h0, .inl h1⟩
  · refine ⟨h0, .inr ⟨g, cap, cur, h1, h2, ?_, h4⟩⟩
    rw [s.1 g (Array.getElem?_eq_some_iff.1 h3).1 (hn g (by rw [h1]; rfl))]
    exact h3
theorem Sp.wide {X X' Y : Nat → Prop} {w w' : World} (h : Sp X X' w w') (hy : ∀ b, X b → Y b) : Sp Y X' w w' :=
  ⟨fun k hk hn => h.1 k hk (fun q => hn (hy k q)), fun b hb => (h.2.1 b hb).imp (hy b) id, h.2.2⟩
/-- A journal's four cells. -/
abbrev JC (g : Nat) (s t : Int) (k : Bool) : Array Value := #[.pointer (some ⟨g, 0, none⟩), .int .i64 s, .int .i64 t, .bool k]
abbrev BJ (w : World) (jb g : Nat) (s t : Int) (k : Bool) : Prop := BX w jb (JC g s t k) 62
theorem Turn_any (jb g : Nat) (s t : Int) (k : Bool) (w : World) (h : BJ w jb g s t k) : Calls Try.prog 13 #[.pointer (some ⟨jb, 0, none⟩)] w fun e w' => e = .returned (.int .i64 t) ∧ w' = w := by
  have c2 := h.cell 2 _ rfl
  clear h
  go_enter Try.func13, Try.ntmps13
  go_wp2
  go_ret
  exact ⟨rfl, rfl⟩
theorem Broken_any (jb g : Nat) (s t : Int) (k : Bool) (w : World) (h : BJ w jb g s t k) : Calls Try.prog 23 #[.pointer (some ⟨jb, 0, none⟩)] w fun e w' => e = .returned (.bool k) ∧ w' = w := by
  have c0 := h.cell 0 _ rfl
  have c3 := h.cell 3 _ rfl
  clear h
  go_enter Try.func23, Try.ntmps23
  go_wp2
  go_ret
  exact ⟨rfl, rfl⟩
set_option maxHeartbeats 1000000 in
theorem renew1_ok (c4 c2 jb g : Nat) (s t : Int) (k : Bool) (T4 T2 : TypeId) (u : FrameMode) (w : World) (h4 : BX w c4 #[.int .i64 0] T4) (h2 : BX w c2 #[.pointer (some ⟨jb, 0, none⟩)] T2) (h : BJ w jb g s t k) :
    CallsD Try.prog 55 #[.pointer (some ⟨c4, 0, none⟩), .pointer (some ⟨c2, 0, none⟩)] u w fun e u' w' => u' = u ∧ (e = .returned (.tuple #[]) ∧ w' = (w.setCell ⟨jb, 3, none⟩ (.bool false)).drew) := by
  have a4 := h4.cell 0 _ rfl
  have a2 := h2.cell 0 _ rfl
  have f3 := h.free 3
  have a3 := h.cell 3 _ rfl
  clear h h4 h2
  go_enter_d Try.func55, Try.ntmps55
  go_region
  go_end0
  exact ⟨rfl, rfl⟩
set_option maxHeartbeats 1000000 in
theorem renew1_bad (c4 c2 jb g : Nat) (s t : Int) (k : Bool) (T4 T2 : TypeId) (C : Array Value) (st er : Int) (u : FrameMode) (w : World) (h4 : BX w c4 #[.int .i64 er] T4) (h2 : BX w c2 #[.pointer (some ⟨jb, 0, none⟩)] T2) (h : BJ w jb g s t k) (hd : BX w g C 69) (h0 : C[0]? = some (.bool true)) (h6 : C[6]? = some (.int .i64 st)) (he : er ≠ 0) :
    CallsD Try.prog 55 #[.pointer (some ⟨c4, 0, none⟩), .pointer (some ⟨c2, 0, none⟩)] u w fun e u' w' => u' = u ∧ (e = .returned (.tuple #[]) ∧ w' = (w.setCell ⟨jb, 3, none⟩ (.bool (st == 0))).drew) := by
  have a4 := h4.cell 0 _ rfl
  have a2 := h2.cell 0 _ rfl
  have f3 := h.free 3
  have a3 := h.cell 3 _ rfl
  have a0 := h.cell 0 _ rfl
  have D := hide (Dead_any g C st w.drew hd.drew h0 h6)
  have hb : (er != 0) = true := by simpa using he
  clear h h4 h2 hd h0 h6 he
  go_enter_d Try.func55, Try.ntmps55
  go_region_with (go_at_call 19; refine D.out.mono ?_; rintro e w' ⟨rfl, rfl⟩)
  all_goals (go_end0; exact ⟨rfl, rfl⟩)
end Go.Proofs.Ytofalfaiamaapaa
