/- What stands between acts; what is safe stays; slots are apart. -/
import Derived.Test.YteamedilcpfkgaaP7
namespace Go.Proofs.Yteamedilcpfkgaa
open Go.RowKit
set_option linter.unusedVariables false
/-- 'Do', whole. -/
theorem Do_any {N g : Nat} {va vb : Value} {d f : Dk} (v : Value) (x : Ac) (pB : Option Addr) (nB cB : Nat) (pK : Option Addr) (nK cK : Nat) (w : World) (h : PD N g w va vb d) (hr : RD (Xs g va vb) w v f) (hf : f.ok) (hB : BSX (Xs g va vb) w pB nB x.b) (hC : CP pB nB cB) (hK : NSN N w pK nK x.ks) (hfew : x.b.length ≤ 200) (hn : x.n ≤ 9223372036854775807) :
    Calls Try.prog 9 #[.pointer (some ⟨g, 0, none⟩), v, .agg #[.int .i64 x.o, .int .i64 x.i, .slice pB nB cB, .int .i64 x.n, .slice pK nK cK]] w (LD N g va vb w (lawP d x) (lawR f x)) := by
  unfold lawP lawR
  by_cases h0 : x.o = 0
  · rw [if_pos h0, if_pos (.inl h0), h0]; exact Do0 v x pB nB cB pK nK cK w h hr hf hB hC hK hfew
  · rw [if_neg h0]
    by_cases h1 : x.o = 1
    · rw [if_pos h1, if_pos (.inr (.inl h1)), h1]; exact Do1 v x pB nB cB pK nK cK w h hr hf hB hC hK
    · rw [if_neg h1]
      by_cases h2 : x.o = 2
      · rw [if_pos h2, if_pos (.inr (.inr h2)), h2]; exact Do2 v x pB nB cB pK nK cK w h hr hf hB hC hK
      · rw [if_neg h2, if_neg (show ¬ (x.o = 0 ∨ x.o = 1 ∨ x.o = 2) by omega)]
        by_cases h3 : x.o = 3
        · rw [if_pos h3, if_pos h3, h3]
          by_cases hz : x.n < 0
          · rw [if_pos hz]; exact Do3n v x pB nB cB pK nK cK w h hr hf hB hC hK hn hz
          · rw [if_neg hz]; exact Do3p v x pB nB cB pK nK cK w h hr hf hB hC hK hn hz
        · rw [if_neg h3, if_neg h3]
          by_cases h4 : x.o = 4
          · rw [if_pos h4, if_pos h4, h4]; exact Do4 v x pB nB cB pK nK cK w h hr hf hB hC hK
          · rw [if_neg h4, if_neg h4]; exact DoE v x pB nB cB pK nK cK w h hr hf hB hC hK h0 h1 h2 h3 h4
theorem lawR_ok {f : Dk} (h : f.ok) (x : Ac) (hb : By x.b) (hn : x.n ≤ 9223372036854775807) : (lawR f x).ok := by
  unfold lawR
  split
  · exact Dk.act_ok h _ _ hb
  · split
    · obtain ⟨h1, h2, h3, h4, h5, h6⟩ := h
      refine ⟨h1, h2, h3, h4, ?_, ?_⟩
      · simp only []; split <;> omega
      · simp only []; split <;> omega
    · split
      · exact Dk.crash_ok h _
      · exact h
theorem lawR_room (f : Dk) (x : Ac) : (lawR f x).room = f.room := by
  unfold lawR
  split
  · exact Dk.act_room _ _ _ _
  · split
    · rfl
    · split <;> rfl
/-- What stands between acts: both disks, the one that is played and the document's in a variable, and bytes that were read. -/
def LS (w0 : World) (g B : Nat) (pr : Option Addr) (nr : Nat) (lr : List Int) (d f : Dk) (wr : World) : Prop := ∃ va vb C, PD w0.heap.size g wr va vb d ∧ RD (Xs g va vb) wr (.agg C) f ∧ BX wr B C 33 ∧ ¬ Xs g va vb B ∧ w0.heap.size ≤ B ∧ Below w0.heap.size w0 wr ∧ f.ok ∧ BSX (Xs g va vb) wr pr nr lr
theorem BS.inX {w0 wr : World} {X : Nat → Prop} {p : Option Addr} {n : Nat} {l : List Int} (h : BS w0 p n l) (hb : Below w0.heap.size w0 wr) (hge : ∀ b, X b → w0.heap.size ≤ b) : BSX X wr p n l := by
  refine ⟨h.below hb, ?_⟩
  obtain ⟨h1, h2, h3, h4⟩ := h
  rcases h4 with h4 | ⟨b, off, rfl, hc⟩
  · exact .inl h4
  · rcases Nat.eq_zero_or_pos n with h0 | hp
    · exact .inl h0
    · refine .inr fun a ha hx => ?_
      cases ha
      have q1 := World.block_lt_of_cell? w0 _ (hc 0 hp)
      have q2 := hge _ hx
      simp only [] at q1 q2
      omega
theorem NS.inN {w0 wr : World} {p : Option Addr} {n : Nat} {l : List Int} (h : NS w0 p n l) (hb : Below w0.heap.size w0 wr) : NSN w0.heap.size wr p n l := by
  have h' := h.below hb
  obtain ⟨h1, h2, h4⟩ := h
  rcases h4 with h4 | ⟨b, off, rfl, hc⟩
  · exact ⟨h1, h2, .inl h4⟩
  · rcases Nat.eq_zero_or_pos n with h0 | hp
    · exact ⟨h1, h2, .inl h0⟩
    · have q1 := World.block_lt_of_cell? w0 _ (hc 0 hp)
      refine ⟨h1, h2, .inr ⟨b, off, rfl, q1, fun i z hz => ?_⟩⟩
      obtain ⟨hi, rfl⟩ := List.getElem?_eq_some_iff.1 hz
      have q := bcell hb (hc i (by omega))
      rw [q, List.getD_eq_getElem?_getD, List.getElem?_eq_getElem hi]
      rfl
/-- One act of those that came in, as it lies. -/
theorem AS.one {w0 : World} {b off n : Nat} {l : List Ac} (h : AS w0 (some ⟨b, off, none⟩) n l) (k : Nat) (hk : k < n) : ∃ x pB nB cB pK nK cK, l[k]? = some x ∧ BS w0 pB nB x.b ∧ CP pB nB cB ∧ NS w0 pK nK x.ks ∧ CP pK nK cK ∧ x.n ≤ 9223372036854775807 ∧
    w0.cell? ⟨b, off + k * 5, none⟩ = some (.int .i64 x.o) ∧ w0.cell? ⟨b, off + k * 5 + 1, none⟩ = some (.int .i64 x.i) ∧ w0.cell? ⟨b, off + k * 5 + 2, none⟩ = some (.slice pB nB cB) ∧ w0.cell? ⟨b, off + k * 5 + 3, none⟩ = some (.int .i64 x.n) ∧ w0.cell? ⟨b, off + k * 5 + 4, none⟩ = some (.slice pK nK cK) := by
  obtain ⟨x, r, hx, hrl, ⟨pB, nB, cB, pK, nK, cK, rfl, h1, h2, h3, h4, _, h5⟩, hc⟩ := h.at k hk
  exact ⟨x, pB, nB, cB, pK, nK, cK, hx, h1, h2, h3, h4, h5, hc 0 _ rfl, hc 1 _ rfl, hc 2 _ rfl, hc 3 _ rfl, hc 4 _ rfl⟩
/-- The first k acts, done. -/
def runP (d : Dk) (l : List Ac) : Dk := l.foldl lawP d
def runR (f : Dk) (l : List Ac) : Dk := l.foldl lawR f
theorem runP_snoc (d : Dk) (l : List Ac) (x : Ac) : runP d (l ++ [x]) = lawP (runP d l) x := by simp [runP]
theorem runR_snoc (d : Dk) (l : List Ac) (x : Ac) : runR d (l ++ [x]) = lawR (runR d l) x := by simp [runR]
/-- These bytes are safe in a slot. -/
def Safe (b : List Int) (x : Sl) : Prop := b <+: x.l.take x.s
theorem Safe.pre {b : List Int} {x : Sl} (h : Safe b x) : b <+: x.l := h.trans (List.take_prefix _ _)
theorem Dk.get_set (d : Dk) (i j : Int) (hi : i = 0 ∨ i = 1) (hj : j = 0 ∨ j = 1) (s : Sl) : (d.set j s).get i = if i = j then s else d.get i := by
  rcases hi with rfl | rfl <;> rcases hj with rfl | rfl <;> simp [Dk.set, Dk.get]
theorem Safe.act {b : List Int} {x : Sl} (h : Safe b x) (hx : x.ok) (o : Int) (m : List Int) (ho : o ≠ 1) : Safe b (x.act o m) := by
  unfold Sl.act
  split
  · unfold Safe at *
    simp only []
    rw [List.take_append_of_le_length hx.2]
    exact h
  · split
    · unfold Safe
      simp only []
      rw [List.take_length]
      exact h.pre
    · exact h
theorem Safe.pact {b : List Int} {d : Dk} (i : Int) (hi : i = 0 ∨ i = 1) (h : Safe b (d.get i)) (hd : d.ok) (o j : Int) (m : List Int) (ho : ¬ (o = 1 ∧ j = i)) : Safe b ((d.pact o j m).1.get i) := by
  unfold Dk.pact
  split
  · exact h
  · split
    · exact h
    · rename_i hj
      have hj' : j = 0 ∨ j = 1 := by omega
      split
      · exact h
      · simp only []
        rw [Dk.tick_get, Dk.get_set d i j hi hj']
        split
        · rename_i hij
          subst hij
          exact h.act (Dk.get_ok hd i) o m (fun e => ho ⟨e, rfl⟩)
        · exact h
theorem Safe.crash {b : List Int} {x : Sl} (h : Safe b x) (hx : x.ok) (k : Option Int) : Safe b (x.crash k) := by
  have hs := Sl.stay_le hx k
  unfold Safe at *
  simp only [Sl.crash]
  rw [List.take_take, Nat.min_self]
  refine h.trans ?_
  have : x.l.take x.s = (x.l.take (x.stay k)).take x.s := by rw [List.take_take, Nat.min_eq_left hs.1]
  rw [this]
  exact List.take_prefix _ _
theorem Dk.crash_get (d : Dk) (ks : List Int) (i : Int) (hi : i = 0 ∨ i = 1) : (d.crash ks).get i = (d.get i).crash ks[i.toNat]? := by
  rcases hi with rfl | rfl <;> rfl
theorem Safe.law {b : List Int} {d : Dk} (i : Int) (hi : i = 0 ∨ i = 1) (h : Safe b (d.get i)) (hd : d.ok) (x : Ac) (hx : ¬ (x.o = 1 ∧ x.i = i)) : Safe b ((lawP d x).get i) := by
  unfold lawP
  split
  · exact h.pact i hi hd 0 x.i x.b (by omega)
  · split
    · rename_i h1
      exact h.pact i hi hd 1 x.i [] (fun q => hx ⟨h1, q.2⟩)
    · split
      · exact h.pact i hi hd 2 x.i [] (by omega)
      · split
        · unfold Dk.halt
          split
          · exact h
          · exact h
        · split
          · rw [Dk.crash_get _ _ _ hi]
            exact h.crash (Dk.get_ok hd i) _
          · exact h
/-- Where nothing stops, both disks do the same. -/
theorem law_same {d : Dk} (i : Int) (hi : i = 0 ∨ i = 1) (hs : d.stop = -1) (hdd : d.dead = false) (x : Ac) (ho : x.o < 3) (hx : x.i = i) : lawP d x = lawR d x ∧ (lawR d x).stop = -1 ∧ (lawR d x).dead = false ∧ (lawR d x).get (1 - i) = d.get (1 - i) := by
  have ht : ∀ e : Dk, e.stop = -1 → e.tick = e := fun e he => Dk.tick_neg (by omega)
  have key : ∀ o m n, (m = n ∨ o ≠ 0) → (d.pact o i m).1 = (d.act o i n).1 ∧ (d.act o i n).1.stop = -1 ∧ (d.act o i n).1.dead = false ∧ (d.act o i n).1.get (1 - i) = d.get (1 - i) := by
    intro o m n hmn
    unfold Dk.pact Dk.act
    rw [if_neg (show ¬ d.stop = 0 by omega), if_neg (show ¬ (i ≠ 0 ∧ i ≠ 1) by omega), if_neg (show ¬ d.dead = true by rw [hdd]; simp)]
    have hc : (o = 0 ∧ (m.length : Int) > d.left) ↔ (o = 0 ∧ (n.length : Int) > d.left) := by
      rcases hmn with rfl | h0
      · exact Iff.rfl
      · exact ⟨fun q => absurd q.1 h0, fun q => absurd q.1 h0⟩
    by_cases hl : o = 0 ∧ (n.length : Int) > d.left
    · rw [if_pos (hc.2 hl), if_neg (show ¬ (i ≠ 0 ∧ i ≠ 1) by omega), if_pos hl]
      exact ⟨rfl, hs, hdd, rfl⟩
    · rw [if_neg (fun q => hl (hc.1 q)), if_neg (show ¬ (i ≠ 0 ∧ i ≠ 1) by omega), if_neg hl, if_neg (show ¬ d.stop = 0 by omega)]
      simp only []
      rw [ht d hs, ht _ (by rw [Dk.set_stop]; exact hs)]
      have ha : (d.get i).act o m = (d.get i).act o n := by
        rcases hmn with rfl | h0
        · rfl
        · unfold Sl.act; rw [if_neg h0, if_neg h0]
      refine ⟨by rw [ha], by rw [Dk.set_stop]; exact hs, by unfold Dk.set; split <;> exact hdd, ?_⟩
      rw [Dk.get_set d (1 - i) i (by omega) hi, if_neg (by omega)]
  unfold lawP lawR
  by_cases h0 : x.o = 0
  · rw [if_pos h0, if_pos (.inl h0), h0, hx]; exact key 0 x.b x.b (.inl rfl)
  · rw [if_neg h0]
    by_cases h1 : x.o = 1
    · rw [if_pos h1, if_pos (.inr (.inl h1)), h1, hx]; exact key 1 [] x.b (.inr (by decide))
    · rw [if_neg h1]
      by_cases h2 : x.o = 2
      · rw [if_pos h2, if_pos (.inr (.inr h2)), h2, hx]; exact key 2 [] x.b (.inr (by decide))
      · rw [if_neg h2, if_neg (show ¬ (x.o = 0 ∨ x.o = 1 ∨ x.o = 2) by omega), if_neg (show ¬ x.o = 3 by omega), if_neg (show ¬ x.o = 4 by omega), if_neg (show ¬ x.o = 3 by omega)]
        exact ⟨rfl, hs, hdd, rfl⟩
end Go.Proofs.Yteamedilcpfkgaa
