/- The program's disk: its acts. -/
import Derived.Test.YtofalfaiamaapaaP3
import Derived.Test.YtofalfaiamaapaaK2
namespace Go.Proofs.Ytofalfaiamaapaa
open Go.RowKit
set_option linter.unusedVariables false
/-- What an act of the program's disk makes of it, and tells. -/
def Dk.pact (d : Dk) (o i : Int) (m : List Int) : Dk × Int :=
  if d.stop = 0 then (d, 9) else if i ≠ 0 ∧ i ≠ 1 then (d, 1) else if o = 0 ∧ (m.length : Int) > d.left then (d, 6)
  else ((d.set i ((d.get i).act o m)).tick, 0)
theorem Dk.set_ok {d : Dk} (h : d.ok) (o i : Int) {m : List Int} (hm : By m) (hl : ¬ (o = 0 ∧ (m.length : Int) > d.left)) : (d.set i ((d.get i).act o m)).ok := by
  obtain ⟨h1, h2, h3, h4, h5, h6⟩ := h
  have q1 := Sl.act_ok h1 o hm
  have q2 := Sl.act_ok h2 o hm
  have hle : (if o = 0 then m.length else 0 : Nat) ≤ d.left := by
    split
    · rename_i ho
      have : ¬ (m.length : Int) > d.left := fun hh => hl ⟨ho, hh⟩
      omega
    · exact h3
  by_cases hi : i = 0
  · simp only [Dk.set, Dk.get, if_pos hi]
    refine ⟨q1.1, h2, ?_, h4, h5, h6⟩
    unfold Dk.left at *
    simp only [] at *
    omega
  · simp only [Dk.set, Dk.get, if_neg hi]
    refine ⟨h1, q2.1, ?_, h4, h5, h6⟩
    unfold Dk.left at *
    simp only [] at *
    omega
theorem Dk.tick_ok {d : Dk} (h : d.ok) : d.tick.ok := by
  obtain ⟨h1, h2, h3, h4, h5, h6⟩ := h
  unfold Dk.tick
  split
  · exact ⟨h1, h2, h3, h4, by simp only []; omega, by simp only []; omega⟩
  · exact ⟨h1, h2, h3, h4, h5, h6⟩
theorem Dk.set_stop (d : Dk) (i : Int) (x : Sl) : (d.set i x).stop = d.stop := by unfold Dk.set; split <;> rfl
theorem act_pd {N g : Nat} {va vb : Value} {d : Dk} (w : World) (h : PD N g w va vb d) (hs : d.stop ≠ 0) : Calls Try.prog 31 #[.pointer (some ⟨g, 0, none⟩)] w fun e w' => e = .returned (.tuple #[]) ∧ PD N g w' va vb d.tick ∧ Stp g va vb va vb w w' ∧ Below N w w' := by
  refine (act_any g _ d.stop w h.1 rfl h.ok.2.2.2.2.1 h.ok.2.2.2.2.2 hs).mono ?_
  rintro e w' ⟨rfl, ⟨h1, rfl⟩ | ⟨h1, rfl⟩⟩
  · rw [Dk.tick_neg (by omega)]
    exact ⟨rfl, h, Stp.refl _ _ _ _, Below.refl _ _⟩
  · have hk := Dk.tick_ok h.ok
    rw [Dk.tick_pos (by omega)] at hk ⊢
    refine ⟨rfl, ⟨h.1.set 6 _, h.2.1.setc (h.2.1.ne h.1) _ _, h.2.2.1.setc (h.2.2.1.ne h.1) _ _, h.2.2.2.1, h.2.2.2.2.1, hk⟩, Stp.set _ _ _ _ _ _ _ _ (fun _ h => .inl h), (Below.refl _ _).setCell h.2.2.2.2.1 _⟩
/-- What was appended to slot 0 is laid down. -/
theorem PD.app0 {N g : Nat} {w w2 : World} {va vb v2 : Value} {d : Dk} {m : List Int} (h : PD N g w va vb d) (ho : Own N w2 v2 (d.a.l ++ m)) (hgr : w.grownBy w2 va.ownBlock) (hblk : ∀ b, v2.ownBlock = some b → va.ownBlock = some b ∨ w.heap.size ≤ b) (hm : By m) (hl : ¬ (m.length : Int) > d.left) :
    BX w2 g (DC d va vb) 69 ∧ PD N g (w2.setCell ⟨g, 2, none⟩ v2) v2 vb (d.set 0 ((d.get 0).act 0 m)) ∧ Stp g va vb v2 vb w (w2.setCell ⟨g, 2, none⟩ v2) ∧ Below N w (w2.setCell ⟨g, 2, none⟩ v2) := by
  have hok := Dk.set_ok h.ok 0 0 hm (fun q => hl q.2)
  have b2 := h.1.grown hgr (h.2.1.ne h.1)
  have oo := h.2.2.1.grown hgr (fun b hb e => h.2.2.2.1 b e hb)
  have hN : N ≤ w.heap.size := Nat.le_trans h.2.2.2.2.1 (Nat.le_of_lt h.1.size)
  have hx : ∀ b, Xs g v2 vb b → Xs g va vb b ∨ w.heap.size ≤ b := by
    intro b hb
    rcases hb with q | q | q
    · exact .inl (.inl q)
    · exact (hblk b q).imp (fun q => .inr (.inl q)) id
    · exact .inl (.inr (.inr q))
  have s2 : Stp g va vb v2 vb w w2 := ⟨fun k hk hn => hgr.block k hk (fun e => hn (.inr (.inl e.symm))), hx, hgr.size⟩
  have hd : d.set 0 ((d.get 0).act 0 m) = { d with a := ⟨d.a.l ++ m, d.a.s⟩ } := by simp [Dk.set, Dk.get, Sl.act]
  refine ⟨b2, ?_, s2.trans (Stp.set _ _ _ _ _ _ _ _ (fun _ h => .inl h)), ((Below.refl N w).grown hgr hN (fun j hj => (h.2.1.lt j hj).1)).setCell h.2.2.2.2.1 _⟩
  rw [hd] at hok ⊢
  refine ⟨b2.set 2 v2, ho.setc (ho.ne b2) _ _, oo.setc (oo.ne b2) _ _, fun b hb hc => ?_, h.2.2.2.2.1, hok⟩
  rcases hblk b hb with q | q
  · exact h.2.2.2.1 b q hc
  · have := (h.2.2.1.lt b hc).2
    omega
set_option maxHeartbeats 1000000 in
theorem App0 {N g : Nat} {va vb : Value} {d : Dk} (p : Option Addr) (n c : Nat) (m : List Int) (w : World) (h : PD N g w va vb d) (hB : BS w p n m) (hC : CP p n c) (hs : d.stop ≠ 0) (hl : ¬ (n : Int) > d.left) :
    Calls Try.prog 9 #[.pointer (some ⟨g, 0, none⟩), .int .i64 0, .slice p n c] w fun e w' => ∃ va' vb', e = .returned (.int .i64 0) ∧ PD N g w' va' vb' (d.set 0 ((d.get 0).act 0 m)).tick ∧ Stp g va vb va' vb' w w' ∧ Below N w w' := by
  have R := hide (refuses_any g _ d.stop 0 w h.1 rfl rfl)
  have hr : refD d.stop 0 = 0 := by unfold refD; rw [if_neg hs, if_neg (by omega)]
  rw [hr] at R
  have hlen : d.a.l.length + m.length ≤ 10000000 := by
    have q1 := h.ok.lens
    have q2 := hB.1
    have q4 : d.room ≤ 1048576 := h.ok.2.2.2.1
    have q5 : d.left ≤ d.room := by unfold Dk.left; omega
    omega
  have hnm := hB.1
  have HL : Hid (¬ (m.length : Int) > d.left) := by unfold Hid; rw [hnm]; exact hl
  have hby : Hid (By m) := hB.2.2.1
  have HBA : Hid (By d.a.l) := h.ok.1.1
  have hN : Hid (N ≤ w.heap.size) := Nat.le_trans h.2.2.2.2.1 (Nat.le_of_lt h.1.size)
  have HP := hide h
  have HB := hide hB
  have HS : Hid ((d.set 0 ((d.get 0).act 0 m)).stop ≠ 0) := by unfold Hid; rw [Dk.set_stop]; exact hs
  clear h hB hr hs hnm
  go_enter Try.func9, Try.ntmps9
  go_wp2_with fail
  refine R.out.mono ?_
  rintro e w' ⟨rfl, rfl⟩
  go_wp2_with fail
  refine (Left_any _ HP.out).mono ?_
  rintro e w1 ⟨rfl, hb⟩
  have HB1 := hide hb
  have HP1 := hide (HP.out.below hb)
  have c2 := HP1.out.1.cell 2 _ rfl
  have HN1 : Hid (N ≤ w1.heap.size) := Nat.le_trans hN.out hb.size
  clear hb
  go_wp2_with (at_builtin; refine Stop.at ?_)
  unfold Stop
  refine append_bmore rfl _ _ rfl N _ d.a.l m rfl HP1.out.2.1 p n c rfl hC.2.2 (HB.out.below HB1.out) hlen HN1.out ?_
  intro v2 w2 ho hgr hblk
  obtain ⟨b2, p2, s2, l2⟩ := HP1.out.app0 ho hgr hblk hby.out (by have := HL.out; omega)
  have P2 := hide p2
  have S2 := hide s2
  have L2 := hide l2
  obtain ⟨q2, k2, rfl, _, _⟩ := ho.open (By.append HBA.out hby.out)
  generalize (d.a.l ++ m).length = nn at *
  have k2 := b2.cell 2 _ rfl
  have f2 := b2.free 2
  clear ho hgr hblk b2 p2 s2 l2 c2
  go_wp2_with fail
  refine (act_pd _ P2.out HS.out).mono ?_
  rintro e w4 ⟨rfl, p4, s4, l4⟩
  go_wp2
  go_ret
  exact ⟨_, _, rfl, p4, ((Stp.below HB1.out).trans S2.out).trans s4, ((HB1.out.mono hN.out).trans L2.out).trans l4⟩
/-- What was appended to slot 1 is laid down. -/
theorem PD.app1 {N g : Nat} {w w2 : World} {va vb v2 : Value} {d : Dk} {m : List Int} (h : PD N g w va vb d) (ho : Own N w2 v2 (d.b.l ++ m)) (hgr : w.grownBy w2 vb.ownBlock) (hblk : ∀ b, v2.ownBlock = some b → vb.ownBlock = some b ∨ w.heap.size ≤ b) (hm : By m) (hl : ¬ (m.length : Int) > d.left) :
    BX w2 g (DC d va vb) 69 ∧ PD N g (w2.setCell ⟨g, 4, none⟩ v2) va v2 (d.set 1 ((d.get 1).act 0 m)) ∧ Stp g va vb va v2 w (w2.setCell ⟨g, 4, none⟩ v2) ∧ Below N w (w2.setCell ⟨g, 4, none⟩ v2) := by
  have hok := Dk.set_ok h.ok 0 1 hm (fun q => hl q.2)
  have b2 := h.1.grown hgr (h.2.2.1.ne h.1)
  have oo := h.2.1.grown hgr (fun b hb => h.2.2.2.1 b hb)
  have hN : N ≤ w.heap.size := Nat.le_trans h.2.2.2.2.1 (Nat.le_of_lt h.1.size)
  have hx : ∀ b, Xs g va v2 b → Xs g va vb b ∨ w.heap.size ≤ b := by
    intro b hb
    rcases hb with q | q | q
    · exact .inl (.inl q)
    · exact .inl (.inr (.inl q))
    · exact (hblk b q).imp (fun q => .inr (.inr q)) id
  have s2 : Stp g va vb va v2 w w2 := ⟨fun k hk hn => hgr.block k hk (fun e => hn (.inr (.inr e.symm))), hx, hgr.size⟩
  have hd : d.set 1 ((d.get 1).act 0 m) = { d with b := ⟨d.b.l ++ m, d.b.s⟩ } := by simp [Dk.set, Dk.get, Sl.act]
  refine ⟨b2, ?_, s2.trans (Stp.set _ _ _ _ _ _ _ _ (fun _ h => .inl h)), ((Below.refl N w).grown hgr hN (fun j hj => (h.2.2.1.lt j hj).1)).setCell h.2.2.2.2.1 _⟩
  rw [hd] at hok ⊢
  refine ⟨b2.set 4 v2, oo.setc (oo.ne b2) _ _, ho.setc (ho.ne b2) _ _, fun b hb hc => ?_, h.2.2.2.2.1, hok⟩
  rcases hblk b hc with q | q
  · exact h.2.2.2.1 b hb q
  · have := (h.2.1.lt b hb).2
    omega
set_option maxHeartbeats 1000000 in
theorem App1 {N g : Nat} {va vb : Value} {d : Dk} (p : Option Addr) (n c : Nat) (m : List Int) (w : World) (h : PD N g w va vb d) (hB : BS w p n m) (hC : CP p n c) (hs : d.stop ≠ 0) (hl : ¬ (n : Int) > d.left) :
    Calls Try.prog 9 #[.pointer (some ⟨g, 0, none⟩), .int .i64 1, .slice p n c] w fun e w' => ∃ va' vb', e = .returned (.int .i64 0) ∧ PD N g w' va' vb' (d.set 1 ((d.get 1).act 0 m)).tick ∧ Stp g va vb va' vb' w w' ∧ Below N w w' := by
  have R := hide (refuses_any g _ d.stop 1 w h.1 rfl rfl)
  have hr : refD d.stop 1 = 0 := by unfold refD; rw [if_neg hs, if_neg (by omega)]
  rw [hr] at R
  have hlen : d.b.l.length + m.length ≤ 10000000 := by
    have q1 := h.ok.lens
    have q2 := hB.1
    have q4 : d.room ≤ 1048576 := h.ok.2.2.2.1
    have q5 : d.left ≤ d.room := by unfold Dk.left; omega
    omega
  have hnm := hB.1
  have HL : Hid (¬ (m.length : Int) > d.left) := by unfold Hid; rw [hnm]; exact hl
  have hby : Hid (By m) := hB.2.2.1
  have HBA : Hid (By d.b.l) := h.ok.2.1.1
  have hN : Hid (N ≤ w.heap.size) := Nat.le_trans h.2.2.2.2.1 (Nat.le_of_lt h.1.size)
  have HP := hide h
  have HB := hide hB
  have HS : Hid ((d.set 1 ((d.get 1).act 0 m)).stop ≠ 0) := by unfold Hid; rw [Dk.set_stop]; exact hs
  clear h hB hr hs hnm
  go_enter Try.func9, Try.ntmps9
  go_wp2_with fail
  refine R.out.mono ?_
  rintro e w' ⟨rfl, rfl⟩
  go_wp2_with fail
  refine (Left_any _ HP.out).mono ?_
  rintro e w1 ⟨rfl, hb⟩
  have HB1 := hide hb
  have HP1 := hide (HP.out.below hb)
  have c2 := HP1.out.1.cell 4 _ rfl
  have HN1 : Hid (N ≤ w1.heap.size) := Nat.le_trans hN.out hb.size
  clear hb
  go_wp2_with (at_builtin; refine Stop.at ?_)
  unfold Stop
  refine append_bmore rfl _ _ rfl N _ d.b.l m rfl HP1.out.2.2.1 p n c rfl hC.2.2 (HB.out.below HB1.out) hlen HN1.out ?_
  intro v2 w2 ho hgr hblk
  obtain ⟨b2, p2, s2, l2⟩ := HP1.out.app1 ho hgr hblk hby.out (by have := HL.out; omega)
  have P2 := hide p2
  have S2 := hide s2
  have L2 := hide l2
  obtain ⟨q2, k2, rfl, _, _⟩ := ho.open (By.append HBA.out hby.out)
  generalize (d.b.l ++ m).length = nn at *
  have k2 := b2.cell 4 _ rfl
  have f2 := b2.free 4
  clear ho hgr hblk b2 p2 s2 l2 c2
  go_wp2_with fail
  refine (act_pd _ P2.out HS.out).mono ?_
  rintro e w4 ⟨rfl, p4, s4, l4⟩
  go_wp2
  go_ret
  exact ⟨_, _, rfl, p4, ((Stp.below HB1.out).trans S2.out).trans s4, ((HB1.out.mono hN.out).trans L2.out).trans l4⟩
set_option maxHeartbeats 1000000 in
theorem App_full {N g : Nat} {va vb : Value} {d : Dk} (i : Int) (p : Option Addr) (n c : Nat) (w : World) (h : PD N g w va vb d) (hs : d.stop ≠ 0) (hi : i = 0 ∨ i = 1) (hl : (n : Int) > d.left) :
    Calls Try.prog 9 #[.pointer (some ⟨g, 0, none⟩), .int .i64 i, .slice p n c] w fun e w' => e = .returned (.int .i64 6) ∧ Below w.heap.size w w' := by
  have R := hide (refuses_any g _ d.stop i w h.1 rfl rfl)
  have hr : refD d.stop i = 0 := by unfold refD; rw [if_neg hs, if_neg (by omega)]
  rw [hr] at R
  have HP := hide h
  clear h hr hs hi
  go_enter Try.func9, Try.ntmps9
  go_wp2_with fail
  refine R.out.mono ?_
  rintro e w' ⟨rfl, rfl⟩
  go_wp2_with fail
  refine (Left_any _ HP.out).mono ?_
  rintro e w1 ⟨rfl, hb⟩
  go_wp2
  go_ret
  exact ⟨rfl, hb⟩
theorem App_ref (g : Nat) (C : Array Value) (s i k : Int) (p : Option Addr) (n c : Nat) (w : World) (h : BX w g C 69) (h0 : C[0]? = some (.bool true)) (h6 : C[6]? = some (.int .i64 s)) (hr : refD s i = k) (hk : k ≠ 0) :
    Calls Try.prog 9 #[.pointer (some ⟨g, 0, none⟩), .int .i64 i, .slice p n c] w fun e w' => e = .returned (.int .i64 k) ∧ w' = w := by
  have R := hide (refuses_any g C s i w h h0 h6)
  rw [hr] at R
  have hb : (k != 0) = true := by simpa using hk
  clear h h0 h6 hr
  go_enter Try.func9, Try.ntmps9
  go_wp2_with fail
  refine R.out.mono ?_
  rintro e w' ⟨rfl, rfl⟩
  go_wp2
  go_ret
  exact ⟨rfl, rfl⟩
theorem Cle_ref (g : Nat) (C : Array Value) (s i k : Int) (w : World) (h : BX w g C 69) (h0 : C[0]? = some (.bool true)) (h6 : C[6]? = some (.int .i64 s)) (hr : refD s i = k) (hk : k ≠ 0) :
    Calls Try.prog 56 #[.pointer (some ⟨g, 0, none⟩), .int .i64 i] w fun e w' => e = .returned (.int .i64 k) ∧ w' = w := by
  have R := hide (refuses_any g C s i w h h0 h6)
  rw [hr] at R
  have hb : (k != 0) = true := by simpa using hk
  clear h h0 h6 hr
  go_enter Try.func56, Try.ntmps56
  go_wp2_with fail
  refine R.out.mono ?_
  rintro e w' ⟨rfl, rfl⟩
  go_wp2
  go_ret
  exact ⟨rfl, rfl⟩
theorem Syn_ref (g : Nat) (C : Array Value) (s i k : Int) (w : World) (h : BX w g C 69) (h0 : C[0]? = some (.bool true)) (h6 : C[6]? = some (.int .i64 s)) (hr : refD s i = k) (hk : k ≠ 0) :
    Calls Try.prog 45 #[.pointer (some ⟨g, 0, none⟩), .int .i64 i] w fun e w' => e = .returned (.int .i64 k) ∧ w' = w := by
  have R := hide (refuses_any g C s i w h h0 h6)
  rw [hr] at R
  have hb : (k != 0) = true := by simpa using hk
  clear h h0 h6 hr
  go_enter Try.func45, Try.ntmps45
  go_wp2_with fail
  refine R.out.mono ?_
  rintro e w' ⟨rfl, rfl⟩
  go_wp2
  go_ret
  exact ⟨rfl, rfl⟩
set_option maxHeartbeats 1000000 in
theorem Cle0 {N g : Nat} {va vb : Value} {d : Dk} (w : World) (h : PD N g w va vb d) (hs : d.stop ≠ 0) :
    Calls Try.prog 56 #[.pointer (some ⟨g, 0, none⟩), .int .i64 0] w fun e w' => ∃ va' vb', e = .returned (.int .i64 0) ∧ PD N g w' va' vb' (d.set 0 ((d.get 0).act 1 [])).tick ∧ Stp g va vb va' vb' w w' ∧ Below N w w' := by
  have R := hide (refuses_any g _ d.stop 0 w h.1 rfl rfl)
  have hr : refD d.stop 0 = 0 := by unfold refD; rw [if_neg hs, if_neg (by omega)]
  rw [hr] at R
  have hok := Dk.set_ok h.ok 1 0 By.nil (by omega)
  have hd : d.set 0 ((d.get 0).act 1 []) = { d with a := ⟨[], 0⟩ } := by simp [Dk.set, Sl.act]
  have HS : Hid ((d.set 0 ((d.get 0).act 1 [])).stop ≠ 0) := by unfold Hid; rw [Dk.set_stop]; exact hs
  have HP : Hid (PD N g ((w.setCell ⟨g, 2, none⟩ (.slice none 0 0)).setCell ⟨g, 3, none⟩ (.int .i64 0)) (.slice none 0 0) vb (d.set 0 ((d.get 0).act 1 []))) := by
    rw [hd] at hok ⊢
    exact ⟨(h.1.set 2 _).set 3 _, Own.none _ _, (h.2.2.1.setc (h.2.2.1.ne h.1) _ _).setc (h.2.2.1.ne h.1) _ _, (fun b hb => by cases hb), h.2.2.2.2.1, hok⟩
  have HT : Hid (Stp g va vb (.slice none 0 0) vb w ((w.setCell ⟨g, 2, none⟩ (.slice none 0 0)).setCell ⟨g, 3, none⟩ (.int .i64 0))) := by
    refine (Stp.set g va vb va vb _ _ _ (fun _ h => .inl h)).trans (Stp.set _ _ _ _ _ _ _ _ ?_)
    rintro b (q | q | q)
    · exact .inl (.inl q)
    · cases q
    · exact .inl (.inr (.inr q))
  have HBL : Hid (Below N w ((w.setCell ⟨g, 2, none⟩ (.slice none 0 0)).setCell ⟨g, 3, none⟩ (.int .i64 0))) := ((Below.refl _ _).setCell h.2.2.2.2.1 _).setCell h.2.2.2.2.1 _
  have c0 := h.1.cell 2 _ rfl
  have c1 := (h.1.set 2 (.slice none 0 0)).cell 3 _ rfl
  have d1 := h.1.cell 3 _ rfl
  have f0 := h.1.free 2
  have f1 := (h.1.set 2 (.slice none 0 0)).free 3
  have e1 := h.1.free 3
  obtain ⟨pa, ca, pb, cb, rfl, rfl, _⟩ := h.vals
  clear h hr hs hok hd
  go_enter Try.func56, Try.ntmps56
  go_wp2_with fail
  refine R.out.mono ?_
  rintro e w' ⟨rfl, rfl⟩
  go_wp2_with fail
  refine (act_pd _ HP.out HS.out).mono ?_
  rintro e w4 ⟨rfl, p4, s4, l4⟩
  go_wp2
  go_ret
  exact ⟨_, _, rfl, p4, HT.out.trans s4, HBL.out.trans l4⟩
set_option maxHeartbeats 1000000 in
theorem Syn0 {N g : Nat} {va vb : Value} {d : Dk} (w : World) (h : PD N g w va vb d) (hs : d.stop ≠ 0) :
    Calls Try.prog 45 #[.pointer (some ⟨g, 0, none⟩), .int .i64 0] w fun e w' => ∃ va' vb', e = .returned (.int .i64 0) ∧ PD N g w' va' vb' (d.set 0 ((d.get 0).act 2 [])).tick ∧ Stp g va vb va' vb' w w' ∧ Below N w w' := by
  have R := hide (refuses_any g _ d.stop 0 w h.1 rfl rfl)
  have hr : refD d.stop 0 = 0 := by unfold refD; rw [if_neg hs, if_neg (by omega)]
  rw [hr] at R
  have hok := Dk.set_ok h.ok 2 0 By.nil (by omega)
  have hd : d.set 0 ((d.get 0).act 2 []) = { d with a := ⟨d.a.l, d.a.l.length⟩ } := by simp [Dk.set, Dk.get, Sl.act]
  have HS : Hid ((d.set 0 ((d.get 0).act 2 [])).stop ≠ 0) := by unfold Hid; rw [Dk.set_stop]; exact hs
  have HP : Hid (PD N g (w.setCell ⟨g, 3, none⟩ (.int .i64 (d.a.l.length : Int))) va vb (d.set 0 ((d.get 0).act 2 []))) := by
    rw [hd] at hok ⊢
    exact ⟨h.1.set 3 _, h.2.1.setc (h.2.1.ne h.1) _ _, h.2.2.1.setc (h.2.2.1.ne h.1) _ _, h.2.2.2.1, h.2.2.2.2.1, hok⟩
  have HT : Hid (Stp g va vb va vb w (w.setCell ⟨g, 3, none⟩ (.int .i64 (d.a.l.length : Int)))) := Stp.set g va vb va vb _ _ _ (fun _ h => .inl h)
  have HBL : Hid (Below N w (w.setCell ⟨g, 3, none⟩ (.int .i64 (d.a.l.length : Int)))) := (Below.refl _ _).setCell h.2.2.2.2.1 _
  have c0 := h.1.cell 2 _ rfl
  have c1 := h.1.cell 3 _ rfl
  have f1 := h.1.free 3
  obtain ⟨pa, ca, pb, cb, rfl, rfl, _⟩ := h.vals
  clear h hr hs hok hd
  go_enter Try.func45, Try.ntmps45
  go_wp2_with fail
  refine R.out.mono ?_
  rintro e w' ⟨rfl, rfl⟩
  go_wp2_with fail
  refine (act_pd _ HP.out HS.out).mono ?_
  rintro e w4 ⟨rfl, p4, s4, l4⟩
  go_wp2
  go_ret
  exact ⟨_, _, rfl, p4, HT.out.trans s4, HBL.out.trans l4⟩
set_option maxHeartbeats 1000000 in
theorem Cle1 {N g : Nat} {va vb : Value} {d : Dk} (w : World) (h : PD N g w va vb d) (hs : d.stop ≠ 0) :
    Calls Try.prog 56 #[.pointer (some ⟨g, 0, none⟩), .int .i64 1] w fun e w' => ∃ va' vb', e = .returned (.int .i64 0) ∧ PD N g w' va' vb' (d.set 1 ((d.get 1).act 1 [])).tick ∧ Stp g va vb va' vb' w w' ∧ Below N w w' := by
  have R := hide (refuses_any g _ d.stop 1 w h.1 rfl rfl)
  have hr : refD d.stop 1 = 0 := by unfold refD; rw [if_neg hs, if_neg (by omega)]
  rw [hr] at R
  have hok := Dk.set_ok h.ok 1 1 By.nil (by omega)
  have hd : d.set 1 ((d.get 1).act 1 []) = { d with b := ⟨[], 0⟩ } := by simp [Dk.set, Sl.act]
  have HS : Hid ((d.set 1 ((d.get 1).act 1 [])).stop ≠ 0) := by unfold Hid; rw [Dk.set_stop]; exact hs
  have HP : Hid (PD N g ((w.setCell ⟨g, 4, none⟩ (.slice none 0 0)).setCell ⟨g, 5, none⟩ (.int .i64 0)) va (.slice none 0 0) (d.set 1 ((d.get 1).act 1 []))) := by
    rw [hd] at hok ⊢
    exact ⟨(h.1.set 4 _).set 5 _, (h.2.1.setc (h.2.1.ne h.1) _ _).setc (h.2.1.ne h.1) _ _, Own.none _ _, (fun b hb e => by cases e), h.2.2.2.2.1, hok⟩
  have HT : Hid (Stp g va vb va (.slice none 0 0) w ((w.setCell ⟨g, 4, none⟩ (.slice none 0 0)).setCell ⟨g, 5, none⟩ (.int .i64 0))) := by
    refine (Stp.set g va vb va vb _ _ _ (fun _ h => .inl h)).trans (Stp.set _ _ _ _ _ _ _ _ ?_)
    rintro b (q | q | q)
    · exact .inl (.inl q)
    · exact .inl (.inr (.inl q))
    · cases q
  have HBL : Hid (Below N w ((w.setCell ⟨g, 4, none⟩ (.slice none 0 0)).setCell ⟨g, 5, none⟩ (.int .i64 0))) := ((Below.refl _ _).setCell h.2.2.2.2.1 _).setCell h.2.2.2.2.1 _
  have c0 := h.1.cell 4 _ rfl
  have c1 := (h.1.set 4 (.slice none 0 0)).cell 5 _ rfl
  have d1 := h.1.cell 5 _ rfl
  have f0 := h.1.free 4
  have f1 := (h.1.set 4 (.slice none 0 0)).free 5
  have e1 := h.1.free 5
  obtain ⟨pa, ca, pb, cb, rfl, rfl, _⟩ := h.vals
  clear h hr hs hok hd
  go_enter Try.func56, Try.ntmps56
  go_wp2_with fail
  refine R.out.mono ?_
  rintro e w' ⟨rfl, rfl⟩
  go_wp2_with fail
  refine (act_pd _ HP.out HS.out).mono ?_
  rintro e w4 ⟨rfl, p4, s4, l4⟩
  go_wp2
  go_ret
  exact ⟨_, _, rfl, p4, HT.out.trans s4, HBL.out.trans l4⟩
set_option maxHeartbeats 1000000 in
theorem Syn1 {N g : Nat} {va vb : Value} {d : Dk} (w : World) (h : PD N g w va vb d) (hs : d.stop ≠ 0) :
    Calls Try.prog 45 #[.pointer (some ⟨g, 0, none⟩), .int .i64 1] w fun e w' => ∃ va' vb', e = .returned (.int .i64 0) ∧ PD N g w' va' vb' (d.set 1 ((d.get 1).act 2 [])).tick ∧ Stp g va vb va' vb' w w' ∧ Below N w w' := by
  have R := hide (refuses_any g _ d.stop 1 w h.1 rfl rfl)
  have hr : refD d.stop 1 = 0 := by unfold refD; rw [if_neg hs, if_neg (by omega)]
  rw [hr] at R
  have hok := Dk.set_ok h.ok 2 1 By.nil (by omega)
  have hd : d.set 1 ((d.get 1).act 2 []) = { d with b := ⟨d.b.l, d.b.l.length⟩ } := by simp [Dk.set, Dk.get, Sl.act]
  have HS : Hid ((d.set 1 ((d.get 1).act 2 [])).stop ≠ 0) := by unfold Hid; rw [Dk.set_stop]; exact hs
  have HP : Hid (PD N g (w.setCell ⟨g, 5, none⟩ (.int .i64 (d.b.l.length : Int))) va vb (d.set 1 ((d.get 1).act 2 []))) := by
    rw [hd] at hok ⊢
    exact ⟨h.1.set 5 _, h.2.1.setc (h.2.1.ne h.1) _ _, h.2.2.1.setc (h.2.2.1.ne h.1) _ _, h.2.2.2.1, h.2.2.2.2.1, hok⟩
  have HT : Hid (Stp g va vb va vb w (w.setCell ⟨g, 5, none⟩ (.int .i64 (d.b.l.length : Int)))) := Stp.set g va vb va vb _ _ _ (fun _ h => .inl h)
  have HBL : Hid (Below N w (w.setCell ⟨g, 5, none⟩ (.int .i64 (d.b.l.length : Int)))) := (Below.refl _ _).setCell h.2.2.2.2.1 _
  have c0 := h.1.cell 4 _ rfl
  have c1 := h.1.cell 5 _ rfl
  have f1 := h.1.free 5
  obtain ⟨pa, ca, pb, cb, rfl, rfl, _⟩ := h.vals
  clear h hr hs hok hd
  go_enter Try.func45, Try.ntmps45
  go_wp2_with fail
  refine R.out.mono ?_
  rintro e w' ⟨rfl, rfl⟩
  go_wp2_with fail
  refine (act_pd _ HP.out HS.out).mono ?_
  rintro e w4 ⟨rfl, p4, s4, l4⟩
  go_wp2
  go_ret
  exact ⟨_, _, rfl, p4, HT.out.trans s4, HBL.out.trans l4⟩
theorem Append_any {N g : Nat} {va vb : Value} {d : Dk} (i : Int) (p : Option Addr) (n c : Nat) (m : List Int) (w : World) (h : PD N g w va vb d) (hB : BS w p n m) (hC : CP p n c) :
    Calls Try.prog 9 #[.pointer (some ⟨g, 0, none⟩), .int .i64 i, .slice p n c] w fun e w' => ∃ va' vb', e = .returned (.int .i64 (d.pact 0 i m).2) ∧ PD N g w' va' vb' (d.pact 0 i m).1 ∧ Stp g va vb va' vb' w w' ∧ Below N w w' := by
  have hN : N ≤ w.heap.size := Nat.le_trans h.2.2.2.2.1 (Nat.le_of_lt h.1.size)
  unfold Dk.pact
  by_cases hs : d.stop = 0
  · rw [if_pos hs]
    refine (App_ref g _ d.stop i 9 p n c w h.1 rfl rfl (by unfold refD; rw [if_pos hs]) (by decide)).mono ?_
    rintro e w' ⟨rfl, rfl⟩
    exact ⟨_, _, rfl, h, Stp.refl _ _ _ _, Below.refl _ _⟩
  · rw [if_neg hs]
    by_cases hi : i ≠ 0 ∧ i ≠ 1
    · rw [if_pos hi]
      refine (App_ref g _ d.stop i 1 p n c w h.1 rfl rfl (by unfold refD; rw [if_neg hs, if_pos hi]) (by decide)).mono ?_
      rintro e w' ⟨rfl, rfl⟩
      exact ⟨_, _, rfl, h, Stp.refl _ _ _ _, Below.refl _ _⟩
    · rw [if_neg hi]
      have hi' : i = 0 ∨ i = 1 := by omega
      by_cases hl : (n : Int) > d.left
      · rw [if_pos ⟨rfl, by rw [hB.1]; exact hl⟩]
        refine (App_full i p n c w h hs hi' hl).mono ?_
        rintro e w' ⟨rfl, hb⟩
        exact ⟨_, _, rfl, h.below hb, Stp.below hb, hb.mono hN⟩
      · rw [if_neg (fun q => hl (by have := q.2; rw [hB.1] at this; exact this))]
        rcases hi' with rfl | rfl
        · exact App0 p n c m w h hB hC hs hl
        · exact App1 p n c m w h hB hC hs hl
theorem Clear_any {N g : Nat} {va vb : Value} {d : Dk} (i : Int) (w : World) (h : PD N g w va vb d) :
    Calls Try.prog 56 #[.pointer (some ⟨g, 0, none⟩), .int .i64 i] w fun e w' => ∃ va' vb', e = .returned (.int .i64 (d.pact 1 i []).2) ∧ PD N g w' va' vb' (d.pact 1 i []).1 ∧ Stp g va vb va' vb' w w' ∧ Below N w w' := by
  have hN : N ≤ w.heap.size := Nat.le_trans h.2.2.2.2.1 (Nat.le_of_lt h.1.size)
  unfold Dk.pact
  by_cases hs : d.stop = 0
  · rw [if_pos hs]
    refine (Cle_ref g _ d.stop i 9 w h.1 rfl rfl (by unfold refD; rw [if_pos hs]) (by decide)).mono ?_
    rintro e w' ⟨rfl, rfl⟩
    exact ⟨_, _, rfl, h, Stp.refl _ _ _ _, Below.refl _ _⟩
  · rw [if_neg hs]
    by_cases hi : i ≠ 0 ∧ i ≠ 1
    · rw [if_pos hi]
      refine (Cle_ref g _ d.stop i 1 w h.1 rfl rfl (by unfold refD; rw [if_neg hs, if_pos hi]) (by decide)).mono ?_
      rintro e w' ⟨rfl, rfl⟩
      exact ⟨_, _, rfl, h, Stp.refl _ _ _ _, Below.refl _ _⟩
    · rw [if_neg hi]
      have hi' : i = 0 ∨ i = 1 := by omega
      rw [if_neg (by intro q; exact absurd q.1 (by decide))]
      rcases hi' with rfl | rfl
      · exact Cle0 w h hs
      · exact Cle1 w h hs
theorem Sync_any {N g : Nat} {va vb : Value} {d : Dk} (i : Int) (w : World) (h : PD N g w va vb d) :
    Calls Try.prog 45 #[.pointer (some ⟨g, 0, none⟩), .int .i64 i] w fun e w' => ∃ va' vb', e = .returned (.int .i64 (d.pact 2 i []).2) ∧ PD N g w' va' vb' (d.pact 2 i []).1 ∧ Stp g va vb va' vb' w w' ∧ Below N w w' := by
  have hN : N ≤ w.heap.size := Nat.le_trans h.2.2.2.2.1 (Nat.le_of_lt h.1.size)
  unfold Dk.pact
  by_cases hs : d.stop = 0
  · rw [if_pos hs]
    refine (Syn_ref g _ d.stop i 9 w h.1 rfl rfl (by unfold refD; rw [if_pos hs]) (by decide)).mono ?_
    rintro e w' ⟨rfl, rfl⟩
    exact ⟨_, _, rfl, h, Stp.refl _ _ _ _, Below.refl _ _⟩
  · rw [if_neg hs]
    by_cases hi : i ≠ 0 ∧ i ≠ 1
    · rw [if_pos hi]
      refine (Syn_ref g _ d.stop i 1 w h.1 rfl rfl (by unfold refD; rw [if_neg hs, if_pos hi]) (by decide)).mono ?_
      rintro e w' ⟨rfl, rfl⟩
      exact ⟨_, _, rfl, h, Stp.refl _ _ _ _, Below.refl _ _⟩
    · rw [if_neg hi]
      have hi' : i = 0 ∨ i = 1 := by omega
      rw [if_neg (by intro q; exact absurd q.1 (by decide))]
      rcases hi' with rfl | rfl
      · exact Syn0 w h hs
      · exact Syn1 w h hs
/-- What Stop makes of a disk. -/
def Dk.halt (d : Dk) (n : Int) : Dk := if d.stop = 0 then d else { d with stop := if n < 0 then -1 else n }
set_option maxHeartbeats 1000000 in
theorem Stop_any {N g : Nat} {va vb : Value} {d : Dk} (n : Int) (w : World) (h : PD N g w va vb d) (hn : n ≤ 9223372036854775807) :
    Calls Try.prog 16 #[.pointer (some ⟨g, 0, none⟩), .int .i64 n] w fun e w' => e = .returned (.tuple #[]) ∧ PD N g w' va vb (d.halt n) ∧ Stp g va vb va vb w w' ∧ Below N w w' := by
  have R := hide (Dead_any g _ d.stop w h.1 rfl rfl)
  unfold Dk.halt
  by_cases hs : d.stop = 0
  · rw [if_pos hs]
    have hb : (d.stop == 0) = true := by simpa using hs
    rw [hb] at R
    have HP := hide h
    clear h hb hs
    go_enter Try.func16, Try.ntmps16
    go_wp2_with fail
    refine R.out.mono ?_
    rintro e w' ⟨rfl, rfl⟩
    go_wp2
    refine bodyPost_ret (v := .tuple #[]) (by simp [results, Try.results16, go_sem]) rfl ?_
    exact ⟨rfl, HP.out, Stp.refl _ _ _ _, Below.refl _ _⟩
  · rw [if_neg hs]
    have hb : (d.stop == 0) = false := by simpa using hs
    rw [hb] at R
    have HP : ∀ z : Int, -1 ≤ z → z ≤ 9223372036854775807 → Hid (PD N g (w.setCell ⟨g, 6, none⟩ (.int .i64 z)) va vb { d with stop := z }) := by
      intro z z1 z2
      have hk := h.ok
      exact ⟨h.1.set 6 _, h.2.1.setc (h.2.1.ne h.1) _ _, h.2.2.1.setc (h.2.2.1.ne h.1) _ _, h.2.2.2.1, h.2.2.2.2.1, hk.1, hk.2.1, hk.2.2.1, hk.2.2.2.1, z1, z2⟩
    have HT : ∀ z, Hid (Stp g va vb va vb w (w.setCell ⟨g, 6, none⟩ z)) := fun z => Stp.set g va vb va vb _ _ _ (fun _ h => .inl h)
    have HBL : ∀ z, Hid (Below N w (w.setCell ⟨g, 6, none⟩ z)) := fun z => (Below.refl _ _).setCell h.2.2.2.2.1 _
    have c6 := h.1.cell 6 _ rfl
    have f6 := h.1.free 6
    clear h hb hs
    by_cases hz : n < 0
    · rw [if_pos hz]
      have HP := HP (-1) (by omega) (by omega)
      go_enter Try.func16, Try.ntmps16
      go_wp2_with fail
      refine R.out.mono ?_
      rintro e w' ⟨rfl, rfl⟩
      go_wp2
      · refine bodyPost_end (v := .tuple #[]) (by simp [results, Try.results16, go_sem]) rfl ?_
        exact ⟨rfl, HP.out, (HT _).out, (HBL _).out⟩
      · have hn1 : n = -1 := by omega
        subst hn1
        refine bodyPost_end (v := .tuple #[]) (by simp [results, Try.results16, go_sem]) rfl ?_
        exact ⟨rfl, HP.out, (HT _).out, (HBL _).out⟩
    · rw [if_neg hz]
      have HP := HP n (by omega) (by omega)
      go_enter Try.func16, Try.ntmps16
      go_wp2_with fail
      refine R.out.mono ?_
      rintro e w' ⟨rfl, rfl⟩
      go_wp2
      refine bodyPost_end (v := .tuple #[]) (by simp [results, Try.results16, go_sem]) rfl ?_
      exact ⟨rfl, HP.out, (HT _).out, (HBL _).out⟩
end Go.Proofs.Ytofalfaiamaapaa
