/- What is not safe is lost: 'awake' answers yes. -/
import Derived.Test.YteamedilcpfkgaaP5
namespace Go.Proofs.Yteamedilcpfkgaa
open Go.RowKit
set_option linter.unusedVariables false
theorem NSN.nil (N : Nat) (w : World) : NSN N w none 0 [] := ⟨rfl, by decide, .inl rfl⟩
theorem aw1 : (newD 100).pact 0 0 [1, 2] = (⟨⟨[1, 2], 0⟩, ⟨[], 0⟩, 100, -1, false⟩, 0) := rfl
theorem aw2 : (⟨⟨[1, 2], 0⟩, ⟨[], 0⟩, 100, -1, false⟩ : Dk).pact 2 0 [] = (⟨⟨[1, 2], 2⟩, ⟨[], 0⟩, 100, -1, false⟩, 0) := rfl
theorem aw3 : (⟨⟨[1, 2], 2⟩, ⟨[], 0⟩, 100, -1, false⟩ : Dk).pact 0 0 [3] = (⟨⟨[1, 2, 3], 2⟩, ⟨[], 0⟩, 100, -1, false⟩, 0) := rfl
theorem aw4 : (⟨⟨[1, 2, 3], 2⟩, ⟨[], 0⟩, 100, -1, false⟩ : Dk).crash [] = ⟨⟨[1, 2], 2⟩, ⟨[], 0⟩, 100, -1, false⟩ := rfl
theorem PD.hN {N g : Nat} {w : World} {va vb : Value} {d : Dk} (h : PD N g w va vb d) : N ≤ w.heap.size := Nat.le_trans h.2.2.2.2.1 (Nat.le_of_lt h.1.size)
/-- Bytes that are written down. -/
theorem BS.lit (w : World) (l : List Int) (n : Nat) (hn : l.length = n) (C : Array Value) (hC : C = (l.map (Value.int .u8)).toArray) (h : n ≤ 1000) (hb : By l) : BS (w.alloc (.cells C 5)) (some ⟨w.heap.size, 0, none⟩) n l ∧ CP (some ⟨w.heap.size, 0, none⟩ : Option Addr) n n :=
  ⟨BS.new w w.heap.size rfl l C hC _ n hn (by unfold maxLen; omega) hb, Nat.le_refl _, by unfold maxLen; omega, fun h => by cases h⟩
set_option maxHeartbeats 1000000 in
theorem awake_any (w : World) : Calls Try.prog 6 #[] w fun e w' => e = .returned (.bool true) ∧ Below w.heap.size w w' := by
  go_enter Try.func6, Try.ntmps6
  go_wp2_with fail
  refine (New_any 100 w (by decide) (by decide)).mono ?_
  rintro e w1 ⟨rfl, hp, hb⟩
  have P := hide (hp.below (bel1 w1 (.cells #[.int .u8 1, .int .u8 2] 5)))
  have hN := hp.hN
  have B := hide (hb.trans ((bel1 w1 (.cells #[.int .u8 1, .int .u8 2] 5)).mono hN))
  have L := hide (BS.lit w1 [1, 2] 2 rfl #[.int .u8 1, .int .u8 2] rfl (by decide) (by unfold By; decide))
  clear hp hb hN
  go_wp2_with fail
  refine (Append_any 0 _ _ _ [1, 2] _ P.out L.out.1 L.out.2).mono ?_
  rw [aw1]
  rintro e w2 ⟨va, vb, rfl, hp, _, hb⟩
  replace P := hide hp
  replace B := hide (B.out.trans hb)
  clear hp hb L
  go_wp2_with fail
  refine (Sync_any 0 _ P.out).mono ?_
  rw [aw2]
  rintro e w3 ⟨va, vb, rfl, hp, _, hb⟩
  have hN := hp.hN
  replace P := hide (hp.below (bel1 w3 (.cells #[.int .u8 3] 5)))
  replace B := hide ((B.out.trans hb).trans ((bel1 w3 (.cells #[.int .u8 3] 5)).mono hN))
  have L := hide (BS.lit w3 [3] 1 rfl #[.int .u8 3] rfl (by decide) (by unfold By; decide))
  clear hp hb hN
  go_wp2_with fail
  refine (Append_any 0 _ _ _ [3] _ P.out L.out.1 L.out.2).mono ?_
  rw [aw3]
  rintro e w4 ⟨va, vb, rfl, hp, _, hb⟩
  replace P := hide hp
  replace B := hide (B.out.trans hb)
  clear hp hb L
  go_wp2_with fail
  refine (Crash_any none 0 0 [] _ P.out (NSN.nil _ _)).mono ?_
  rw [aw4]
  rintro e w5 ⟨va, vb, rfl, hp, _, hb⟩
  replace P := hide hp
  replace B := hide (B.out.trans hb)
  clear hp hb
  go_wp2_with fail
  refine (Read_any 0 _ P.out (by decide) (.inl rfl)).mono ?_
  rintro e w6 ⟨v, rfl, ho, hb⟩
  obtain ⟨p, c, rfl, _, _⟩ := ho.open (show By [1, 2] by unfold By; decide)
  have hN := P.out.hN
  replace P := hide (P.out.below hb)
  replace B := hide (B.out.trans (hb.mono hN))
  clear ho hb hN
  go_wp2_with fail
  refine (Left_any _ P.out).mono ?_
  rintro e w7 ⟨rfl, hb⟩
  have hN := P.out.hN
  replace B := hide (B.out.trans (hb.mono hN))
  have hlf : Dk.left ⟨⟨[1, 2], 2⟩, ⟨[], 0⟩, 100, -1, false⟩ = 98 := rfl
  clear hb hN P
  go_wp2
  go_ret
  exact ⟨rfl, B.out⟩
end Go.Proofs.Yteamedilcpfkgaa
