/- layer 12's awake. -/
import Derived.Test.YtohkopjacpendaaGNp
import Derived.Test.YtohkopjacpendaaGNo
namespace Go.Proofs.Ytohkopjacpendaa
open Go.RowKit Go.ChangeShapes Go.WideShapes
set_option linter.unusedVariables false
def kA12 : ByteArray := ⟨#[97]⟩
def n1A : Nt := (kA12, 3, 1, ⟨#[120]⟩)
def n2A : Nt := (kA12, 3, 2, ⟨#[121]⟩)
set_option maxRecDepth 100000 in
set_option maxHeartbeats 2000000 in
theorem awake12 (w : World) : Calls Try.prog 8 #[] w fun e w' => e = .returned (.bool true) ∧ Below w.heap.size w w' := by
  have eA : setN [] n1A = [n1A] := by simp [setN, getG, putG]
  have eB : setN [n1A] n2A = [n2A] := by
    have : laterN n2A n1A = true := by decide
    simp [setN, getG, putG, n1A, n2A, ltK_irr]
    exact this
  have hA := Set12_good none 0 0 [] kA12 3 1 ⟨#[120]⟩ w (NN.nil _ _) ⟨Nat.le_refl _, by decide, fun _ => rfl⟩ (by decide) (by decide) (by decide)
  rw [show setN [] (kA12, 3, 1, ⟨#[120]⟩) = [n1A] from eA] at hA
  have HA := hide hA
  have HB : Hid (∀ (p : Option Addr) (n cap : Nat) (W : World), NN W p n [n1A] → CP p n cap → Calls Try.prog 9 #[.slice p n cap, .agg #[.string kA12, .int .i64 3, .int .i64 2, .string ⟨#[121]⟩]] W fun e w' => ∃ p cp, e = .returned (.tuple #[.slice p 1 cp, .int .i64 0]) ∧ NN w' p 1 [n2A] ∧ CP p 1 cp ∧ Below W.heap.size W w') := fun p n cap W h hC => by
    have := Set12_good p n cap [n1A] kA12 3 2 ⟨#[121]⟩ W h hC (by decide) (by decide) (by decide)
    rw [show setN [n1A] (kA12, 3, 2, ⟨#[121]⟩) = [n2A] from eB] at this
    exact this
  have HG : Hid (∀ (p : Option Addr) (n cap : Nat) (W : World), NN W p n [n2A] → Calls Try.prog 10 #[.slice p n cap, .string kA12] W fun e w' => e = .returned (.tuple #[.agg #[.string kA12, .int .i64 3, .int .i64 2, .string ⟨#[121]⟩], .bool true]) ∧ Below W.heap.size W w') := fun p n cap W h => by
    have := Get12_any p n cap [n2A] kA12 W h
    rw [show get12 [n2A] kA12 = some n2A from by rw [get12_yes (by decide)]; simp [getG, n2A]] at this
    exact this
  clear eA eB hA
  go_enter Try.func8, Try.ntmps8
  go_upto_region 2 with (go_at_call 9; refine HA.out.mono ?_; rintro e w1 ⟨p1, c1, rfl, hn1, hc1, hb⟩; have HN1 := hide hn1; have HC1 := hide hc1; have BB := hide hb; clear hn1 hc1 hb HA)
  go_upto_region 3 with (go_at_call 9; refine (HB.out p1 _ c1 _ HN1.out HC1.out).mono ?_; rintro e w2 ⟨p2, c2, rfl, hn2, hc2, hb⟩; have HN2 := hide hn2; replace BB := hide (bel_next BB.out hb); clear hn2 hc2 hb HB)
  go_upto_region 4 with (go_at_call 10; refine (HG.out p2 _ c2 _ HN2.out).mono ?_; rintro e w3 ⟨rfl, hb⟩; replace BB := hide (bel_next BB.out hb); clear hb)
  have z3 := cell_new w3 #[.string kA12, .int .i64 3, .int .i64 2, .string ⟨#[121]⟩] 24 _ rfl 3 _ rfl
  replace BB := hide (bel_next BB.out (bel1 w3 (.cells #[.string kA12, .int .i64 3, .int .i64 2, .string ⟨#[121]⟩] 24)))
  go_wp2
  go_ret
  exact ⟨rfl, BB.out⟩
end Go.Proofs.Ytohkopjacpendaa
