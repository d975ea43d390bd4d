/- Texts of this claim, joined: CFun, CSet, EMath, COrd, CJoinAll, CRef, CRef2, CLaw, DMem, DFun1, RPut, RRead. -/
import Derived.Test.YtooggheoaglbeaaJ2
import Derived.SizedLaws
import Derived.OpenShut
import Derived.ProofKit
import Derived.Deep.RegionHeld3
import Derived.Sort.Grow
import Derived.Deep.Draws
/- What 'Plain', 'Get', 'Set', 'Tick', 'Within' and 'Sum' do. -/
namespace Go.Proofs.Ytooggheoaglbeaa
open Go.RowKit
set_option linter.unusedVariables false

theorem bel_next {w w1 w2 : World} (h1 : Below w.heap.size w w1) (h2 : Below w1.heap.size w1 w2) : Below w.heap.size w w2 := h1.trans (h2.mono h1.size)

theorem Plain_any (a : Option Addr) (n cap : Nat) (c : List Int) (w : World) (hN : NS w a n c) :
    Calls Try.prog 62 #[.slice a n cap] w fun e w' => ∃ v, e = .returned v ∧ OwnN w.heap.size w' v (pln (vec c)) ∧ Below w.heap.size w w' := by
  have HN := hide hN
  clear hN
  go_enter Try.func62, Try.ntmps62
  go_wp2_with (first
    | (go_at_call 65; refine (numbers_any _ _ _ c _ HN.out).mono ?_; rintro e w1 ⟨rfl, hb1⟩; have HB1 := hide hb1; clear hb1)
    | (go_at_call 88; refine (plain_any _ _ _ _ _ _).mono ?_; rintro e w2 ⟨v, rfl, hown, hb2⟩; have HO := hide hown; have HB2 := hide hb2; clear hown hb2))
  go_ret
  exact ⟨_, rfl, HO.out.mono HB1.out.size, bel_next HB1.out HB2.out⟩

theorem Within_any (a b : Option Addr) (n cap m cap' : Nat) (c d : List Int) (w : World) (hN : NS w a n c) (hM : NS w b m d) (r : Bool) (hr : r = decide (wth c d)) :
    Calls Try.prog 58 #[.slice a n cap, .slice b m cap'] w fun e w' => e = .returned (.bool r) ∧ Below w.heap.size w w' := by
  have HN := hide hN
  have HM := hide hM
  clear hN hM
  have HR : Hid (r = decide (wth c d)) := hr
  clear hr
  go_enter Try.func58, Try.ntmps58
  go_wp2_with (first
    | (go_at_call_of 65 a; refine (numbers_any _ _ _ c _ HN.out).mono ?_; rintro e w1 ⟨rfl, hb1⟩; have HB1 := hide hb1; clear hb1)
    | (go_at_call 65; refine (numbers_any _ _ _ d _ (HM.out.below HB1.out)).mono ?_; rintro e w2 ⟨rfl, hb2⟩; have HB2 := hide hb2; clear hb2)
    | (go_at_call 86; refine (within_any _ _ _ _ _ _ _ _ _ _ _ r HR.out).mono ?_; rintro e w3 ⟨rfl, hb3⟩; have HB3 := hide hb3; clear hb3))
  go_ret
  exact ⟨rfl, bel_next (bel_next HB1.out HB2.out) HB3.out⟩

theorem Sum_any (a : Option Addr) (n cap : Nat) (c : List Int) (w : World) (hN : NS w a n c) :
    Calls Try.prog 79 #[.slice a n cap] w fun e w' => e = .returned (.int .i64 (sumL c)) ∧ Below w.heap.size w w' := by
  have HN := hide hN
  clear hN
  have b0 := at5_bd c 0
  have i0 : ∀ w : World, (Instr.index 88 (.agg #[.int .i64 (at5 c 0), .int .i64 (at5 c 1), .int .i64 (at5 c 2), .int .i64 (at5 c 3), .int .i64 (at5 c 4)]) (.int .i64 0)).run Try.prog w = .ok (.int .i64 (at5 c 0)) w := fun _ => by kernel_rfl
  have b1 := at5_bd c 1
  have i1 : ∀ w : World, (Instr.index 88 (.agg #[.int .i64 (at5 c 0), .int .i64 (at5 c 1), .int .i64 (at5 c 2), .int .i64 (at5 c 3), .int .i64 (at5 c 4)]) (.int .i64 1)).run Try.prog w = .ok (.int .i64 (at5 c 1)) w := fun _ => by kernel_rfl
  have b2 := at5_bd c 2
  have i2 : ∀ w : World, (Instr.index 88 (.agg #[.int .i64 (at5 c 0), .int .i64 (at5 c 1), .int .i64 (at5 c 2), .int .i64 (at5 c 3), .int .i64 (at5 c 4)]) (.int .i64 2)).run Try.prog w = .ok (.int .i64 (at5 c 2)) w := fun _ => by kernel_rfl
  have b3 := at5_bd c 3
  have i3 : ∀ w : World, (Instr.index 88 (.agg #[.int .i64 (at5 c 0), .int .i64 (at5 c 1), .int .i64 (at5 c 2), .int .i64 (at5 c 3), .int .i64 (at5 c 4)]) (.int .i64 3)).run Try.prog w = .ok (.int .i64 (at5 c 3)) w := fun _ => by kernel_rfl
  have b4 := at5_bd c 4
  have i4 : ∀ w : World, (Instr.index 88 (.agg #[.int .i64 (at5 c 0), .int .i64 (at5 c 1), .int .i64 (at5 c 2), .int .i64 (at5 c 3), .int .i64 (at5 c 4)]) (.int .i64 4)).run Try.prog w = .ok (.int .i64 (at5 c 4)) w := fun _ => by kernel_rfl
  have HS : Hid (at5 c 0 + at5 c 1 + at5 c 2 + at5 c 3 + at5 c 4 = sumL c) := rfl
  go_enter Try.func79, Try.ntmps79
  go_wp2_with (go_at_call 65; refine (numbers_any _ _ _ c _ HN.out).mono ?_; rintro e w1 ⟨rfl, hb1⟩; have HB1 := hide hb1; clear hb1)
  generalize at5 c 0 = x0 at *
  generalize at5 c 1 = x1 at *
  generalize at5 c 2 = x2 at *
  generalize at5 c 3 = x3 at *
  generalize at5 c 4 = x4 at *
  go_loop [3, 8] (fun s i => (i = .int .i64 0 ∧ s = .int .i64 0) ∨ (i = .int .i64 1 ∧ s = .int .i64 x0) ∨ (i = .int .i64 2 ∧ s = .int .i64 (x0 + x1)) ∨ (i = .int .i64 3 ∧ s = .int .i64 (x0 + x1 + x2)) ∨ (i = .int .i64 4 ∧ s = .int .i64 (x0 + x1 + x2 + x3)) ∨ (i = .int .i64 5 ∧ s = .int .i64 (x0 + x1 + x2 + x3 + x4))) (fun _ i => 5 - (intOf i).toNat)
  case atStart => exact .inl ⟨rfl, rfl⟩
  case round =>
    rcases hrel with ⟨rfl, rfl⟩ | ⟨rfl, rfl⟩ | ⟨rfl, rfl⟩ | ⟨rfl, rfl⟩ | ⟨rfl, rfl⟩ | ⟨rfl, rfl⟩
    · go_wp2
      go_round
      case rel => exact .inr (.inl ⟨rfl, rfl⟩)
      case measure => decide
    · go_wp2
      go_round
      case rel => exact .inr (.inr (.inl ⟨rfl, rfl⟩))
      case measure => decide
    · go_wp2
      go_round
      case rel => exact .inr (.inr (.inr (.inl ⟨rfl, rfl⟩)))
      case measure => decide
    · go_wp2
      go_round
      case rel => exact .inr (.inr (.inr (.inr (.inl ⟨rfl, rfl⟩))))
      case measure => decide
    · go_wp2
      go_round
      case rel => exact .inr (.inr (.inr (.inr (.inr (⟨rfl, rfl⟩)))))
      case measure => decide
    · go_wp2
      go_ret
      exact ⟨ret_int HS.out, HB1.out⟩
end Go.Proofs.Ytooggheoaglbeaa

/- What 'Get', 'Set' and 'Tick' do. -/
namespace Go.Proofs.Ytooggheoaglbeaa
open Go.RowKit
set_option linter.unusedVariables false

/-- A replica's number, replicas counted from 1, as any integer. -/
def getZ (c : List Int) (r : Int) : Int := if 1 ≤ r ∧ r ≤ 5 then at5 c (r.toNat - 1) else 0

set_option maxHeartbeats 1000000 in
theorem Get_any (a : Option Addr) (n cap : Nat) (c : List Int) (r : Int) (w : World) (hN : NS w a n c) :
    Calls Try.prog 44 #[.slice a n cap, .int .i64 r] w fun e w' => e = .returned (.int .i64 (getZ c r)) ∧ Below w.heap.size w w' := by
  have HN := hide hN
  clear hN
  by_cases hr : 1 ≤ r ∧ r ≤ 5
  · have hm := mayRep_any r w
    rw [decide_eq_true hr] at hm
    have h5 : r = 1 ∨ r = 2 ∨ r = 3 ∨ r = 4 ∨ r = 5 := by omega
    clear hr
    rcases h5 with rfl | rfl | rfl | rfl | rfl
    · have HE : Hid (at5 c 0 = getZ c 1) := rfl
      have i0 : ∀ w : World, (Instr.index 88 (.agg #[.int .i64 (at5 c 0), .int .i64 (at5 c 1), .int .i64 (at5 c 2), .int .i64 (at5 c 3), .int .i64 (at5 c 4)]) (.int .i64 0)).run Try.prog w = .ok (.int .i64 (at5 c 0)) w := fun _ => by kernel_rfl
      go_enter Try.func44, Try.ntmps44
      go_wp2_with (first
        | (go_at_call 64; refine hm.mono ?_; rintro e w' ⟨rfl, rfl⟩)
        | (go_at_call 65; refine (numbers_any _ _ _ c _ HN.out).mono ?_; rintro e w1 ⟨rfl, hb1⟩; have HB1 := hide hb1; clear hb1))
      go_ret
      exact ⟨ret_int HE.out, HB1.out⟩
    · have HE : Hid (at5 c 1 = getZ c 2) := rfl
      have i0 : ∀ w : World, (Instr.index 88 (.agg #[.int .i64 (at5 c 0), .int .i64 (at5 c 1), .int .i64 (at5 c 2), .int .i64 (at5 c 3), .int .i64 (at5 c 4)]) (.int .i64 1)).run Try.prog w = .ok (.int .i64 (at5 c 1)) w := fun _ => by kernel_rfl
      go_enter Try.func44, Try.ntmps44
      go_wp2_with (first
        | (go_at_call 64; refine hm.mono ?_; rintro e w' ⟨rfl, rfl⟩)
        | (go_at_call 65; refine (numbers_any _ _ _ c _ HN.out).mono ?_; rintro e w1 ⟨rfl, hb1⟩; have HB1 := hide hb1; clear hb1))
      go_ret
      exact ⟨ret_int HE.out, HB1.out⟩
    · have HE : Hid (at5 c 2 = getZ c 3) := rfl
      have i0 : ∀ w : World, (Instr.index 88 (.agg #[.int .i64 (at5 c 0), .int .i64 (at5 c 1), .int .i64 (at5 c 2), .int .i64 (at5 c 3), .int .i64 (at5 c 4)]) (.int .i64 2)).run Try.prog w = .ok (.int .i64 (at5 c 2)) w := fun _ => by kernel_rfl
      go_enter Try.func44, Try.ntmps44
      go_wp2_with (first
        | (go_at_call 64; refine hm.mono ?_; rintro e w' ⟨rfl, rfl⟩)
        | (go_at_call 65; refine (numbers_any _ _ _ c _ HN.out).mono ?_; rintro e w1 ⟨rfl, hb1⟩; have HB1 := hide hb1; clear hb1))
      go_ret
      exact ⟨ret_int HE.out, HB1.out⟩
    · have HE : Hid (at5 c 3 = getZ c 4) := rfl
      have i0 : ∀ w : World, (Instr.index 88 (.agg #[.int .i64 (at5 c 0), .int .i64 (at5 c 1), .int .i64 (at5 c 2), .int .i64 (at5 c 3), .int .i64 (at5 c 4)]) (.int .i64 3)).run Try.prog w = .ok (.int .i64 (at5 c 3)) w := fun _ => by kernel_rfl
      go_enter Try.func44, Try.ntmps44
      go_wp2_with (first
        | (go_at_call 64; refine hm.mono ?_; rintro e w' ⟨rfl, rfl⟩)
        | (go_at_call 65; refine (numbers_any _ _ _ c _ HN.out).mono ?_; rintro e w1 ⟨rfl, hb1⟩; have HB1 := hide hb1; clear hb1))
      go_ret
      exact ⟨ret_int HE.out, HB1.out⟩
    · have HE : Hid (at5 c 4 = getZ c 5) := rfl
      have i0 : ∀ w : World, (Instr.index 88 (.agg #[.int .i64 (at5 c 0), .int .i64 (at5 c 1), .int .i64 (at5 c 2), .int .i64 (at5 c 3), .int .i64 (at5 c 4)]) (.int .i64 4)).run Try.prog w = .ok (.int .i64 (at5 c 4)) w := fun _ => by kernel_rfl
      go_enter Try.func44, Try.ntmps44
      go_wp2_with (first
        | (go_at_call 64; refine hm.mono ?_; rintro e w' ⟨rfl, rfl⟩)
        | (go_at_call 65; refine (numbers_any _ _ _ c _ HN.out).mono ?_; rintro e w1 ⟨rfl, hb1⟩; have HB1 := hide hb1; clear hb1))
      go_ret
      exact ⟨ret_int HE.out, HB1.out⟩
  · have hm := mayRep_any r w
    rw [decide_eq_false hr] at hm
    have HE : Hid (0 = getZ c r) := by unfold Hid getZ; rw [if_neg hr]
    clear hr
    go_enter Try.func44, Try.ntmps44
    go_wp2_with (go_at_call 64; refine hm.mono ?_; rintro e w' ⟨rfl, rfl⟩)
    go_ret
    exact ⟨ret_int HE.out, Below.refl _ _⟩

/-- What 'Set' and 'Tick' tell. -/
def SetSays (w : World) (q : Option (List Int)) (err : Int) (e : Ending) (w' : World) : Prop :=
  Below w.heap.size w w' ∧ ∃ v, e = .returned (.tuple #[v, .int .i64 err]) ∧ OwnN w.heap.size w' v (q.getD [])
theorem SetSays.bad (w w' : World) (q : Option (List Int)) (err : Int) (hq : q = none) (hb : Below w.heap.size w w') : SetSays w q err (.returned (.tuple #[.slice none 0 0, .int .i64 err])) w' := by
  subst hq; exact ⟨hb, _, rfl, OwnN.nil _ _⟩

/-- Set, as lists: none: ErrArg. -/
def setA (c : List Int) (r n : Int) : Option (List Int) := if (1 ≤ r ∧ r ≤ 5) ∧ inB n = true then some (pln (setL c (r.toNat - 1) n)) else none
def setE (r n : Int) : Int := if (1 ≤ r ∧ r ≤ 5) ∧ inB n = true then 0 else 1

/-- Tick, as lists: none: an error. -/
def tickA (c : List Int) (r : Int) : Option (List Int) := if (1 ≤ r ∧ r ≤ 5) ∧ getZ c r ≠ 1048576 then some (pln (setL c (r.toNat - 1) (getZ c r + 1))) else none
def tickE (c : List Int) (r : Int) : Int := if 1 ≤ r ∧ r ≤ 5 then (if getZ c r = 1048576 then 6 else 0) else 1
theorem getZ_bd (c : List Int) (r : Int) : 0 ≤ getZ c r ∧ getZ c r ≤ 1048576 := by
  unfold getZ; split
  · exact at5_bd _ _
  · omega

end Go.Proofs.Ytooggheoaglbeaa

/- Effects and events in plain mathematics: which may be, their bytes, and which event bytes are. -/
namespace Go.Proofs.Ytooggheoaglbeaa

/-- An effect: Kind, Of, Key, N, To, Word. -/
abbrev Eff := Int × Int × List Int × Int × Int × List Int
/-- An event: Dot, Past, Effects. -/
abbrev Evt := Dot × List Int × List Eff
/-- What is named by the kind is in its bounds, all else nought. -/
def fits (k n t : Int) (wl : Nat) : Bool := decide (((k = 1 ∨ k = 2) ∧ n = 0 ∧ t = 0 ∧ wl = 0) ∨ ((k = 3 ∨ k = 4) ∧ 1 ≤ n ∧ n ≤ 1000 ∧ t = 0 ∧ wl = 0) ∨ (k = 5 ∧ 1 ≤ n ∧ n ≤ 1000 ∧ 1 ≤ t ∧ t ≤ 5 ∧ wl = 0) ∨ (k = 6 ∧ n = 0 ∧ t = 0 ∧ wl ≤ 64))
def mayF (x : Eff) : Bool := decide (1 ≤ x.2.2.1.length ∧ x.2.2.1.length ≤ 32 ∧ 0 ≤ x.2.1 ∧ x.2.1 ≤ 15) && fits x.1 x.2.2.2.1 x.2.2.2.2.1 x.2.2.2.2.2.length
/-- A Past that may be, and is plain. -/
def plainB (c : List Int) : Bool := mayC c && decide (pln c = c)
/-- Dot and Past. -/
def headB (d : Dot) (c : List Int) : Bool := mayD d && plainB c && decide (getZ c d.1 = d.2 - 1)
def mayE (e : Evt) : Bool := headB e.1 e.2.1 && decide (1 ≤ e.2.2.length ∧ e.2.2.length ≤ 16) && e.2.2.all mayF
/-- Keys and words are bytes. -/
def ByF (x : Eff) : Prop := By x.2.2.1 ∧ By x.2.2.2.2.2
def putF (x : Eff) : List Int := pack [num x.1, num x.2.1, num x.2.2.2.1, num x.2.2.2.2.1, x.2.2.1, x.2.2.2.2.2]
def putD2 (d : Dot) : List Int := pack [num d.1, num d.2]
def putE (e : Evt) : List Int := pack (putD2 e.1 :: putC e.2.1 :: e.2.2.map putF)

/-- All of the bytes are a pack, of so many texts. -/
def gpk (b : List Int) (least : Nat) (most : Int) : Option (List (List Int)) := match unpack b most with
  | none => none
  | some (ts, m) => if m = b.length ∧ least ≤ ts.length then some ts else none
def rdD (b : List Int) : Option Dot := match gpk b 2 2 with
  | none => none
  | some ts => match rdAll ts with
    | none => none
    | some l => some (l.getD 0 0, l.getD 1 0)
def rdF (b : List Int) : Option Eff := match gpk b 6 6 with
  | none => none
  | some ts => match rdAll (ts.take 4) with
    | none => none
    | some l => some (l.getD 0 0, l.getD 1 0, ts.getD 4 [], l.getD 2 0, l.getD 3 0, ts.getD 5 [])
def rdFs : List (List Int) → Option (List Eff)
  | [] => some []
  | t :: r => match rdF t with
    | none => none
    | some x => (rdFs r).map (x :: ·)
/-- A whole text's clock. -/
def rdW (t : List Int) : Option (List Int) := match rdC t with
  | none => none
  | some (c, m) => if m = t.length then some c else none
def rdP (ts : List (List Int)) : Option Evt := match rdD (ts.getD 0 []) with
  | none => none
  | some d => match rdW (ts.getD 1 []) with
    | none => none
    | some c => match rdFs (ts.drop 2) with
      | none => none
      | some l => some (d, c, l)
def rdE (b : List Int) : Option Evt := match gpk b 3 18 with
  | none => none
  | some ts => match rdP ts with
    | none => none
    | some e => if mayE e = true then some e else none

theorem fits_iff {k n t : Int} {wl : Nat} : fits k n t wl = true ↔ (((k = 1 ∨ k = 2) ∧ n = 0 ∧ t = 0 ∧ wl = 0) ∨ ((k = 3 ∨ k = 4) ∧ 1 ≤ n ∧ n ≤ 1000 ∧ t = 0 ∧ wl = 0) ∨ (k = 5 ∧ 1 ≤ n ∧ n ≤ 1000 ∧ 1 ≤ t ∧ t ≤ 5 ∧ wl = 0) ∨ (k = 6 ∧ n = 0 ∧ t = 0 ∧ wl ≤ 64)) := by simp [fits]
theorem mayF_iff {x : Eff} : mayF x = true ↔ (1 ≤ x.2.2.1.length ∧ x.2.2.1.length ≤ 32 ∧ 0 ≤ x.2.1 ∧ x.2.1 ≤ 15) ∧ fits x.1 x.2.2.2.1 x.2.2.2.2.1 x.2.2.2.2.2.length = true := by simp [mayF]
theorem mayF_bd {x : Eff} (h : mayF x = true) : (1 ≤ x.1 ∧ x.1 ≤ 6) ∧ (0 ≤ x.2.1 ∧ x.2.1 ≤ 15) ∧ (0 ≤ x.2.2.2.1 ∧ x.2.2.2.1 ≤ 1000) ∧ (0 ≤ x.2.2.2.2.1 ∧ x.2.2.2.2.1 ≤ 5) ∧ x.2.2.1.length ≤ 32 ∧ x.2.2.2.2.2.length ≤ 64 := by
  obtain ⟨h1, h2⟩ := mayF_iff.1 h
  have h3 := fits_iff.1 h2
  omega
theorem plainB_iff {c : List Int} : plainB c = true ↔ mayC c = true ∧ pln c = c := by simp [plainB]
theorem headB_iff {d : Dot} {c : List Int} : headB d c = true ↔ mayD d = true ∧ (mayC c = true ∧ pln c = c) ∧ getZ c d.1 = d.2 - 1 := by simp [headB, plainB_iff, and_assoc]
theorem mayE_iff {e : Evt} : mayE e = true ↔ headB e.1 e.2.1 = true ∧ (1 ≤ e.2.2.length ∧ e.2.2.length ≤ 16) ∧ ∀ x ∈ e.2.2, mayF x = true := by simp [mayE, and_assoc]
theorem putC_of {c : List Int} (hm : mayC c = true) (hp : pln c = c) : putC c = pack (c.map num) := by unfold putC; rw [pln_vec c hm, hp]

theorem len2 {α : Type} (l : List α) (h : l.length = 2) : ∃ a b, l = [a, b] := by
  rcases l with _ | ⟨a, _ | ⟨b, _ | ⟨c, r⟩⟩⟩
  · simp at h
  · simp at h
  · exact ⟨a, b, rfl⟩
  · simp at h
theorem len4 {α : Type} (l : List α) (h : l.length = 4) : ∃ a b c d, l = [a, b, c, d] := by
  rcases l with _ | ⟨a, _ | ⟨b, r⟩⟩
  · simp at h
  · simp at h
  · obtain ⟨c, d, rfl⟩ := len2 r (by simpa using h)
    exact ⟨a, b, c, d, rfl⟩
theorem len6 {α : Type} (l : List α) (h : l.length = 6) : ∃ a b c d e f, l = [a, b, c, d, e, f] := by
  rcases l with _ | ⟨a, _ | ⟨b, r⟩⟩
  · simp at h
  · simp at h
  · obtain ⟨c, d, e, f, rfl⟩ := len4 r (by simpa using h)
    exact ⟨a, b, c, d, e, f, rfl⟩
theorem gpk_some {b : List Int} (hb : By b) {least : Nat} {most : Int} {ts : List (List Int)} (h : gpk b least most = some ts) :
    pack ts = b ∧ (∀ t ∈ ts, t.length ≤ 65536 ∧ By t) ∧ least ≤ ts.length ∧ (ts.length : Int) ≤ most := by
  unfold gpk at h
  rcases hu : unpack b most with _ | ⟨l, m⟩
  · rw [hu] at h; cases h
  · rw [hu] at h
    simp only [] at h
    split at h
    · rename_i hc
      cases h
      obtain ⟨_, _, h3, h4⟩ := unpack_some hb hu
      rw [hc.1, List.take_length] at h3
      exact ⟨h3, h4, hc.2, unpack_le hb hu⟩
    · cases h
theorem gpk_pack (l : List (List Int)) (least : Nat) (most : Int) (hn : l.length ≤ 1000) (hl : ∀ t ∈ l, t.length ≤ 65536) (h1 : least ≤ l.length) (h2 : (l.length : Int) ≤ most) : gpk (pack l) least most = some l := by
  unfold gpk
  have e := unpack_pack l (by omega) hl [] most h2
  rw [List.append_nil] at e
  rw [e]
  simp [h1]
theorem rdAll_is {ts : List (List Int)} (hts : ∀ t ∈ ts, By t) {c : List Int} (h : rdAll ts = some c) : ts = c.map num ∧ c.length = ts.length ∧ ∀ x ∈ c, 0 ≤ x ∧ x ≤ 1048576 := by
  have h1 := (rdAll_iff hts).1 h
  exact ⟨h1.2, rfAll_bd hts h1.1⟩
theorem rdD_some {b : List Int} (hb : By b) {d : Dot} (h : rdD b = some d) : putD2 d = b := by
  unfold rdD at h
  rcases hg : gpk b 2 2 with _ | ts
  · rw [hg] at h; cases h
  · rw [hg] at h
    simp only [] at h
    obtain ⟨h1, h2, h3, h4⟩ := gpk_some hb hg
    rcases hr : rdAll ts with _ | l
    · rw [hr] at h; cases h
    · rw [hr] at h
      cases h
      obtain ⟨e, el, _⟩ := rdAll_is (fun t ht => (h2 t ht).2) hr
      obtain ⟨x, y, rfl⟩ := len2 l (by omega)
      rw [← h1, e]
      rfl
theorem num_ok (x : Int) (h0 : 0 ≤ x) (h1 : x ≤ 1048576) : rdAll [num x] = some [x] := rdAll_nums [x] (by simp; omega)
theorem rdD_put (d : Dot) (h : mayD d = true) : rdD (putD2 d) = some d := by
  have hd := mayD_iff.1 h
  unfold rdD putD2
  rw [gpk_pack _ 2 2 (by simp) (by simp only [List.mem_cons, List.not_mem_nil, or_false]; rintro t (rfl | rfl) <;> exact num_short _) (by simp) (by simp)]
  simp only []
  have e := rdAll_nums [d.1, d.2] (by simp; omega)
  simp only [List.map_cons, List.map_nil] at e
  rw [e]
  rfl
theorem rdF_some {b : List Int} (hb : By b) {x : Eff} (h : rdF b = some x) : putF x = b ∧ ByF x := by
  unfold rdF at h
  rcases hg : gpk b 6 6 with _ | ts
  · rw [hg] at h; cases h
  · rw [hg] at h
    simp only [] at h
    obtain ⟨h1, h2, h3, h4⟩ := gpk_some hb hg
    rcases hr : rdAll (ts.take 4) with _ | l
    · rw [hr] at h; cases h
    · rw [hr] at h
      cases h
      obtain ⟨e, el, _⟩ := rdAll_is (fun t ht => (h2 t (List.mem_of_mem_take ht)).2) hr
      obtain ⟨t0, t1, t2, t3, t4, t5, rfl⟩ := len6 ts (by omega)
      obtain ⟨x, y, z, v, rfl⟩ := len4 l (by rw [el]; rfl)
      simp at e
      obtain ⟨rfl, rfl, rfl, rfl⟩ := e
      exact ⟨h1, (h2 t4 (by simp)).2, (h2 t5 (by simp)).2⟩
theorem putF_texts {x : Eff} (h : mayF x = true) : ∀ t ∈ [num x.1, num x.2.1, num x.2.2.2.1, num x.2.2.2.2.1, x.2.2.1, x.2.2.2.2.2], t.length ≤ 64 := by
  have hb := mayF_bd h
  have hn : ∀ y, (num y).length ≤ 64 := fun y => by rw [num_len]; have := nb_le y; omega
  simp only [List.mem_cons, List.not_mem_nil, or_false]
  rintro t (rfl | rfl | rfl | rfl | rfl | rfl)
  · exact hn _
  · exact hn _
  · exact hn _
  · exact hn _
  · omega
  · omega
theorem rdF_put {x : Eff} (h : mayF x = true) : rdF (putF x) = some x := by
  have hb := mayF_bd h
  unfold rdF putF
  rw [gpk_pack _ 6 6 (by simp) (fun t ht => by have := putF_texts h t ht; omega) (by simp) (by simp)]
  simp only [List.take]
  have e := rdAll_nums [x.1, x.2.1, x.2.2.2.1, x.2.2.2.2.1] (by simp; omega)
  simp only [List.map_cons, List.map_nil] at e
  rw [e]
  rfl
theorem rdFs_some : ∀ {ts : List (List Int)} (_ : ∀ t ∈ ts, By t) {l : List Eff} (_ : rdFs ts = some l), l.map putF = ts ∧ ∀ x ∈ l, ByF x
  | [], _, l, h => by
    simp [rdFs] at h
    subst h
    exact ⟨rfl, fun x hx => by cases hx⟩
  | t :: r, hby, l, h => by
    unfold rdFs at h
    rcases hf : rdF t with _ | x
    · rw [hf] at h; cases h
    · rw [hf] at h
      simp only [Option.map_eq_some_iff] at h
      obtain ⟨l', hl', rfl⟩ := h
      obtain ⟨i1, i2⟩ := rdFs_some (fun u hu => hby u (by simp [hu])) hl'
      obtain ⟨g1, g2⟩ := rdF_some (hby t (by simp)) hf
      refine ⟨by rw [List.map_cons, g1, i1], fun y hy => ?_⟩
      rcases List.mem_cons.1 hy with rfl | hy
      · exact g2
      · exact i2 y hy
theorem rdFs_put : ∀ (l : List Eff) (_ : ∀ x ∈ l, mayF x = true), rdFs (l.map putF) = some l
  | [], _ => rfl
  | x :: r, h => by
    simp only [List.map_cons, rdFs, rdF_put (h x (by simp)), rdFs_put r (fun y hy => h y (by simp [hy])), Option.map_some]
theorem rdW_some {t : List Int} (ht : By t) {c : List Int} (h : rdW t = some c) : putC c = t ∧ mayC c = true ∧ pln c = c := by
  unfold rdW at h
  rcases hr : rdC t with _ | ⟨c', m⟩
  · rw [hr] at h; cases h
  · rw [hr] at h
    simp only [] at h
    split at h
    · rename_i hm
      cases h
      have hf := rf_rd ht
      rw [hr] at hf
      have hd := hr
      unfold rdC at hd
      rcases hu : unpack t 5 with _ | ⟨ts, k⟩
      · rw [hu] at hd; cases hd
      · rw [hu] at hd
        simp only [] at hd
        obtain ⟨_, _, hp, hts⟩ := unpack_some ht hu
        have h5 := unpack_le ht hu
        rcases ha : rdAll ts with _ | c2
        · rw [ha] at hd; cases hd
        · rw [ha] at hd
          simp only [] at hd
          split at hd
          · rename_i hpl
            cases hd
            obtain ⟨e1, e2, e3⟩ := rdAll_is (fun t ht => (hts t ht).2) ha
            have hmay : mayC c = true := mayC_iff.2 ⟨by omega, e3⟩
            refine ⟨?_, hmay, hpl⟩
            rw [putC_of hmay hpl, ← e1, hp, hm, List.take_length]
          · cases hd
    · cases h
theorem rdW_put {c : List Int} (hm : mayC c = true) (hp : pln c = c) : rdW (putC c) = some c := by
  unfold rdW
  have e := rd_put c []
  rw [List.append_nil, pln_vec c hm, hp] at e
  rw [e]
  simp
theorem putD2_len (d : Dot) : (putD2 d).length ≤ 64 := by
  unfold putD2 pack
  have h1 := nb_le d.1
  have h2 := nb_le d.2
  simp [text, num_len]
  have e1 := nb_le (2 : Int)
  have e2 := nb_le ((nb d.1 : Int) + 1)
  have e3 := nb_le ((nb d.2 : Int) + 1)
  omega
theorem flat_len (B : Nat) : ∀ (l : List (List Int)) (_ : ∀ t ∈ l, t.length ≤ B), (l.flatMap text).length ≤ l.length * (B + 9)
  | [], _ => by simp
  | t :: r, h => by
    have i := flat_len B r (fun u hu => h u (by simp [hu]))
    have j := h t (by simp)
    have e : (text t).length ≤ t.length + 9 := by unfold text; rw [List.length_append, num_len]; have := nb_le (t.length : Int); omega
    rw [List.flatMap_cons, List.length_append, List.length_cons, Nat.succ_mul]
    omega
theorem pack_len (B : Nat) (l : List (List Int)) (h : ∀ t ∈ l, t.length ≤ B) : (pack l).length ≤ l.length * (B + 9) + 9 := by
  unfold pack
  have := flat_len B l h
  rw [List.length_append, num_len]
  have := nb_le (l.length : Int)
  omega
theorem putC_len (c : List Int) : (putC c).length ≤ 200 := by
  unfold putC
  have h := pack_len 9 ((pln (vec c)).map num) (by intro t ht; obtain ⟨x, _, rfl⟩ := List.mem_map.1 ht; rw [num_len]; have := nb_le x; omega)
  have h2 : (pln (vec c)).length ≤ 5 := by rw [pln_length]; have := plen_le (vec c); rw [vec_len] at this; exact this
  rw [List.length_map] at h
  omega
theorem putF_len {x : Eff} (h : mayF x = true) : (putF x).length ≤ 500 := by
  have := pack_len 64 _ (putF_texts h)
  simp at this
  unfold putF
  omega
theorem putE_texts {e : Evt} (h : mayE e = true) : ∀ t ∈ putD2 e.1 :: putC e.2.1 :: e.2.2.map putF, t.length ≤ 500 := by
  obtain ⟨_, _, h3⟩ := mayE_iff.1 h
  intro t ht
  rcases List.mem_cons.1 ht with rfl | ht
  · have := putD2_len e.1; omega
  · rcases List.mem_cons.1 ht with rfl | ht
    · have := putC_len e.2.1; omega
    · obtain ⟨x, hx, rfl⟩ := List.mem_map.1 ht
      exact putF_len (h3 x hx)
theorem putE_count {e : Evt} (h : mayE e = true) : 3 ≤ (putD2 e.1 :: putC e.2.1 :: e.2.2.map putF).length ∧ (putD2 e.1 :: putC e.2.1 :: e.2.2.map putF).length ≤ 18 := by
  obtain ⟨_, h2, _⟩ := mayE_iff.1 h
  simp
  omega
theorem pack_by {l : List (List Int)} (h : ∀ t ∈ l, By t) : By (pack l) := (num_by _).append (By.flat fun t ht => text_by (h t ht))
theorem putF_by {x : Eff} (h : ByF x) : By (putF x) := by
  refine pack_by ?_
  simp only [List.mem_cons, List.not_mem_nil, or_false]
  rintro t (rfl | rfl | rfl | rfl | rfl | rfl)
  · exact num_by _
  · exact num_by _
  · exact num_by _
  · exact num_by _
  · exact h.1
  · exact h.2
theorem putD2_by (d : Dot) : By (putD2 d) := by
  refine pack_by ?_
  simp only [List.mem_cons, List.not_mem_nil, or_false]
  rintro t (rfl | rfl) <;> exact num_by _
theorem putC_by' (c : List Int) : By (putC c) := pack_by fun t ht => by obtain ⟨x, _, rfl⟩ := List.mem_map.1 ht; exact num_by x
/-- What is got is put so. -/
theorem rdE_some {b : List Int} (hb : By b) {e : Evt} (h : rdE b = some e) : mayE e = true ∧ putE e = b ∧ ∀ x ∈ e.2.2, ByF x := by
  unfold rdE at h
  rcases hg : gpk b 3 18 with _ | ts
  · rw [hg] at h; cases h
  · rw [hg] at h
    simp only [] at h
    obtain ⟨h1, h2, h3, h4⟩ := gpk_some hb hg
    rcases ts with _ | ⟨t0, _ | ⟨t1, r⟩⟩
    · simp at h3
    · simp at h3
    · unfold rdP at h
      simp only [List.getD_cons_zero, List.getD_cons_succ, List.drop_succ_cons, List.drop_zero] at h
      rcases hd : rdD t0 with _ | d
      · rw [hd] at h; cases h
      · rw [hd] at h
        rcases hw : rdW t1 with _ | c
        · rw [hw] at h; cases h
        · rw [hw] at h
          rcases hf : rdFs r with _ | l
          · rw [hf] at h; cases h
          · rw [hf] at h
            simp only [] at h
            split at h
            · rename_i hm
              cases h
              have q1 := rdD_some (h2 t0 (by simp)).2 hd
              have q2 := rdW_some (h2 t1 (by simp)).2 hw
              have q3 := rdFs_some (fun t ht => (h2 t (by simp [ht])).2) hf
              refine ⟨hm, ?_, q3.2⟩
              unfold putE
              rw [q1, q2.1, q3.1, h1]
            · cases h
/-- What is put is got. -/
theorem rdE_put {e : Evt} (h : mayE e = true) : rdE (putE e) = some e := by
  obtain ⟨h1, h2, h3⟩ := mayE_iff.1 h
  obtain ⟨k1, k2, k3⟩ := headB_iff.1 h1
  have hc := putE_count h
  unfold rdE putE
  rw [gpk_pack _ 3 18 (by omega) (fun t ht => by have := putE_texts h t ht; omega) hc.1 (by omega)]
  unfold rdP
  simp only [List.getD_cons_zero, List.getD_cons_succ, List.drop_succ_cons, List.drop_zero]
  rw [rdD_put _ k1, rdW_put k2.1 k2.2, rdFs_put _ h3]
  simp only []
  rw [if_pos h]

/-! The document's reading. -/
def rfD (b : List Int) : Option Dot := match unpack b 2 with
  | none => none
  | some (ts, _) => if ts.length = 2 then (match rdAll ts with
    | none => none
    | some l => some (l.getD 0 0, l.getD 1 0)) else none
def rfF (b : List Int) : Option Eff := match unpack b 6 with
  | none => none
  | some (ts, _) => if ts.length = 6 then (match rdAll (ts.take 4) with
    | none => none
    | some l => some (l.getD 0 0, l.getD 1 0, ts.getD 4 [], l.getD 2 0, l.getD 3 0, ts.getD 5 [])) else none
def rfFs : List (List Int) → Option (List Eff)
  | [] => some []
  | t :: r => match rfF t with
    | none => none
    | some x => (rfFs r).map (x :: ·)
/-- The clock that a text begins with, or nothing. -/
def rfP (t : List Int) : List Int := match rfC t with
  | none => []
  | some (c, _) => c
def rfE (b : List Int) : Option Evt := match unpack b 18 with
  | none => none
  | some (ts, _) => if ts.length < 3 then none else match rfD (ts.getD 0 []) with
    | none => none
    | some d => match rfFs (ts.drop 2) with
      | none => none
      | some l => if mayE (d, rfP (ts.getD 1 []), l) = true ∧ putE (d, rfP (ts.getD 1 []), l) = b then some (d, rfP (ts.getD 1 []), l) else none
theorem unpack_put (l : List (List Int)) (most : Int) (hn : l.length ≤ 1000) (hl : ∀ t ∈ l, t.length ≤ 65536) (h2 : (l.length : Int) ≤ most) : unpack (pack l) most = some (l, (pack l).length) := by
  have e := unpack_pack l (by omega) hl [] most h2
  rwa [List.append_nil] at e
theorem rfD_put (d : Dot) (h : mayD d = true) : rfD (putD2 d) = some d := by
  have hd := mayD_iff.1 h
  unfold rfD putD2
  rw [unpack_put _ 2 (by simp) (by simp only [List.mem_cons, List.not_mem_nil, or_false]; rintro t (rfl | rfl) <;> exact num_short _) (by simp)]
  simp only []
  have e := rdAll_nums [d.1, d.2] (by simp; omega)
  simp only [List.map_cons, List.map_nil] at e
  rw [e]
  rfl
theorem rfF_put {x : Eff} (h : mayF x = true) : rfF (putF x) = some x := by
  have hb := mayF_bd h
  unfold rfF putF
  rw [unpack_put _ 6 (by simp) (fun t ht => by have := putF_texts h t ht; omega) (by simp)]
  simp only [List.take]
  have e := rdAll_nums [x.1, x.2.1, x.2.2.2.1, x.2.2.2.2.1] (by simp; omega)
  simp only [List.map_cons, List.map_nil] at e
  rw [e]
  rfl
theorem rfFs_put : ∀ (l : List Eff) (_ : ∀ x ∈ l, mayF x = true), rfFs (l.map putF) = some l
  | [], _ => rfl
  | x :: r, h => by
    simp only [List.map_cons, rfFs, rfF_put (h x (by simp)), rfFs_put r (fun y hy => h y (by simp [hy])), Option.map_some]
theorem rfP_put {c : List Int} (hm : mayC c = true) (hp : pln c = c) : rfP (putC c) = c := by
  unfold rfP
  have e := rd_put c []
  rw [List.append_nil, pln_vec c hm, hp] at e
  rw [rf_rd (putC_by' c), e]
theorem rfE_put {e : Evt} (h : mayE e = true) : rfE (putE e) = some e := by
  obtain ⟨h1, h2, h3⟩ := mayE_iff.1 h
  obtain ⟨k1, k2, k3⟩ := headB_iff.1 h1
  have hc := putE_count h
  have hu : unpack (putE e) 18 = some (putD2 e.1 :: putC e.2.1 :: e.2.2.map putF, (putE e).length) := unpack_put _ 18 (by omega) (fun t ht => by have := putE_texts h t ht; omega) (by omega)
  unfold rfE
  rw [hu]
  simp only []
  rw [if_neg (by omega)]
  simp only [List.getD_cons_zero, List.getD_cons_succ, List.drop_succ_cons, List.drop_zero]
  rw [rfD_put _ k1, rfFs_put _ h3, rfP_put k2.1 k2.2]
  simp [h]
/-- The document's reading is the program's. -/
theorem rf_rdE {b : List Int} (hb : By b) : rfE b = rdE b := by
  rcases hr : rdE b with _ | e
  · rcases hf : rfE b with _ | e
    · rfl
    · exfalso
      unfold rfE at hf
      split at hf
      · cases hf
      · split at hf
        · cases hf
        · split at hf
          · cases hf
          · split at hf
            · cases hf
            · split at hf
              · rename_i hc
                cases hf
                have q := rdE_put hc.1
                rw [hc.2, hr] at q
                cases q
              · cases hf
  · obtain ⟨h1, h2, _⟩ := rdE_some hb hr
    rw [← h2]
    exact rfE_put h1
end Go.Proofs.Ytooggheoaglbeaa

/- What 'Order' and 'Meet' do. -/
namespace Go.Proofs.Ytooggheoaglbeaa
open Go.RowKit
set_option linter.unusedVariables false

theorem Two.made (x0 x1 x2 x3 x4 y0 y1 y2 y3 y4 : Int) (w0 w : World) (hb : Below w0.heap.size w0 w) : Two w.heap.size x0 x1 x2 x3 x4 y0 y1 y2 y3 y4 w0 ((w.alloc (.cells #[.int .i64 x0, .int .i64 x1, .int .i64 x2, .int .i64 x3, .int .i64 x4] 88)).alloc (.cells #[.int .i64 y0, .int .i64 y1, .int .i64 y2, .int .i64 y3, .int .i64 y4] 88)) := by
  refine ⟨?_, ?_, ?_, ?_, ?_, ?_, ?_, ?_, ?_, ?_, (hb.alloc hb.size _).alloc (by simp; have := hb.size; omega) _⟩
  all_goals first | (rw [World.cell?_alloc_mark]; rfl) | (simp; done)

theorem mn_eq2 (x y : Int) : (if y < x then y else x) = min x y := by rw [mn_eq]; omega
theorem eq_of_wth {c d : List Int} (h1 : wth c d) (h2 : wth d c) : at5 c 0 = at5 d 0 ∧ at5 c 1 = at5 d 1 ∧ at5 c 2 = at5 d 2 ∧ at5 c 3 = at5 d 3 ∧ at5 c 4 = at5 d 4 := by
  unfold wth at h1 h2; omega
theorem wth_of_eq {c d : List Int} (h : at5 c 0 = at5 d 0 ∧ at5 c 1 = at5 d 1 ∧ at5 c 2 = at5 d 2 ∧ at5 c 3 = at5 d 3 ∧ at5 c 4 = at5 d 4) : wth c d ∧ wth d c := by
  unfold wth; omega

/-- What is met behind 'k' rounds. -/
def mw (k : Nat) (x0 x1 x2 x3 x4 y0 y1 y2 y3 y4 : Int) : Array Value :=
  match k with
  | 0 => #[.int .i64 x0, .int .i64 x1, .int .i64 x2, .int .i64 x3, .int .i64 x4]
  | 1 => #[.int .i64 (min x0 y0), .int .i64 x1, .int .i64 x2, .int .i64 x3, .int .i64 x4]
  | 2 => #[.int .i64 (min x0 y0), .int .i64 (min x1 y1), .int .i64 x2, .int .i64 x3, .int .i64 x4]
  | 3 => #[.int .i64 (min x0 y0), .int .i64 (min x1 y1), .int .i64 (min x2 y2), .int .i64 x3, .int .i64 x4]
  | 4 => #[.int .i64 (min x0 y0), .int .i64 (min x1 y1), .int .i64 (min x2 y2), .int .i64 (min x3 y3), .int .i64 x4]
  | _ => #[.int .i64 (min x0 y0), .int .i64 (min x1 y1), .int .i64 (min x2 y2), .int .i64 (min x3 y3), .int .i64 (min x4 y4)]

end Go.Proofs.Ytooggheoaglbeaa

/- What 'Join' does, of any clocks. -/
namespace Go.Proofs.Ytooggheoaglbeaa
open Go.RowKit
set_option linter.unusedVariables false

/-- Of one replica the greatest number. -/
def jAt (cs : List (List Int)) (i : Nat) : Int := cs.foldl (fun m c => max m (at5 c i)) 0
theorem jAt_step (cs : List (List Int)) (k i : Nat) (hk : k < cs.length) : jAt (cs.take (k + 1)) i = max (jAt (cs.take k) i) (at5 (cs.getD k []) i) := by
  unfold jAt
  rw [List.take_add_one, List.foldl_append]
  simp [List.getD_eq_getElem?_getD, List.getElem?_eq_getElem hk]

/-- A slice of clocks. -/
def CS (w : World) (a : Option Addr) (n : Nat) (cs : List (List Int)) : Prop :=
  cs.length = n ∧ n ≤ maxLen ∧ (n = 0 ∨ ∃ b off, a = some ⟨b, off, none⟩ ∧ ∀ i, i < n → ∃ x len cap, w.cell? ⟨b, off + i, none⟩ = some (.slice x len cap) ∧ NS w x len (cs.getD i []))

/-- An array lies in a block of its own, and what was there at the beginning lies there still. -/
def Row5 (g : Nat) (x0 x1 x2 x3 x4 : Int) (W0 W : World) : Prop := W.heap[g]? = some (.cells #[.int .i64 x0, .int .i64 x1, .int .i64 x2, .int .i64 x3, .int .i64 x4] 88 (0, 0)) ∧ W.cell? ⟨g, 0, none⟩ = some (.int .i64 x0) ∧ W.cell? ⟨g, 1, none⟩ = some (.int .i64 x1) ∧ W.cell? ⟨g, 2, none⟩ = some (.int .i64 x2) ∧ W.cell? ⟨g, 3, none⟩ = some (.int .i64 x3) ∧ W.cell? ⟨g, 4, none⟩ = some (.int .i64 x4) ∧ W.frozen? ⟨g, 0, none⟩ = false ∧ W.frozen? ⟨g, 1, none⟩ = false ∧ W.frozen? ⟨g, 2, none⟩ = false ∧ W.frozen? ⟨g, 3, none⟩ = false ∧ W.frozen? ⟨g, 4, none⟩ = false ∧ Hid (Below W0.heap.size W0 W)
theorem Row5.of {g : Nat} {x0 x1 x2 x3 x4 : Int} {W0 W : World} (h : W.heap[g]? = some (.cells #[.int .i64 x0, .int .i64 x1, .int .i64 x2, .int .i64 x3, .int .i64 x4] 88 (0, 0))) (hb : Below W0.heap.size W0 W) : Row5 g x0 x1 x2 x3 x4 W0 W := by
  refine ⟨h, ?_, ?_, ?_, ?_, ?_, ?_, ?_, ?_, ?_, ?_, hb⟩ <;> first | (rw [cell_of_row W _ _ _ _ _ h]; rfl) | (simp [World.frozen?, h]; done)
theorem Row5.bel {g : Nat} {x0 x1 x2 x3 x4 : Int} {W0 W : World} (h : Row5 g x0 x1 x2 x3 x4 W0 W) : Below W0.heap.size W0 W := h.2.2.2.2.2.2.2.2.2.2.2.out
theorem Row5.next {g : Nat} {x0 x1 x2 x3 x4 : Int} {W0 W w' : World} (h : Row5 g x0 x1 x2 x3 x4 W0 W) (hb : Below W.heap.size W w') : Row5 g x0 x1 x2 x3 x4 W0 w' :=
  Row5.of (by rw [hb.block g (Array.getElem?_eq_some_iff.1 h.1).1]; exact h.1) (bel_next h.bel hb)
theorem Row5.drew {g : Nat} {x0 x1 x2 x3 x4 : Int} {W0 W : World} (h : Row5 g x0 x1 x2 x3 x4 W0 W) : Row5 g x0 x1 x2 x3 x4 W0 W.drew := Row5.of h.1 h.bel.drew

theorem set1 {W0 W : World} {B g : Nat} {cur : Array Value} {t : TypeId} (hg : W.heap[g]? = some (.cells cur t (0, 0))) (hb : Below B W0 W) (hB : B ≤ g) (i : Nat) (v : Value) :
    (W.setCell ⟨g, i, none⟩ v).heap[g]? = some (.cells (cur.setIfInBounds i v) t (0, 0)) ∧ Below B W0 (W.setCell ⟨g, i, none⟩ v) := by
  refine ⟨?_, hb.setCell hB _⟩
  simp [World.setCell, Array.getElem?_modify, hg]
theorem set5 {W0 W : World} {g : Nat} {x0 x1 x2 x3 x4 : Int} (h : Row5 g x0 x1 x2 x3 x4 W0 W) (hB : W0.heap.size ≤ g) (z0 z1 z2 z3 z4 : Int) :
    ((World.setCell (World.setCell (World.setCell (World.setCell (World.setCell W ⟨g, 0, none⟩ (.int .i64 z0)) ⟨g, 1, none⟩ (.int .i64 z1)) ⟨g, 2, none⟩ (.int .i64 z2)) ⟨g, 3, none⟩ (.int .i64 z3)) ⟨g, 4, none⟩ (.int .i64 z4))).heap[g]? = some (.cells #[.int .i64 z0, .int .i64 z1, .int .i64 z2, .int .i64 z3, .int .i64 z4] 88 (0, 0)) ∧ Below W0.heap.size W0 (World.setCell (World.setCell (World.setCell (World.setCell (World.setCell W ⟨g, 0, none⟩ (.int .i64 z0)) ⟨g, 1, none⟩ (.int .i64 z1)) ⟨g, 2, none⟩ (.int .i64 z2)) ⟨g, 3, none⟩ (.int .i64 z3)) ⟨g, 4, none⟩ (.int .i64 z4)) := by
  have a0 := set1 h.1 h.bel hB 0 (.int .i64 z0)
  have a1 := set1 a0.1 a0.2 hB 1 (.int .i64 z1)
  have a2 := set1 a1.1 a1.2 hB 2 (.int .i64 z2)
  have a3 := set1 a2.1 a2.2 hB 3 (.int .i64 z3)
  have a4 := set1 a3.1 a3.2 hB 4 (.int .i64 z4)
  exact ⟨by rw [a4.1]; simp, a4.2⟩

end Go.Proofs.Ytooggheoaglbeaa

/- What the document's 'Plain', 'Set', 'Join', 'Meet', 'Within', 'Order' and 'Sum' do. -/
namespace Go.Proofs.Ytooggheoaglbeaa
open Go.RowKit
set_option linter.unusedVariables false

def lenV : Value → Nat
  | .slice _ n _ => n
  | _ => 0

/-- 'append(v, x)', 'v' numbers of the call's own. -/
theorem append_one {w : World} {ops : Array Oper} {rest : List Oper} {o : Oper} {a : Act} {Q : Exit → Act → World → Prop} (hgd : o.guard = none) (s x : Operand)
    (ho : o.op = .call { callee := .builtin .append, args := #[s, x], argTypes := #[25, 25] })
    (N : Nat) (v : Value) (l : List Int) (y : Int) (g : Nat) (hg : g = w.heap.size) (hs : a.eval s = v) (hown : OwnN N w v l) (hx : a.eval x = .slice (some ⟨g, 0, none⟩) 1 1)
    (hbig : l.length ≤ 1000000) (hN : N ≤ w.heap.size)
    (h : ∀ v' w', OwnN N w' v' (l ++ [y]) → (∀ w0, Below N w0 w → Below N w0 w') → wpList Try.prog ops Q rest (a.put o.dst v') w') : wpList Try.prog ops Q (o :: rest) a (w.alloc (.cells #[.int .i64 y] 3)) := by
  refine append_nums hgd s x 25 Try.underlying25 ho N v l [y] hs (hown.alloc _) ⟨g, 0, none⟩ 1 1 hx (NS.one w g hg y) (by simp; omega) (by simp; omega) ?_
  intro v' w' h1 _ h2
  exact h v' w' h1 (fun w0 hb => h2 w0 (hb.alloc hN _))

theorem vec_take (c : List Int) (k : Nat) (hk : k < 5) : (vec c).take (k + 1) = (vec c).take k ++ [at5 c k] := by
  rw [List.take_add_one]
  have e : (vec c)[k]? = some (at5 c k) := by
    rw [← vec_getD c k hk]
    simp [List.getD_eq_getElem?_getD, List.getElem?_eq_getElem (show k < (vec c).length by simp [vec_len]; omega)]
  rw [e]; rfl

set_option maxHeartbeats 2000000 in
theorem plain_ref (a : Option Addr) (n cap : Nat) (c : List Int) (w : World) (hN : NS w a n c) :
    Calls Try.prog 40 #[.slice a n cap] w fun e w' => ∃ v, e = .returned v ∧ OwnN w.heap.size w' v (pln (vec c)) ∧ Below w.heap.size w w' := by
  have HN := hide hN
  clear hN
  go_enter Try.func40, Try.ntmps40
  go_wp2
  go_loopw [3, 4] (fun v i wr => ∃ k : Nat, k ≤ 5 ∧ i = .int .i64 (k + 1) ∧ Hid (OwnN w.heap.size wr v (pln ((vec c).take k))) ∧ Hid (Below w.heap.size w wr)) (fun _ i _ => 6 - (intOf i).toNat)
  case atStart => exact ⟨0, by omega, rfl, OwnN.made _ _ _ rfl (Nat.le_refl _), bel1 _ _⟩
  case round =>
    obtain ⟨k, hk, rfl, hO, hB⟩ := hrel
    by_cases hlt : k < 5
    · have hle : ((k : Int) + 1 ≤ 5) := by omega
      have HG := hide (get_ref a n cap c (k + 1) wr (HN.out.below hB.out) k rfl)
      have hbd := at5_bd c k
      have HV := hide (vec_take c k hlt)
      by_cases hz : at5 c k > 0
      · have HL : Hid (((vec c).take k).length = k) := by unfold Hid; rw [List.length_take, vec_len]; omega
        have hp : Hid (pln ((vec c).take (k + 1)) = (vec c).take k ++ [at5 c k]) := by unfold Hid; rw [HV.out]; exact pln_snoc (by omega) _
        have HP := hide (pln_pad ((vec c).take k))
        rw [HL.out] at HP
        generalize (vec c).take k = L at *
        obtain ⟨x, hx0⟩ : ∃ x, x = at5 c k := ⟨_, rfl⟩
        have hx := hide hx0
        rw [← hx0] at HG hbd hz hp
        clear hx0
        clear HV
        go_wp2_with (go_at_call 41; refine HG.out.mono ?_; rintro e w' ⟨rfl, rfl⟩)
        go_loopw [3] (fun v wr' => ∃ j : Nat, (pln L).length + j ≤ k ∧ Hid (OwnN w.heap.size wr' v (pln L ++ List.replicate j 0)) ∧ Hid (Below w.heap.size w wr')) (fun v _ => k - lenV v)
        case atStart => exact ⟨0, by rw [pln_length]; have := plen_le L; have := HL.out; omega, by unfold Hid; simpa using hO.out, hB⟩
        case round =>
          clear hO hB
          obtain ⟨j, hj, hO2, hB2⟩ := hrel
          obtain ⟨p, cp, hv, _, _⟩ := hO2.out.open
          have hlen : (pln L ++ List.replicate j 0).length = (pln L).length + j := by simp
          obtain ⟨m, hm⟩ : ∃ m, m = (pln L).length + j := ⟨_, rfl⟩
          rw [hlen, ← hm] at hv
          rw [← hm] at hj
          subst hv
          have hsz := hB2.out.size
          have hw : ((k : Int) + 1 - 1) = k := by omega
          by_cases hmk : m < k
          · have hmk' : (m : Int) < k := by omega
            have HM := hide hm
            clear hm hlen
            go_wp2_with (at_builtin; refine Stop.at ?_)
            unfold Stop
            refine append_one rfl _ _ rfl w.heap.size (.slice p m cp) (pln L ++ List.replicate j 0) 0 _ rfl rfl hO2.out rfl (by simp; have := HM.out; omega) hsz ?_
            intro v' w' h1 h2
            have HO3 := hide h1
            have HB3 := hide (h2 _ hB2.out)
            have hlv : lenV v' = m + 1 := by obtain ⟨p', c', rfl, _, _⟩ := h1.open; simp [lenV]; have := HM.out; omega
            clear h1 h2 hO2 hB2
            go_wp2
            go_roundw
            case rel => exact ⟨j + 1, by have := HM.out; omega, by unfold Hid; rw [List.replicate_succ', ← List.append_assoc]; exact HO3.out, HB3⟩
            case measure => rw [hlv]; simp [lenV]; omega
          · have hmk' : ¬ (m : Int) < k := by omega
            have hE : Hid (OwnN w.heap.size wr (.slice p m cp) L) := by
              have h1 := hO2.out
              have h2 : j = k - (pln L).length := by omega
              rw [h2, HP.out] at h1
              exact h1
            have HM : Hid (L.length = k) := HL
            have HG2 := hide (get_ref a n cap c (k + 1) wr (HN.out.below hB2.out) k rfl)
            clear hm hlen hO2
            rw [← hx.out] at HG2
            go_wp2_with (first
              | (go_at_call 41; refine HG2.out.mono ?_; rintro e w' ⟨rfl, rfl⟩)
              | (at_builtin; refine Stop.at ?_))
            unfold Stop
            refine append_one rfl _ _ rfl w.heap.size (.slice p m cp) L x _ rfl rfl hE.out rfl (by rw [HM.out]; omega) hsz ?_
            intro v' w' h1 h2
            have HO3 := hide h1
            have HB3 := hide (h2 _ hB2.out)
            clear h1 h2 hE hB2
            go_wp2
            go_roundw
            case rel => exact ⟨k + 1, by omega, by go_num, by unfold Hid; rw [hp.out]; exact HO3.out, HB3⟩
            case measure => simp [intOf]; omega
      · have hz0 : at5 c k = 0 := by omega
        have hp : Hid (pln ((vec c).take (k + 1)) = pln ((vec c).take k)) := by unfold Hid; rw [HV.out, hz0]; exact pln_zero _
        rw [hz0] at HG
        clear hz hbd HV hz0
        go_wp2_with (go_at_call 41; refine HG.out.mono ?_; rintro e w' ⟨rfl, rfl⟩)
        go_roundw
        case rel => exact ⟨k + 1, by omega, by go_num, by unfold Hid; rw [hp.out]; exact hO.out, hB⟩
        case measure => simp [intOf]; omega
    · have hkl : k = 5 := by omega
      subst hkl
      go_wp2
      go_ret
      exact ⟨_, rfl, hO.out, hB.out⟩
end Go.Proofs.Ytooggheoaglbeaa

/- What the document's 'Within', 'Order', 'Sum', 'Set', 'Join' and 'Meet' do. -/
namespace Go.Proofs.Ytooggheoaglbeaa
open Go.RowKit
set_option linter.unusedVariables false

theorem wth_all (c d : List Int) : wth c d ↔ ∀ i, i < 5 → at5 c i ≤ at5 d i := by
  constructor
  · intro h i hi
    unfold wth at h
    have h5 : i = 0 ∨ i = 1 ∨ i = 2 ∨ i = 3 ∨ i = 4 := by omega
    rcases h5 with rfl | rfl | rfl | rfl | rfl <;> omega
  · intro h
    exact ⟨h 0 (by omega), h 1 (by omega), h 2 (by omega), h 3 (by omega), h 4 (by omega)⟩
def wthFrom (c d : List Int) (k : Nat) : Prop := ∀ i, k ≤ i → i < 5 → at5 c i ≤ at5 d i
theorem wthFrom_step {c d : List Int} {k : Nat} (hk : k < 5) : wthFrom c d k ↔ at5 c k ≤ at5 d k ∧ wthFrom c d (k + 1) := by
  constructor
  · intro h
    exact ⟨h k (Nat.le_refl _) hk, fun i h1 h2 => h i (by omega) h2⟩
  · rintro ⟨h0, h⟩ i h1 h2
    by_cases hi : i = k
    · subst hi; exact h0
    · exact h i (by omega) h2

set_option maxHeartbeats 1000000 in
theorem within_ref (a b : Option Addr) (n cap m cap' : Nat) (c d : List Int) (w : World) (hN : NS w a n c) (hM : NS w b m d) :
    Calls Try.prog 29 #[.slice a n cap, .slice b m cap'] w fun e w' => e = .returned (.bool (decide (wth c d))) ∧ w' = w := by
  obtain ⟨bb, hbb⟩ : ∃ bb, bb = decide (wth c d) := ⟨_, rfl⟩
  rw [← hbb]
  have HBB := hide hbb
  clear hbb
  have HN := hide hN
  have HM := hide hM
  clear hN hM
  have H0 : Hid (wth c d ↔ wthFrom c d 0) := by unfold Hid wthFrom; rw [wth_all]; simp
  go_enter Try.func29, Try.ntmps29
  go_wp2
  go_loop [5] (fun i => ∃ k : Nat, k ≤ 5 ∧ i = .int .i64 (k + 1) ∧ Hid (wth c d ↔ wthFrom c d k)) (fun i => 6 - (intOf i).toNat)
  case atStart => exact ⟨0, by omega, rfl, H0⟩
  case round =>
    clear H0
    obtain ⟨k, hk, rfl, hH⟩ := hrel
    by_cases hlt : k < 5
    · have hle : ((k : Int) + 1 ≤ 5) := by omega
      have hst : Hid (wth c d ↔ at5 c k ≤ at5 d k ∧ wthFrom c d (k + 1)) := by have h := hH.out; rw [wthFrom_step hlt] at h; exact h
      have HG := hide (get_ref a n cap c (k + 1) w HN.out k rfl)
      have HK := hide (get_ref b m cap' d (k + 1) w HM.out k rfl)
      generalize at5 c k = x at *
      generalize at5 d k = y at *
      clear hH
      by_cases hxy : x > y
      · have HE : Hid (false = bb) := by unfold Hid; rw [HBB.out]; symm; rw [decide_eq_false_iff_not, hst.out]; omega
        go_wp2_with (first
          | (go_at_call_of 41 a; refine HG.out.mono ?_; rintro e w' ⟨rfl, rfl⟩)
          | (go_at_call 41; refine HK.out.mono ?_; rintro e w' ⟨rfl, rfl⟩))
        go_ret
        exact ⟨retB HE.out, rfl⟩
      · have hst2 : Hid (wth c d ↔ wthFrom c d (k + 1)) := by unfold Hid; rw [hst.out]; constructor <;> intro h <;> first | exact h.2 | exact ⟨by omega, h⟩
        go_wp2_with (first
          | (go_at_call_of 41 a; refine HG.out.mono ?_; rintro e w' ⟨rfl, rfl⟩)
          | (go_at_call 41; refine HK.out.mono ?_; rintro e w' ⟨rfl, rfl⟩))
        go_round
        case rel => exact ⟨k + 1, by omega, by go_num, hst2⟩
        case measure => simp [intOf]; omega
    · have hkl : k = 5 := by omega
      subst hkl
      have HE : Hid (true = bb) := by unfold Hid; rw [HBB.out]; symm; rw [decide_eq_true_iff, hH.out]; intro i h1 h2; omega
      clear hH
      go_wp2
      go_ret
      exact ⟨retB HE.out, rfl⟩

set_option maxHeartbeats 1000000 in
theorem sum_ref (a : Option Addr) (n cap : Nat) (c : List Int) (w : World) (hN : NS w a n c) :
    Calls Try.prog 21 #[.slice a n cap] w fun e w' => e = .returned (.int .i64 (sumL c)) ∧ w' = w := by
  have b0 := at5_bd c 0
  have G0 := hide (get_ref a n cap c 1 w hN 0 rfl)
  have b1 := at5_bd c 1
  have G1 := hide (get_ref a n cap c 2 w hN 1 rfl)
  have b2 := at5_bd c 2
  have G2 := hide (get_ref a n cap c 3 w hN 2 rfl)
  have b3 := at5_bd c 3
  have G3 := hide (get_ref a n cap c 4 w hN 3 rfl)
  have b4 := at5_bd c 4
  have G4 := hide (get_ref a n cap c 5 w hN 4 rfl)
  have HS : Hid (at5 c 0 + at5 c 1 + at5 c 2 + at5 c 3 + at5 c 4 = sumL c) := rfl
  clear hN
  generalize at5 c 0 = x0 at *
  generalize at5 c 1 = x1 at *
  generalize at5 c 2 = x2 at *
  generalize at5 c 3 = x3 at *
  generalize at5 c 4 = x4 at *
  go_enter Try.func21, Try.ntmps21
  go_wp2
  go_loop [3, 4] (fun s i => (i = .int .i64 1 ∧ s = .int .i64 0) ∨ (i = .int .i64 2 ∧ s = .int .i64 x0) ∨ (i = .int .i64 3 ∧ s = .int .i64 (x0 + x1)) ∨ (i = .int .i64 4 ∧ s = .int .i64 (x0 + x1 + x2)) ∨ (i = .int .i64 5 ∧ s = .int .i64 (x0 + x1 + x2 + x3)) ∨ (i = .int .i64 6 ∧ s = .int .i64 (x0 + x1 + x2 + x3 + x4))) (fun _ i => 6 - (intOf i).toNat)
  case atStart => exact .inl ⟨rfl, rfl⟩
  case round =>
    rcases hrel with ⟨rfl, rfl⟩ | ⟨rfl, rfl⟩ | ⟨rfl, rfl⟩ | ⟨rfl, rfl⟩ | ⟨rfl, rfl⟩ | ⟨rfl, rfl⟩
    · go_wp2_with (go_at_call 41; refine G0.out.mono ?_; rintro e w' ⟨rfl, rfl⟩)
      go_round
      case rel => exact .inr (.inl ⟨rfl, rfl⟩)
      case measure => decide
    · go_wp2_with (go_at_call 41; refine G1.out.mono ?_; rintro e w' ⟨rfl, rfl⟩)
      go_round
      case rel => exact .inr (.inr (.inl ⟨rfl, rfl⟩))
      case measure => decide
    · go_wp2_with (go_at_call 41; refine G2.out.mono ?_; rintro e w' ⟨rfl, rfl⟩)
      go_round
      case rel => exact .inr (.inr (.inr (.inl ⟨rfl, rfl⟩)))
      case measure => decide
    · go_wp2_with (go_at_call 41; refine G3.out.mono ?_; rintro e w' ⟨rfl, rfl⟩)
      go_round
      case rel => exact .inr (.inr (.inr (.inr (.inl ⟨rfl, rfl⟩))))
      case measure => decide
    · go_wp2_with (go_at_call 41; refine G4.out.mono ?_; rintro e w' ⟨rfl, rfl⟩)
      go_round
      case rel => exact .inr (.inr (.inr (.inr (.inr (⟨rfl, rfl⟩)))))
      case measure => decide
    · go_wp2
      go_ret
      exact ⟨ret_int HS.out, rfl⟩

theorem take_snoc {L : List Int} {k : Nat} {x : Int} (hk : k < L.length) (hx : L.getD k 0 = x) : L.take (k + 1) = L.take k ++ [x] := by
  rw [List.take_add_one]
  have e : L[k]? = some x := by rw [← hx]; simp [List.getD_eq_getElem?_getD, hk]
  rw [e]; rfl

theorem joinL_getD (c d : List Int) (k : Nat) (hk : k < 5) : (joinL c d).getD k 0 = max (at5 c k) (at5 d k) := by
  rcases k with _ | _ | _ | _ | _ | k
  · rfl
  · rfl
  · rfl
  · rfl
  · rfl
  · omega
theorem meetL_getD (c d : List Int) (k : Nat) (hk : k < 5) : (meetL c d).getD k 0 = min (at5 c k) (at5 d k) := by
  rcases k with _ | _ | _ | _ | _ | k
  · rfl
  · rfl
  · rfl
  · rfl
  · rfl
  · omega
theorem setL_len (c : List Int) (r : Nat) (x : Int) : (setL c r x).length = 5 := by simp [setL, vec_len]
theorem setL_getD (c : List Int) (r k : Nat) (x : Int) (hk : k < 5) : (setL c r x).getD k 0 = if k = r then x else at5 c k := by
  unfold setL
  rw [List.getD_eq_getElem?_getD, List.getElem?_set]
  by_cases h : r = k
  · subst h; simp [vec_len, hk]
  · rw [if_neg h, if_neg (fun e => h e.symm), ← vec_getD c k hk, List.getD_eq_getElem?_getD]

end Go.Proofs.Ytooggheoaglbeaa

/- What the statements' 'awake' and 'light' do; and what a statement is told of a clock that came in. -/
namespace Go.Proofs.Ytooggheoaglbeaa
open Go.RowKit Go.ChangeShapes Go.WideShapes
set_option linter.unusedVariables false

/-- A clock that came in. -/
def InN (w : World) (v : Value) : Prop := ∃ a len cap l, v = .slice a len cap ∧ NS w a len l ∧ CP a len cap

theorem ns_of_cells {w : World} {x : Addr} {len cap : Nat} {zs : List Int} (hl : len ≤ cap) (hm : cap ≤ maxLen) (hz : zs.length = cap) (hcell : ∀ i, i < cap → w.cell? (x.add i) = some (.int .i64 (zs.getD i 0))) :
    NS w (some x) len (zs.take len) := by
  refine ⟨by rw [List.length_take]; omega, by omega, ?_⟩
  rcases Nat.eq_zero_or_pos len with h0 | hp
  · exact .inl h0
  · obtain ⟨b, off, spot⟩ := x
    have hspot : spot = none := by simpa [Addr.add] using World.cell?_spot (hcell 0 (by omega))
    subst hspot
    refine .inr ⟨b, off, rfl, fun i hi => ?_⟩
    have h1 := hcell i (by omega)
    have h2 : (zs.take len).getD i 0 = zs.getD i 0 := by simp [List.getD_eq_getElem?_getD, hi]
    rw [h2]
    by_cases hi0 : i = 0
    · subst hi0; simpa [Addr.add] using h1
    · simpa [Addr.add, hi0] using h1

set_option maxRecDepth 100000 in
theorem in_nums {H : Type} {enc : TypeId × Value → H} {W : World} {v : Value} {d : DataW H} {p : List MemPlace} {base : Nat} (hok : Value.okWide Try.prog W .any base 25 v) (h : DataW.Trod enc Try.prog W 0 (fun _ => true) true 25 v d p) (hw : ∀ n ∈ d.weights Try.prog 25, n ≤ reachBytes) : InN W v := by
  obtain ⟨a, len, cap, rfl⟩ := okWide_slice Try.underlying25 hok
  obtain ⟨fuel, hf⟩ := h
  rcases open_ints Try.underlying25 Try.underlying3 (by kernel_rfl) hf with ⟨hcs, _⟩ | ⟨x, l, c, zs, hcs, _, hl, hm, hz, hx, hcell, hwz⟩
  · simp [Value.cells] at hcs
    obtain ⟨rfl, rfl, rfl⟩ := hcs
    exact ⟨_, _, _, [], rfl, NS.nil _ _, Nat.le_refl _, by decide, fun _ => rfl⟩
  · simp [Value.cells] at hcs
    obtain ⟨rfl, rfl, rfl⟩ := hcs
    simp at hz
    simp only [Prod.mk.injEq] at hx
    obtain ⟨rfl, _⟩ := hx
    exact ⟨_, _, _, zs.take len, rfl, ns_of_cells hl hm hz (fun i hi => hcell i (by omega)), hl, hm, fun h => by cases h⟩

theorem CS.new (w : World) (g : Nat) (hg : g = w.heap.size) (qs : List (Option Addr × Nat × Nat × List Int)) (C : Array Value) (hC : C = (qs.map fun q => Value.slice q.1 q.2.1 q.2.2.1).toArray) (fr : Nat × Nat)
    (n : Nat) (hn : qs.length = n) (hmax : n ≤ maxLen) (ps : List (List Int)) (hps : ps = qs.map fun q => q.2.2.2) (hq : ∀ q ∈ qs, NS w q.1 q.2.1 q.2.2.2) :
    CS (w.alloc (.cells C 25 fr)) (some ⟨g, 0, none⟩) n ps := by
  subst hg hC hps
  refine ⟨by simpa using hn, hmax, .inr ⟨_, 0, rfl, fun i hi => ?_⟩⟩
  rw [World.cell?_alloc_mark]
  subst hn
  refine ⟨qs[i].1, qs[i].2.1, qs[i].2.2.1, by simp [hi], ?_⟩
  have := (hq qs[i] (List.getElem_mem hi)).alloc (.cells (qs.map fun q => Value.slice q.1 q.2.1 q.2.2.1).toArray 25 fr)
  simpa [List.getD_eq_getElem?_getD, hi] using this
theorem CS.two (w : World) (g : Nat) (hg : g = w.heap.size) (a b : Option Addr) (n cap m cap' : Nat) (c d : List Int) (hN : NS w a n c) (hM : NS w b m d) :
    CS (w.alloc (.cells #[.slice a n cap, .slice b m cap'] 25)) (some ⟨g, 0, none⟩) 2 [c, d] := by
  refine CS.new w g hg [(a, n, cap, c), (b, m, cap', d)] _ rfl _ 2 rfl (by decide) _ rfl ?_
  intro q hq
  simp only [List.mem_cons, List.not_mem_nil, or_false] at hq
  rcases hq with rfl | rfl
  · exact hN
  · exact hM
theorem CS.three (w : World) (g : Nat) (hg : g = w.heap.size) (a b e : Option Addr) (n cap m cap' k cap'' : Nat) (c d f : List Int) (hN : NS w a n c) (hM : NS w b m d) (hK : NS w e k f) :
    CS (w.alloc (.cells #[.slice a n cap, .slice b m cap', .slice e k cap''] 25)) (some ⟨g, 0, none⟩) 3 [c, d, f] := by
  refine CS.new w g hg [(a, n, cap, c), (b, m, cap', d), (e, k, cap'', f)] _ rfl _ 3 rfl (by decide) _ rfl ?_
  intro q hq
  simp only [List.mem_cons, List.not_mem_nil, or_false] at hq
  rcases hq with rfl | rfl | rfl
  · exact hN
  · exact hM
  · exact hK
theorem jAt_two (c d : List Int) (i : Nat) : jAt [c, d] i = max (at5 c i) (at5 d i) := by
  have h := at5_bd c i
  show max (max 0 (at5 c i)) (at5 d i) = _
  omega
theorem joins2 (c d : List Int) : [jAt [c, d] 0, jAt [c, d] 1, jAt [c, d] 2, jAt [c, d] 3, jAt [c, d] 4] = joinL c d := by simp only [jAt_two]; rfl
theorem jAt_three (c d f : List Int) (i : Nat) (hi : i < 5) : jAt [c, d, f] i = max (at5 f i) (at5 (pln (joinL c d)) i) := by
  have h := at5_bd c i
  rw [at5_join c d i hi]
  show max (max (max 0 (at5 c i)) (at5 d i)) (at5 f i) = _
  omega
theorem joins3 (c d f : List Int) : [jAt [c, d, f] 0, jAt [c, d, f] 1, jAt [c, d, f] 2, jAt [c, d, f] 3, jAt [c, d, f] 4] = joinL f (pln (joinL c d)) := by
  rw [jAt_three _ _ _ 0 (by omega), jAt_three _ _ _ 1 (by omega), jAt_three _ _ _ 2 (by omega), jAt_three _ _ _ 3 (by omega), jAt_three _ _ _ 4 (by omega)]; rfl

/-- 'Same' of what the call made. -/
theorem same_own (w : World) (N M : Nat) (v u : Value) (c d : List Int) (hv : OwnN N w v c) (hu : OwnN M w u d) (r : Bool) (hr : r = decide (c = d)) :
    Calls Try.prog 37 #[v, u] w fun e w' => e = .returned (.bool r) ∧ Below w.heap.size w w' := by
  obtain ⟨p, cp, rfl, h1, _⟩ := hv.open
  obtain ⟨q, cq, rfl, h2, _⟩ := hu.open
  subst hr
  exact same_any _ _ _ _ _ _ _ _ _ h1 h2

end Go.Proofs.Ytooggheoaglbeaa

/- Dots in memory: a slice's (DS), those of the call's own (OwnD); what 'May' does, the program's and the document's, and the document's 'All'. -/
namespace Go.Proofs.Ytooggheoaglbeaa
open Go.RowKit
set_option linter.unusedVariables false

def encD (d : Dot) : List Value := [.int .i64 d.1, .int .i64 d.2]
def flatD (l : List Dot) : List Value := l.flatMap encD
/-- A slice value's dots. -/
def DS (w : World) (a : Option Addr) (n : Nat) (l : List Dot) : Prop :=
  l.length = n ∧ n ≤ maxLen ∧ (n = 0 ∨ ∃ b off, a = some ⟨b, off, none⟩ ∧ ∀ i, i < n → w.cell? ⟨b, off + i * 2, none⟩ = some (.int .i64 (l.getD i (0, 0)).1) ∧ w.cell? ⟨b, off + i * 2 + 1, none⟩ = some (.int .i64 (l.getD i (0, 0)).2))
/-- A slice value whose dots lie in a block of the call's own, at 'N' or above. -/
def OwnD (N : Nat) (w : World) (v : Value) (l : List Dot) : Prop := w.ownsRow N 23 2 v l.length (flatD l)

theorem flatD_len (l : List Dot) : (flatD l).length = l.length * 2 := by
  induction l with
  | nil => rfl
  | cons d r ih => simp [flatD, encD] at *; omega
theorem flatD_app (l m : List Dot) : flatD (l ++ m) = flatD l ++ flatD m := by simp [flatD]
theorem flatD_get : ∀ (l : List Dot) (i : Nat), i < l.length → (flatD l)[i * 2]? = some (.int .i64 (l.getD i (0, 0)).1) ∧ (flatD l)[i * 2 + 1]? = some (.int .i64 (l.getD i (0, 0)).2)
  | [], i, h => by simp at h
  | d :: r, 0, _ => by simp [flatD, encD]
  | d :: r, i + 1, h => by
    have ih := flatD_get r i (by simpa using h)
    have e : flatD (d :: r) = .int .i64 d.1 :: .int .i64 d.2 :: flatD r := rfl
    rw [e, show (i + 1) * 2 = i * 2 + 1 + 1 by omega]
    simpa using ih
theorem flatD_one (l : List Dot) : ∀ v ∈ flatD l, v.oneCell' = true := by
  intro v hv
  simp only [flatD, List.mem_flatMap, encD] at hv
  obtain ⟨d, _, hd⟩ := hv
  simp only [List.mem_cons, List.not_mem_nil, or_false] at hd
  rcases hd with rfl | rfl <;> rfl

theorem bcell {u W : World} (hb : Below u.heap.size u W) {p : Addr} {v : Value} (h : u.cell? p = some v) : W.cell? p = some v := by
  rw [hb.cell (World.block_lt_of_cell? u _ h)]; exact h
theorem DS.ext {w w' : World} {a : Option Addr} {n : Nat} {l : List Dot} (h : DS w a n l) (hx : Ext w w') : DS w' a n l := by
  obtain ⟨h1, h2, h4⟩ := h
  refine ⟨h1, h2, ?_⟩
  rcases h4 with h0 | ⟨b, off, ha, hc⟩
  · exact .inl h0
  · exact .inr ⟨b, off, ha, fun i hi => ⟨hx _ _ (hc i hi).1, hx _ _ (hc i hi).2⟩⟩
theorem DS.below {w w' : World} {p : Option Addr} {len : Nat} {l : List Dot} (h : DS w p len l) (hb : Below w.heap.size w w') : DS w' p len l := h.ext ((Ext.refl w).below hb)
theorem DS.alloc {w : World} {p : Option Addr} {len : Nat} {l : List Dot} (h : DS w p len l) (o : Obj) : DS (w.alloc o) p len l := h.ext ((Ext.refl w).alloc o)
theorem DS.drew {w : World} {a : Option Addr} {n : Nat} {l : List Dot} (h : DS w a n l) : DS w.drew a n l := h
theorem DS.nil (w : World) (p : Option Addr) : DS w p 0 [] := ⟨rfl, by decide, .inl rfl⟩
theorem DS.new (w : World) (g : Nat) (hg : g = w.heap.size) (l : List Dot) (C : Array Value) (hC : C = (flatD l).toArray) (t : TypeId) (fr : Nat × Nat) (n : Nat) (hn : l.length = n) (hmax : n ≤ maxLen) :
    DS (w.alloc (.cells C t fr)) (some ⟨g, 0, none⟩) n l := by
  subst hg hC hn
  refine ⟨rfl, hmax, .inr ⟨_, 0, rfl, fun i hi => ?_⟩⟩
  have h := flatD_get l i hi
  rw [World.cell?_alloc_mark, World.cell?_alloc_mark]
  simpa using h
theorem DS.head {w : World} {a : Option Addr} {len : Nat} {l : List Dot} (hB : DS w a len l) (h : Nat) (h2 : h ≤ len) : DS w a h (l.take h) := by
  obtain ⟨g1, g2, g4⟩ := hB
  refine ⟨by rw [List.length_take]; omega, by omega, ?_⟩
  rcases Nat.eq_zero_or_pos h with h0 | hp
  · exact .inl h0
  · rcases g4 with h0 | ⟨b, off, rfl, hc⟩
    · omega
    · refine .inr ⟨b, off, rfl, fun t ht => ?_⟩
      have h4 : (l.take h).getD t (0, 0) = l.getD t (0, 0) := by simp [List.getD_eq_getElem?_getD, ht]
      rw [h4]
      exact hc t (by omega)

theorem OwnD.mono {N N' : Nat} {w : World} {v : Value} {l : List Dot} (h : OwnD N w v l) (hN : N' ≤ N) : OwnD N' w v l := ⟨h.1, h.2.imp id fun ⟨g, cap, cur, h1, h2, h3⟩ => ⟨g, cap, cur, h1, Nat.le_trans hN h2, h3⟩⟩
theorem OwnD.alloc {N : Nat} {w : World} {v : Value} {l : List Dot} (h : OwnD N w v l) (o : Obj) : OwnD N (w.alloc o) v l := World.ownsRow.alloc h o
theorem OwnD.drew {N : Nat} {w : World} {v : Value} {l : List Dot} (h : OwnD N w v l) : OwnD N w.drew v l := World.ownsRow.drew h
theorem OwnD.below {N : Nat} {w w' : World} {v : Value} {l : List Dot} (h : OwnD N w v l) (hb : Below w.heap.size w w') : OwnD N w' v l := by
  refine ⟨h.1, ?_⟩
  rcases h.2 with hn | ⟨g, cap, cur, rfl, hb', hgg, rest⟩
  · exact .inl hn
  · refine .inr ⟨g, cap, cur, rfl, hb', ?_, rest⟩
    rw [hb.block g (Array.getElem?_eq_some_iff.1 hgg).1]
    exact hgg
theorem OwnD.nil (N : Nat) (w : World) : OwnD N w (.slice none 0 0) [] := ⟨rfl, .inl ⟨rfl, rfl⟩⟩
theorem OwnD.open {N : Nat} {w : World} {v : Value} {l : List Dot} (h : OwnD N w v l) : ∃ p cap, v = .slice p l.length cap ∧ DS w p l.length l ∧ CP p l.length cap := by
  have h0 := h
  obtain ⟨_, h2⟩ := h
  rcases h2 with ⟨rfl, h2⟩ | ⟨g, cap, cur, rfl, hb, hg, hc1, hc2, hs, ht⟩
  · exact ⟨none, 0, by rw [h2], ⟨rfl, by rw [h2]; decide, .inl h2⟩, by omega, by decide, fun _ => rfl⟩
  · refine ⟨some ⟨g, 0, none⟩, cap, rfl, ⟨rfl, by omega, .inr ⟨g, 0, rfl, fun i hi => ?_⟩⟩, hc1, hc2, fun h => by cases h⟩
    have hf := flatD_get l i hi
    rw [Nat.zero_add, World.ownsRow.cellAt h0 (i * 2) (by omega), World.ownsRow.cellAt h0 (i * 2 + 1) (by omega)]
    exact hf
theorem OwnD.made (w : World) (N g : Nat) (hg : g = w.heap.size) (hN : N ≤ w.heap.size) : OwnD N (w.alloc (.cells #[] 23)) (.slice (some ⟨g, 0, none⟩) 0 0) [] := by
  subst hg; exact World.ownsRow_made w #[] 0 hN (by decide) rfl

theorem Try.infoDot : (Try.prog.info? 23).map (fun i => (i.zero, i.size, i.bytes)) = some (some (.agg #[.int .i64 0, .int .i64 0]), 2, 16) := by kernel_rfl

theorem mayTrue {r s : Int} (h1 : r ≥ 1) (h2 : r ≤ 5) (h3 : s ≥ 1) (h4 : s ≤ 1048576) : true = mayD (r, s) := (mayD_iff.2 ⟨h1, h2, h3, h4⟩).symm
theorem mayFalse {r s : Int} (h : ¬ (1 ≤ r ∧ r ≤ 5 ∧ 1 ≤ s ∧ s ≤ 1048576)) : false = mayD (r, s) := by
  symm; rw [← Bool.not_eq_true, mayD_iff]; exact h

end Go.Proofs.Ytooggheoaglbeaa

/- A drawn region's operations under a held condition; what 'May', 'Less', 'compare' do, the program's and the document's. -/
namespace Go.Proofs.Ytooggheoaglbeaa
open Go.RowKit
set_option linter.unusedVariables false

theorem takeInH {P : Program} {md : Region.Mode} {ops : Array Oper} {Q : Exit → Act → World → Prop} {S : World → Prop} (i d : Nat) (v : Value) {oi : Oper} {fuel : Nat} {listed : Array Bool} {a : Act} {w : World} (hi : ops[i]? = some oi) (hd : oi.dst = some d)
    (hs : Region.noSelect ops = true) (hf : Region.free md ops listed i = true) (hr : (Region.ready md ops listed).contains i = true)
    (hQ : ∀ c a w, Q (.panic c) (a.put oi.dst v) w → Q (.panic c) a w) (hw : Region.wanted oi (yielded ops a.tmps) = true) (hS : S w) (hy : ∀ w, S w → (execOp a.eval oi).run P w = .ok (.value v) w)
    (h : wpAnyH P md ops Q S fuel (listed.setIfInBounds i true) (a.put (some d) v) w) : wpAnyH P md ops Q S (fuel + 1) listed a w :=
  wpAnyH_take hi hs hf hr hQ (Or.inl ⟨hw, hy⟩) hS (by rw [hd]; exact h)
theorem takeNoH {P : Program} {md : Region.Mode} {ops : Array Oper} {Q : Exit → Act → World → Prop} {S : World → Prop} (i d : Nat) {oi : Oper} {fuel : Nat} {listed : Array Bool} {a : Act} {w : World} (hi : ops[i]? = some oi) (hd : oi.dst = some d)
    (hs : Region.noSelect ops = true) (hf : Region.free md ops listed i = true) (hr : (Region.ready md ops listed).contains i = true)
    (hQ : ∀ c a w, Q (.panic c) (a.put oi.dst undef) w → Q (.panic c) a w) (hw : Region.wanted oi (yielded ops a.tmps) = false) (hS : S w)
    (h : wpAnyH P md ops Q S fuel (listed.setIfInBounds i true) (a.put (some d) undef) w) : wpAnyH P md ops Q S (fuel + 1) listed a w :=
  wpAnyH_take hi hs hf hr hQ (Or.inr ⟨hw, rfl⟩) hS (by rw [hd]; exact h)

/-- Draws and new blocks alone. -/
def Gr (u W : World) : Prop := ∃ (q : Nat) (os : Array Obj), W = Sort.grow (u.drewN q) os
theorem Gr.refl (u : World) : Gr u u := ⟨0, #[], by rw [Sort.grow_empty]; rfl⟩
theorem Gr.drew {u W : World} (h : Gr u W) : Gr u W.drew := by
  obtain ⟨q, os, rfl⟩ := h
  exact ⟨q + 1, os, by rw [Sort.drew_grow]; rfl⟩
theorem Gr.alloc {u W : World} (h : Gr u W) (o : Obj) : Gr u (W.alloc o) := by
  obtain ⟨q, os, rfl⟩ := h
  exact ⟨q, os ++ #[o], by rw [Sort.alloc_eq_grow, Sort.grow_grow]⟩
theorem Gr.trans {a b c : World} (h : Gr a b) (k : Gr b c) : Gr a c := by
  obtain ⟨q, os, rfl⟩ := h
  obtain ⟨q', os', rfl⟩ := k
  refine ⟨q + q', os ++ os', ?_⟩
  rw [← Sort.grow_grow, ← World.drewN_drewN]
  rfl
theorem Gr.bel {u W : World} (h : Gr u W) : Below u.heap.size u W := by
  obtain ⟨q, os, rfl⟩ := h
  exact ⟨rfl, rfl, rfl, by simp [World.drewN], fun k hk => Sort.heap_grow_old (u.drewN q) os hk⟩

theorem cell_new (w : World) (C : Array Value) (t : TypeId) (g : Nat) (hg : g = w.heap.size) (i : Nat) (v : Value) (h : C[i]? = some v) : (w.alloc (.cells C t)).cell? ⟨g, i, none⟩ = some v := by
  subst hg; rw [World.cell?_alloc_mark]; exact h
theorem cell_old {w : World} (o : Obj) {p : Addr} {v : Value} (h : w.cell? p = some v) : (w.alloc o).cell? p = some v := bcell (bel1 w o) h
/-- A dot's box. -/
abbrev bxD (r s : Int) : Obj := .cells #[.int .i64 r, .int .i64 s] 23

set_option maxHeartbeats 400000 in
theorem May_any (r s : Int) (w : World) : Calls Try.prog 42 #[.agg #[.int .i64 r, .int .i64 s]] w fun e w' => e = .returned (.bool (mayD (r, s))) ∧ Gr w w' := by
  by_cases h1 : r ≥ 1
  · by_cases h2 : r ≤ 5
    · by_cases h3 : s ≥ 1
      · by_cases h4 : s ≤ 1048576
        · go_enter Try.func42, Try.ntmps42
          go_wp2
          go_ret
          exact ⟨retB (mayTrue h1 h2 h3 h4), (Gr.refl w).alloc _⟩
        · go_enter Try.func42, Try.ntmps42
          go_wp2
          go_ret
          exact ⟨retB (mayFalse (by omega)), (Gr.refl w).alloc _⟩
      · go_enter Try.func42, Try.ntmps42
        go_wp2
        go_ret
        exact ⟨retB (mayFalse (by omega)), (Gr.refl w).alloc _⟩
    · go_enter Try.func42, Try.ntmps42
      go_wp2
      go_ret
      exact ⟨retB (mayFalse (by omega)), (Gr.refl w).alloc _⟩
  · go_enter Try.func42, Try.ntmps42
    go_wp2
    go_ret
    exact ⟨retB (mayFalse (by omega)), (Gr.refl w).alloc _⟩

set_option maxHeartbeats 400000 in
theorem MayR_any (r s : Int) (w : World) : Calls Try.prog 38 #[.agg #[.int .i64 r, .int .i64 s]] w fun e w' => e = .returned (.bool (mayD (r, s))) ∧ Gr w w' := by
  by_cases h1 : r ≥ 1
  · by_cases h2 : r ≤ 5
    · by_cases h3 : s ≥ 1
      · by_cases h4 : s ≤ 1048576
        · go_enter Try.func38, Try.ntmps38
          go_wp2
          go_ret
          exact ⟨retB (mayTrue h1 h2 h3 h4), (Gr.refl w).alloc _⟩
        · go_enter Try.func38, Try.ntmps38
          go_wp2
          go_ret
          exact ⟨retB (mayFalse (by omega)), (Gr.refl w).alloc _⟩
      · go_enter Try.func38, Try.ntmps38
        go_wp2
        go_ret
        exact ⟨retB (mayFalse (by omega)), (Gr.refl w).alloc _⟩
    · go_enter Try.func38, Try.ntmps38
      go_wp2
      go_ret
      exact ⟨retB (mayFalse (by omega)), (Gr.refl w).alloc _⟩
  · go_enter Try.func38, Try.ntmps38
    go_wp2
    go_ret
    exact ⟨retB (mayFalse (by omega)), (Gr.refl w).alloc _⟩

set_option maxHeartbeats 400000 in
theorem LessR_any (r s r' s' : Int) (w : World) : Calls Try.prog 81 #[.agg #[.int .i64 r, .int .i64 s], .agg #[.int .i64 r', .int .i64 s']] w fun e w' => e = .returned (.bool (lessD (r, s) (r', s'))) ∧ Gr w w' := by
  by_cases h1 : r = r'
  · subst h1
    have HE : Hid (decide (s < s') = lessD (r, s) (r, s')) := by unfold Hid lessD; simp
    go_enter Try.func81, Try.ntmps81
    go_wp2
    go_ret
    exact ⟨retB HE.out, ((Gr.refl w).alloc _).alloc _⟩
  · have HE : Hid (decide (r < r') = lessD (r, s) (r', s')) := by unfold Hid lessD; simp [h1]
    go_enter Try.func81, Try.ntmps81
    go_wp2
    go_ret
    exact ⟨retB HE.out, ((Gr.refl w).alloc _).alloc _⟩

/-- 'cmp.Compare' of two numbers. -/
def cmpI (x y : Int) : Int := if x < y then -1 else if x > y then 1 else 0
theorem nan_any (x : Int) (w : World) : Calls Try.prog 96 #[.int .i64 x] w fun e w' => e = .returned (.bool false) ∧ w' = w := by
  go_enter Try.func96, Try.ntmps96
  go_wp2
  go_ret
  exact ⟨retB (by simp), rfl⟩
theorem cmpI_any (x y : Int) (w : World) : Calls Try.prog 78 #[.int .i64 x, .int .i64 y] w fun e w' => e = .returned (.int .i64 (cmpI x y)) ∧ w' = w := by
  by_cases h1 : x < y
  · have HE : Hid (-1 = cmpI x y) := by unfold Hid cmpI; rw [if_pos h1]
    go_enter Try.func78, Try.ntmps78
    go_wp2_with (go_at_call 96; refine (nan_any _ _).mono ?_; rintro e w' ⟨rfl, rfl⟩)
    go_ret
    exact ⟨ret_int HE.out, rfl⟩
  · by_cases h2 : x > y
    · have HE : Hid (1 = cmpI x y) := by unfold Hid cmpI; rw [if_neg h1, if_pos h2]
      go_enter Try.func78, Try.ntmps78
      go_wp2_with (go_at_call 96; refine (nan_any _ _).mono ?_; rintro e w' ⟨rfl, rfl⟩)
      go_ret
      exact ⟨ret_int HE.out, rfl⟩
    · have HE : Hid (0 = cmpI x y) := by unfold Hid cmpI; rw [if_neg h1, if_neg h2]
      go_enter Try.func78, Try.ntmps78
      go_wp2_with (go_at_call 96; refine (nan_any _ _).mono ?_; rintro e w' ⟨rfl, rfl⟩)
      go_ret
      exact ⟨ret_int HE.out, rfl⟩
def orI (x y : Int) : Int := if x = 0 then y else x
set_option maxHeartbeats 400000 in
theorem or_any (w : World) (g : Nat) (x y : Int) (c0 : w.cell? ⟨g, 0, none⟩ = some (.int .i64 x)) (c1 : w.cell? ⟨g, 1, none⟩ = some (.int .i64 y)) :
    Calls Try.prog 77 #[.slice (some ⟨g, 0, none⟩) 2 2] w fun e w' => e = .returned (.int .i64 (orI x y)) ∧ w' = w := by
  by_cases h1 : x = 0
  · by_cases h2 : y = 0
    · have HE : Hid (0 = orI x y) := by unfold Hid orI; rw [if_pos h1, h2]
      go_enter Try.func77, Try.ntmps77
      go_wp2
      refine wp_loop_rounds 3 ?_
      rw [rounds_succ]
      go_wp2
      rw [rounds_succ]
      go_wp2
      rw [rounds_succ]
      go_wp2
      go_ret
      exact ⟨ret_int HE.out, rfl⟩
    · have HE : Hid (y = orI x y) := by unfold Hid orI; rw [if_pos h1]
      go_enter Try.func77, Try.ntmps77
      go_wp2
      refine wp_loop_rounds 3 ?_
      rw [rounds_succ]
      go_wp2
      rw [rounds_succ]
      go_wp2
      go_ret
      exact ⟨ret_int HE.out, rfl⟩
  · have HE : Hid (x = orI x y) := by unfold Hid orI; rw [if_neg h1]
    go_enter Try.func77, Try.ntmps77
    go_wp2
    refine wp_loop_rounds 3 ?_
    rw [rounds_succ]
    go_wp2
    go_ret
    exact ⟨ret_int HE.out, rfl⟩
theorem orI_is (a b : Dot) : orI (cmpI a.1 b.1) (cmpI a.2 b.2) = cmpD a b := by
  obtain ⟨a1, a2⟩ := a
  obtain ⟨b1, b2⟩ := b
  unfold orI cmpI cmpD lessD
  simp only [decide_eq_true_iff]
  split <;> split <;> (try split) <;> (try split) <;> (try split) <;> omega

set_option maxHeartbeats 1000000 in
theorem compare_any (x y : Dot) (w : World) : Calls Try.prog 84 #[.agg #[.int .i64 x.1, .int .i64 x.2], .agg #[.int .i64 y.1, .int .i64 y.2]] w fun e w' => e = .returned (.int .i64 (cmpD x y)) ∧ Gr w w' := by
  have HE := hide (orI_is x y)
  obtain ⟨r, s⟩ := x
  obtain ⟨r', s'⟩ := y
  have HU := hide (((Gr.refl w).alloc (bxD r s)).alloc (bxD r' s'))
  go_enter Try.func84, Try.ntmps84
  go_wp2
  have c0 : ((w.alloc (bxD r s)).alloc (bxD r' s')).cell? ⟨w.heap.size, 0, none⟩ = some (.int .i64 r) := cell_old _ (cell_new w _ _ _ rfl 0 _ rfl)
  have c1 : ((w.alloc (bxD r s)).alloc (bxD r' s')).cell? ⟨w.heap.size, 1, none⟩ = some (.int .i64 s) := cell_old _ (cell_new w _ _ _ rfl 1 _ rfl)
  have c2 : ((w.alloc (bxD r s)).alloc (bxD r' s')).cell? ⟨w.heap.size + 1, 0, none⟩ = some (.int .i64 r') := cell_new _ _ _ _ (by simp) 0 _ rfl
  have c3 : ((w.alloc (bxD r s)).alloc (bxD r' s')).cell? ⟨w.heap.size + 1, 1, none⟩ = some (.int .i64 s') := cell_new _ _ _ _ (by simp) 1 _ rfl
  generalize ((w.alloc (bxD r s)).alloc (bxD r' s')) = u at *
  refine wp_region_held_drew (S := fun W => Gr u W) (by kernel_rfl) ((Gr.refl u).drew) (fun hS0 => ?_)
  refine takeInH 0 5 ?v1 rfl rfl (by kernel_rfl) (by kernel_rfl) (by kernel_rfl) (fun _ _ _ h => h) (by kernel_rfl) hS0 ?hy1 ?_
  case hy1 => (intro W hW; clear hW; go_simp; try rfl)
  simp only [Act.put, List.setIfInBounds_toArray, List.set_cons_zero, List.set_cons_succ]
  refine takeInH 1 6 ?v2 rfl rfl (by kernel_rfl) (by kernel_rfl) (by kernel_rfl) (fun _ _ _ h => h) (by kernel_rfl) hS0 ?hy2 ?_
  case hy2 => (intro W hW; have e0 := bcell hW.bel c0; have e1 := bcell hW.bel c1; have e2 := bcell hW.bel c2; have e3 := bcell hW.bel c3; clear hW; go_simp; try rfl)
  simp only [Act.put, List.setIfInBounds_toArray, List.set_cons_zero, List.set_cons_succ]
  refine takeInH 2 7 ?v3 rfl rfl (by kernel_rfl) (by kernel_rfl) (by kernel_rfl) (fun _ _ _ h => h) (by kernel_rfl) hS0 ?hy3 ?_
  case hy3 => (intro W hW; clear hW; go_simp; try rfl)
  simp only [Act.put, List.setIfInBounds_toArray, List.set_cons_zero, List.set_cons_succ]
  refine takeInH 3 8 ?v4 rfl rfl (by kernel_rfl) (by kernel_rfl) (by kernel_rfl) (fun _ _ _ h => h) (by kernel_rfl) hS0 ?hy4 ?_
  case hy4 => (intro W hW; have e0 := bcell hW.bel c0; have e1 := bcell hW.bel c1; have e2 := bcell hW.bel c2; have e3 := bcell hW.bel c3; clear hW; go_simp; try rfl)
  simp only [Act.put, List.setIfInBounds_toArray, List.set_cons_zero, List.set_cons_succ]
  refine takeInH 5 10 ?v5 rfl rfl (by kernel_rfl) (by kernel_rfl) (by kernel_rfl) (fun _ _ _ h => h) (by kernel_rfl) hS0 ?hy5 ?_
  case hy5 => (intro W hW; clear hW; go_simp; try rfl)
  simp only [Act.put, List.setIfInBounds_toArray, List.set_cons_zero, List.set_cons_succ]
  refine takeInH 6 11 ?v6 rfl rfl (by kernel_rfl) (by kernel_rfl) (by kernel_rfl) (fun _ _ _ h => h) (by kernel_rfl) hS0 ?hy6 ?_
  case hy6 => (intro W hW; have e0 := bcell hW.bel c0; have e1 := bcell hW.bel c1; have e2 := bcell hW.bel c2; have e3 := bcell hW.bel c3; clear hW; go_simp; try rfl)
  simp only [Act.put, List.setIfInBounds_toArray, List.set_cons_zero, List.set_cons_succ]
  refine takeInH 7 12 ?v7 rfl rfl (by kernel_rfl) (by kernel_rfl) (by kernel_rfl) (fun _ _ _ h => h) (by kernel_rfl) hS0 ?hy7 ?_
  case hy7 => (intro W hW; clear hW; go_simp; try rfl)
  simp only [Act.put, List.setIfInBounds_toArray, List.set_cons_zero, List.set_cons_succ]
  refine takeInH 8 13 ?v8 rfl rfl (by kernel_rfl) (by kernel_rfl) (by kernel_rfl) (fun _ _ _ h => h) (by kernel_rfl) hS0 ?hy8 ?_
  case hy8 => (intro W hW; have e0 := bcell hW.bel c0; have e1 := bcell hW.bel c1; have e2 := bcell hW.bel c2; have e3 := bcell hW.bel c3; clear hW; go_simp; try rfl)
  simp only [Act.put, List.setIfInBounds_toArray, List.set_cons_zero, List.set_cons_succ]
  refine wpAnyH_ready (rs := [4]) (by kernel_rfl) (by simp) ?_
  refine AllReadyH.cons rfl (fun K hK => ?_) AllReadyH.nil
  go_simp
  refine (cmpI_any _ _ _).mono ?_
  rintro e w' ⟨rfl, hw⟩
  subst hw
  try go_wp2_with fail
  refine hK.out _ _ ?hs9 (fun hS1 => ?_)
  case hs9 => exact hS0
  clear hK K
  try simp only [Act.put, List.setIfInBounds_toArray, List.set_cons_zero, List.set_cons_succ]
  refine wpAnyH_ready (rs := [9]) (by kernel_rfl) (by simp) ?_
  refine AllReadyH.cons rfl (fun K hK => ?_) AllReadyH.nil
  go_simp
  refine (cmpI_any _ _ _).mono ?_
  rintro e w' ⟨rfl, hw⟩
  subst hw
  try go_wp2_with fail
  refine hK.out _ _ ?hs10 (fun hS2 => ?_)
  case hs10 => exact hS1
  clear hK K
  try simp only [Act.put, List.setIfInBounds_toArray, List.set_cons_zero, List.set_cons_succ]
  refine wpAnyH_ready (rs := [10]) (by kernel_rfl) (by simp) ?_
  refine AllReadyH.cons rfl (fun K hK => ?_) AllReadyH.nil
  go_simp
  refine hK.out _ _ ?hs11 (fun hS3 => ?_)
  case hs11 => exact hS2.alloc _
  clear hK K
  try simp only [Act.put, List.setIfInBounds_toArray, List.set_cons_zero, List.set_cons_succ]
  refine wpAnyH_ready (rs := [11]) (by kernel_rfl) (by simp) ?_
  refine AllReadyH.cons rfl (fun K hK => ?_) AllReadyH.nil
  go_simp
  refine Calls.mono (or_any _ _ (cmpI r r') (cmpI s s') ?_ ?_) ?_
  · exact cell_new _ _ _ _ rfl 0 _ rfl
  · exact cell_new _ _ _ _ rfl 1 _ rfl
  rintro e w' ⟨rfl, hw⟩
  subst hw
  try go_wp2_with fail
  refine hK.out _ _ ?hs12 (fun hS4 => ?_)
  case hs12 => exact hS3
  clear hK K
  try simp only [Act.put, List.setIfInBounds_toArray, List.set_cons_zero, List.set_cons_succ]
  refine takeInH 12 4 ?v13 rfl rfl (by kernel_rfl) (by kernel_rfl) (by kernel_rfl) (fun _ _ _ h => h) (by kernel_rfl) hS4 ?hy13 ?_
  case hy13 => (intro W hW; clear hW; go_simp; try rfl)
  simp only [Act.put, List.setIfInBounds_toArray, List.set_cons_zero, List.set_cons_succ]
  refine wpAnyH_done (by kernel_rfl) ?_ _
  go_wp2
  go_ret
  exact ⟨ret_int HE.out, HU.out.trans (by assumption)⟩

set_option maxHeartbeats 400000 in
theorem Less_any (x y : Dot) (w : World) : Calls Try.prog 97 #[.agg #[.int .i64 x.1, .int .i64 x.2], .agg #[.int .i64 y.1, .int .i64 y.2]] w fun e w' => e = .returned (.bool (lessD x y)) ∧ Gr w w' := by
  have HC := hide (fun W => compare_any x y W)
  have HE : Hid (decide (cmpD x y < 0) = lessD x y) := by unfold Hid; rw [Bool.eq_iff_iff, decide_eq_true_iff]; exact cmpD_lt
  obtain ⟨r, s⟩ := x
  obtain ⟨r', s'⟩ := y
  have HU := hide (((Gr.refl w).alloc (bxD r s)).alloc (bxD r' s'))
  generalize cmpD (r, s) (r', s') = c at HC HE
  go_enter Try.func97, Try.ntmps97
  go_wp2_with (go_at_call 84; refine (HC.out _).mono ?_; rintro e w' ⟨rfl, hg⟩)
  go_ret
  exact ⟨retB HE.out, HU.out.trans hg⟩
end Go.Proofs.Ytooggheoaglbeaa

/- What 'Put' does, the program's and the document's. -/
namespace Go.Proofs.Ytooggheoaglbeaa
open Go.RowKit
set_option linter.unusedVariables false

/-- Texts that the call has made are the bytes of these numbers. -/
def Nums (N : Nat) (w : World) (v : Value) (c : List Int) : Prop := ∃ qs, OwnP N w v qs ∧ qs.map (·.2) = c.map num
theorem Nums.nil (N : Nat) (w : World) : Nums N w (.slice none 0 0) [] := ⟨[], OwnP.nil _ _, rfl⟩
theorem Nums.made (w : World) (N g : Nat) (hg : g = w.heap.size) (hN : N ≤ w.heap.size) : Nums N (w.alloc (.cells #[] 37)) (.slice (some ⟨g, 0, none⟩) 0 0) [] := ⟨[], OwnP.made w N g hg hN, rfl⟩
theorem Nums.below {N : Nat} {w w' : World} {v : Value} {c : List Int} (h : Nums N w v c) (hb : Below w.heap.size w w') : Nums N w' v c := ⟨h.choose, h.choose_spec.1.below hb, h.choose_spec.2⟩
theorem Nums.open {N : Nat} {w : World} {v : Value} {c : List Int} (h : Nums N w v c) : ∃ p cap, v = .slice p c.length cap ∧ PC w p c.length (c.map num) ∧ CP p c.length cap := by
  obtain ⟨qs, h1, h2⟩ := h
  have hl : qs.length = c.length := by have := congrArg List.length h2; simpa using this
  obtain ⟨p, cap, hv, hpc, hcp⟩ := h1.open
  rw [hl] at hv hpc hcp
  rw [h2] at hpc
  exact ⟨p, cap, hv, hpc, hcp⟩

/-- 'append(texts, Num(x))'. -/
theorem append_num {w : World} {ops : Array Oper} {rest : List Oper} {o : Oper} {a : Act} {Q : Exit → Act → World → Prop} (hgd : o.guard = none) (s x : Operand)
    (ho : o.op = .call { callee := .builtin .append, args := #[s, x], argTypes := #[58, 58] })
    (N : Nat) (v : Value) (c : List Int) (u : Value) (y : Int) (g : Nat) (hg : g = w.heap.size) (hs : a.eval s = v) (hown : Nums N w v c) (hu : Own N w u (num y)) (hx : a.eval x = .slice (some ⟨g, 0, none⟩) 1 1)
    (hbig : c.length ≤ 1000000) (hN : N ≤ w.heap.size)
    (h : ∀ v' w', Nums N w' v' (c ++ [y]) → (∀ w0, Below N w0 w → Below N w0 w') → wpList Try.prog ops Q rest (a.put o.dst v') w') : wpList Try.prog ops Q (o :: rest) a (w.alloc (.cells #[u] 37)) := by
  obtain ⟨qs, h1, h2⟩ := hown
  have hl : qs.length = c.length := by have := congrArg List.length h2; simpa using this
  refine append_text hgd s x ho N v qs u (num y) g hg hs h1 hu (num_by y) hx (by omega) hN ?_
  intro v' w' g1 g2
  exact h v' w' ⟨_, g1, by simp [h2]⟩ g2

set_option maxHeartbeats 2000000 in
theorem Put_any (a : Option Addr) (n cap : Nat) (c : List Int) (w : World) (hN : NS w a n c) :
    Calls Try.prog 33 #[.slice a n cap] w fun e w' => ∃ v, e = .returned v ∧ Own w.heap.size w' v (putC c) ∧ Below w.heap.size w w' := by
  have HN := hide hN
  clear hN
  have HE : Hid (pack ((pln (vec c)).map num) = putC c) := rfl
  have HBd : Hid (∀ x ∈ pln (vec c), 0 ≤ x ∧ x ≤ 1048576) := fun x hx => vec_bd c x (List.mem_of_mem_take hx)
  have HL5 : Hid ((pln (vec c)).length ≤ 5) := by unfold Hid; rw [pln_length]; have := plen_le (vec c); rw [vec_len] at this; exact this
  go_enter Try.func33, Try.ntmps33
  go_wp2_with fail
  refine (Plain_any _ _ _ c _ HN.out).mono ?_
  rintro e w1 ⟨v1, rfl, hO, hb1⟩
  obtain ⟨p, cp, hv, hns, hcp⟩ := hO.open
  subst hv
  have HB1 := hide hb1
  have HP := hide hns
  generalize pln (vec c) = L at *
  have hm5 : L.length ≤ 5 := HL5.out
  clear hO hb1 hns hcp HN
  obtain ⟨m, hm⟩ : ∃ m, m = L.length := ⟨_, rfl⟩
  rw [← hm] at HP hm5
  have Hm := hide hm
  have hmI : (m : Int) ≤ 5 := by omega
  rw [← hm]
  clear hm
  go_wp2
  go_loopw [3, 9] (fun v i wr => ∃ k : Nat, k ≤ m ∧ i = .int .i64 k ∧ Hid (Nums w1.heap.size wr v (L.take k)) ∧ Hid (Below w1.heap.size w1 wr)) (fun _ i _ => m - (intOf i).toNat)
  case atStart => exact ⟨0, by omega, rfl, Nums.nil _ _, Below.refl _ _⟩
  case round =>
    obtain ⟨k, hk, rfl, hO, hB⟩ := hrel
    obtain ⟨pv, cv, hv, _, _⟩ := hO.out.open
    subst hv
    by_cases hlt : k < m
    · rcases (HP.out.below hB.out).2.2 with h0 | ⟨b, off, rfl, hc⟩
      · omega
      · have hck := hc k hlt
        have hx := HBd.out (L.getD k 0) (by have e : L.getD k 0 = L[k]'(by rw [← Hm.out]; exact hlt) := by simp [List.getD_eq_getElem?_getD, List.getElem?_eq_getElem (show k < L.length by rw [← Hm.out]; exact hlt)]
                                            rw [e]; exact List.getElem_mem _)
        have HT := hide (take_snoc (L := L) (k := k) (x := L.getD k 0) (by rw [← Hm.out]; exact hlt) rfl)
        have HLn : Hid ((L.take k).length ≤ 5) := by unfold Hid; rw [List.length_take, ← Hm.out]; omega
        generalize L.getD k 0 = x at *
        generalize L.take k = T at *
        obtain ⟨hx0, hx1⟩ := hx
        have hx2 : x < 18446744073709551616 := by omega
        have hsz := hB.out.size
        clear hc
        go_wp2_with fail
        refine (num_any x _ hx0 hx2).mono ?_
        rintro e w2 ⟨v2, rfl, hO2, hb2⟩
        obtain ⟨p2, c2, hv2, _, _⟩ := hO2.open (num_by x)
        subst hv2
        have HB3 := hide (bel_next hB.out hb2)
        have HO3 := hide (hO.out.below hb2)
        have HN2 := hide (hO2.mono hsz)
        have hsz2 := HB3.out.size
        clear hO hB hO2 hb2
        go_wp2_with (at_builtin; refine Stop.at ?_)
        unfold Stop
        refine append_num rfl _ _ rfl w1.heap.size (.slice pv T.length cv) T (.slice p2 (num x).length c2) x _ rfl rfl HO3.out HN2.out rfl (by have := HLn.out; omega) hsz2 ?_
        intro v' w' g1 g2
        have G1 := hide g1
        have G2 := hide (g2 _ HB3.out)
        clear g1 g2 HO3 HN2 HB3
        go_wp2
        go_roundw
        case rel => exact ⟨k + 1, by omega, by go_num, by unfold Hid; rw [HT.out]; exact G1.out, G2⟩
        case measure => simp [intOf]; omega
    · have hkl : k = m := by omega
      subst hkl
      have HT : Hid (L.take k = L) := List.take_of_length_le (by rw [Hm.out]; exact Nat.le_refl _)
      have hO2 := hO.out
      rw [HT.out] at hO2
      obtain ⟨p3, c3, hv3, hpc, _⟩ := hO2.open
      rw [HT.out]
      cases hv3
      have HPC := hide hpc
      have HLn := hide (nums_short L)
      clear hO hO2 hpc HT
      go_wp2_with fail
      refine (pack_any _ _ _ _ _ HPC.out (by have := HL5.out; omega) (fun t ht => by have := HLn.out t ht; omega)).mono ?_
      rintro e w3 ⟨v3, rfl, hO3, hb3⟩
      have HO3 := hide hO3
      have HB3 := hide (bel_next (bel_next HB1.out hB.out) hb3)
      have hsz : w.heap.size ≤ wr.heap.size := Nat.le_trans HB1.out.size hB.out.size
      clear hO3 hb3
      go_wp2
      go_ret
      rw [← HE.out]
      exact ⟨_, rfl, HO3.out.mono hsz, HB3.out⟩

set_option maxHeartbeats 2000000 in
theorem put_ref (a : Option Addr) (n cap : Nat) (c : List Int) (w : World) (hN : NS w a n c) :
    Calls Try.prog 49 #[.slice a n cap] w fun e w' => ∃ v, e = .returned v ∧ Own w.heap.size w' v (putC c) ∧ Below w.heap.size w w' := by
  have HN := hide hN
  clear hN
  have HE : Hid (pack ((pln (vec c)).map num) = putC c) := rfl
  have HBd : Hid (∀ x ∈ pln (vec c), 0 ≤ x ∧ x ≤ 1048576) := fun x hx => vec_bd c x (List.mem_of_mem_take hx)
  have HL5 : Hid ((pln (vec c)).length ≤ 5) := by unfold Hid; rw [pln_length]; have := plen_le (vec c); rw [vec_len] at this; exact this
  go_enter Try.func49, Try.ntmps49
  go_wp2_with fail
  refine (plain_ref _ _ _ c _ HN.out).mono ?_
  rintro e w1 ⟨v1, rfl, hO, hb1⟩
  obtain ⟨p, cp, hv, hns, hcp⟩ := hO.open
  subst hv
  have HB1 := hide hb1
  have HP := hide hns
  generalize pln (vec c) = L at *
  have hm5 : L.length ≤ 5 := HL5.out
  clear hO hb1 hns hcp HN
  obtain ⟨m, hm⟩ : ∃ m, m = L.length := ⟨_, rfl⟩
  rw [← hm] at HP hm5
  have Hm := hide hm
  have hmI : (m : Int) ≤ 5 := by omega
  rw [← hm]
  clear hm
  go_wp2
  go_loopw [3, 4] (fun v i wr => ∃ k : Nat, k ≤ m ∧ i = .int .i64 k ∧ Hid (Nums w1.heap.size wr v (L.take k)) ∧ Hid (Below w1.heap.size w1 wr)) (fun _ i _ => m - (intOf i).toNat)
  case atStart => exact ⟨0, by omega, rfl, Nums.made _ _ _ rfl (Nat.le_refl _), bel1 _ _⟩
  case round =>
    obtain ⟨k, hk, rfl, hO, hB⟩ := hrel
    obtain ⟨pv, cv, hv, _, _⟩ := hO.out.open
    subst hv
    by_cases hlt : k < m
    · rcases (HP.out.below hB.out).2.2 with h0 | ⟨b, off, rfl, hc⟩
      · omega
      · have hck := hc k hlt
        have hx := HBd.out (L.getD k 0) (by have e : L.getD k 0 = L[k]'(by rw [← Hm.out]; exact hlt) := by simp [List.getD_eq_getElem?_getD, List.getElem?_eq_getElem (show k < L.length by rw [← Hm.out]; exact hlt)]
                                            rw [e]; exact List.getElem_mem _)
        have HT := hide (take_snoc (L := L) (k := k) (x := L.getD k 0) (by rw [← Hm.out]; exact hlt) rfl)
        have HLn : Hid ((L.take k).length ≤ 5) := by unfold Hid; rw [List.length_take, ← Hm.out]; omega
        generalize L.getD k 0 = x at *
        generalize L.take k = T at *
        obtain ⟨hx0, hx1⟩ := hx
        have hx2 : x < 18446744073709551616 := by omega
        have hsz := hB.out.size
        clear hc
        go_wp2_with fail
        refine (refNum_any x _ hx0 hx2).mono ?_
        rintro e w2 ⟨v2, rfl, hO2, hb2⟩
        obtain ⟨p2, c2, hv2, _, _⟩ := hO2.open (num_by x)
        subst hv2
        have HB3 := hide (bel_next hB.out hb2)
        have HO3 := hide (hO.out.below hb2)
        have HN2 := hide (hO2.mono hsz)
        have hsz2 := HB3.out.size
        clear hO hB hO2 hb2
        go_wp2_with (at_builtin; refine Stop.at ?_)
        unfold Stop
        refine append_num rfl _ _ rfl w1.heap.size (.slice pv T.length cv) T (.slice p2 (num x).length c2) x _ rfl rfl HO3.out HN2.out rfl (by have := HLn.out; omega) hsz2 ?_
        intro v' w' g1 g2
        have G1 := hide g1
        have G2 := hide (g2 _ HB3.out)
        clear g1 g2 HO3 HN2 HB3
        go_wp2
        go_roundw
        case rel => exact ⟨k + 1, by omega, by go_num, by unfold Hid; rw [HT.out]; exact G1.out, G2⟩
        case measure => simp [intOf]; omega
    · have hkl : k = m := by omega
      subst hkl
      have HT : Hid (L.take k = L) := List.take_of_length_le (by rw [Hm.out]; exact Nat.le_refl _)
      have hO2 := hO.out
      rw [HT.out] at hO2
      obtain ⟨p3, c3, hv3, hpc, _⟩ := hO2.open
      rw [HT.out]
      cases hv3
      have HPC := hide hpc
      have HLn := hide (nums_short L)
      clear hO hO2 hpc HT
      go_wp2_with fail
      refine (refPack_any _ _ _ _ _ HPC.out (by have := HL5.out; omega) (fun t ht => by have := HLn.out t ht; omega)).mono ?_
      rintro e w3 ⟨v3, rfl, hO3, hb3⟩
      have HO3 := hide hO3
      have HB3 := hide (bel_next (bel_next HB1.out hB.out) hb3)
      have hsz : w.heap.size ≤ wr.heap.size := Nat.le_trans HB1.out.size hB.out.size
      clear hO3 hb3
      go_wp2
      go_ret
      rw [← HE.out]
      exact ⟨_, rfl, HO3.out.mono hsz, HB3.out⟩
end Go.Proofs.Ytooggheoaglbeaa

/- What 'Read' does. -/
namespace Go.Proofs.Ytooggheoaglbeaa
open Go.RowKit
set_option linter.unusedVariables false

theorem getNum_no (a : Option Addr) (n c : Nat) (l : List Int) (w : World) (hg : getNum l = none) (hA : BS w a n l) (hC : CP a n c) :
    Calls Try.prog 90 #[.slice a n c] w fun e w' => e = .returned (.tuple #[.int .u64 0, .int .i64 0, .int .i64 2]) ∧ w' = w := by
  refine (getNum_any a n c l w hA hC).mono ?_
  rintro e w1 ⟨(⟨_, rfl⟩ | ⟨x, m, h, rfl⟩), hb⟩
  · exact ⟨rfl, hb⟩
  · rw [hg] at h; cases h
theorem getNum_yes (a : Option Addr) (n c : Nat) (l : List Int) (w : World) (x : Int) (m : Nat) (hg : getNum l = some (x, m)) (hA : BS w a n l) (hC : CP a n c) :
    Calls Try.prog 90 #[.slice a n c] w fun e w' => e = .returned (.tuple #[.int .u64 x, .int .i64 (m : Int), .int .i64 0]) ∧ w' = w := by
  refine (getNum_any a n c l w hA hC).mono ?_
  rintro e w1 ⟨(⟨h, rfl⟩ | ⟨y, k, h, rfl⟩), hb⟩
  · rw [hg] at h; cases h
  · rw [hg] at h; cases h; exact ⟨rfl, hb⟩

set_option maxHeartbeats 1000000 in
theorem readNum_bad (a : Option Addr) (n c : Nat) (l : List Int) (w : World) (hr : rdNum l = none) (hA : BS w a n l) (hC : CP a n c) :
    Calls Try.prog 93 #[.slice a n c] w fun e w' => e = .returned (.tuple #[.int .i64 0, .int .i64 2]) ∧ w' = w := by
  have hn := hA.1
  have hmx := hA.2.1
  unfold maxLen at hmx
  have hby := hA.2.2.1
  rcases hg : getNum l with _ | ⟨x, m⟩
  · have HG := hide (getNum_no a n c l w hg hA hC)
    clear hA hC hr hn hmx hby hg
    go_enter Try.func93, Try.ntmps93
    go_wp2_with (go_at_call 90; refine HG.out.mono ?_; rintro e w' ⟨rfl, rfl⟩)
    go_ret2
    exact ⟨rfl, rfl⟩
  · have HG := hide (getNum_yes a n c l w x m hg hA hC)
    obtain ⟨g0, g1, g2, g3, g4, _, _⟩ := getNum_some hby hg
    by_cases hm : m = n
    · have hx : x > 1048576 := by
        unfold rdNum at hr
        rw [hg] at hr
        simp only [] at hr
        split at hr
        · cases hr
        · rename_i hh
          have : ¬ (x ≤ 1048576) := fun t => hh ⟨by omega, t⟩
          omega
      have hm1 : ((m : Int) == (n : Int)) = true := by simp; omega
      have hm2 : (m : Int) = (n : Int) := by omega
      clear hA hC hr hn hby hg hm
      go_enter Try.func93, Try.ntmps93
      go_wp2_with (go_at_call 90; refine HG.out.mono ?_; rintro e w' ⟨rfl, rfl⟩)
      go_ret2
      exact ⟨rfl, rfl⟩
    · have hm1 : ((m : Int) == (n : Int)) = false := by simp; omega
      have hm2 : ¬ (m : Int) = (n : Int) := by omega
      clear hA hC hr hn hby hg hm
      go_enter Try.func93, Try.ntmps93
      go_wp2_with (go_at_call 90; refine HG.out.mono ?_; rintro e w' ⟨rfl, rfl⟩)
      go_ret2
      exact ⟨rfl, rfl⟩
set_option maxHeartbeats 1000000 in
theorem readNum_ok (a : Option Addr) (n c : Nat) (l : List Int) (w : World) (x : Int) (hr : rdNum l = some x) (hA : BS w a n l) (hC : CP a n c) :
    Calls Try.prog 93 #[.slice a n c] w fun e w' => e = .returned (.tuple #[.int .i64 x, .int .i64 0]) ∧ w' = w := by
  have hn := hA.1
  have hmx := hA.2.1
  unfold maxLen at hmx
  have hby := hA.2.2.1
  rcases hg : getNum l with _ | ⟨y, m⟩
  · unfold rdNum at hr; rw [hg] at hr; cases hr
  · obtain ⟨g0, g1, g2, g3, g4, _, _⟩ := getNum_some hby hg
    have hh : m = l.length ∧ y ≤ 1048576 ∧ y = x := by
      unfold rdNum at hr
      rw [hg] at hr
      simp only [] at hr
      split at hr
      · rename_i h; cases hr; exact ⟨h.1, h.2, rfl⟩
      · cases hr
    obtain ⟨h1, h2, rfl⟩ := hh
    have hmn : m = n := by omega
    subst hmn
    have HG := hide (getNum_yes a m c l w y m hg hA hC)
    clear hA hC hr hn hby hg h1
    go_enter Try.func93, Try.ntmps93
    go_wp2_with (go_at_call 90; refine HG.out.mono ?_; rintro e w' ⟨rfl, rfl⟩)
    go_ret2
    exact ⟨rfl, rfl⟩

theorem rdC_none {b : List Int} (h : unpack b 5 = none) : rdC b = none := by unfold rdC; rw [h]
theorem rdC_bad {b : List Int} {ts : List (List Int)} {m : Nat} (h : unpack b 5 = some (ts, m)) (h2 : rdAll ts = none) : rdC b = none := by unfold rdC; rw [h]; simp only [h2]
theorem rdC_nought {b : List Int} {ts : List (List Int)} {m : Nat} {c : List Int} (h : unpack b 5 = some (ts, m)) (h2 : rdAll ts = some c) (h3 : ¬ pln c = c) : rdC b = none := by unfold rdC; rw [h]; simp only [h2]; rw [if_neg h3]
theorem rdC_ok {b : List Int} {ts : List (List Int)} {m : Nat} {c : List Int} (h : unpack b 5 = some (ts, m)) (h2 : rdAll ts = some c) (h3 : pln c = c) : rdC b = some (c, m) := by unfold rdC; rw [h]; simp only [h2]; rw [if_pos h3]

theorem unpackC_no (a : Option Addr) (n c : Nat) (l : List Int) (w : World) (hu : unpack l 5 = none) (hA : BS w a n l) (hC : CP a n c) :
    Calls Try.prog 66 #[.slice a n c, .int .i64 5] w fun e w' => e = .returned (.tuple #[.slice none 0 0, .int .i64 0, .int .i64 2]) ∧ Below w.heap.size w w' := by
  refine (unpack_any a n c l 5 w hA hC (by omega) (by omega)).mono ?_
  rintro e w1 ⟨(⟨_, rfl⟩ | ⟨qs, m, v, h, _⟩), hb⟩
  · exact ⟨rfl, hb⟩
  · rw [hu] at h; cases h
theorem unpackC_yes (a : Option Addr) (n c : Nat) (l : List Int) (w : World) (ts : List (List Int)) (m : Nat) (hu : unpack l 5 = some (ts, m)) (hA : BS w a n l) (hC : CP a n c) :
    Calls Try.prog 66 #[.slice a n c, .int .i64 5] w fun e w' => ∃ p cp, e = .returned (.tuple #[.slice p ts.length cp, .int .i64 (m : Int), .int .i64 0]) ∧ PC w' p ts.length ts ∧ Below w.heap.size w w' := by
  refine (unpack_any a n c l 5 w hA hC (by omega) (by omega)).mono ?_
  rintro e w1 ⟨(⟨h, _⟩ | ⟨qs, k, v, h, rfl, hO⟩), hb⟩
  · rw [hu] at h; cases h
  · rw [hu] at h
    simp only [Option.some.injEq, Prod.mk.injEq] at h
    obtain ⟨rfl, rfl⟩ := h
    obtain ⟨p, cp, rfl, hpc, _⟩ := hO.open
    exact ⟨p, cp, by simp, by simpa using hpc, hb⟩

set_option maxHeartbeats 4000000 in
theorem Read_any (a : Option Addr) (n cap : Nat) (l : List Int) (w : World) (hA : BS w a n l) (hC : CP a n cap) :
    Calls Try.prog 68 #[.slice a n cap] w fun e w' => ((rdC l = none ∧ e = .returned (.tuple #[.slice none 0 0, .int .i64 0, .int .i64 2])) ∨ ∃ (c : List Int) (m : Nat) (v : Value), rdC l = some (c, m) ∧ e = .returned (.tuple #[v, .int .i64 (m : Int), .int .i64 0]) ∧ OwnN w.heap.size w' v c) ∧ Below w.heap.size w w' := by
  rcases hu : unpack l 5 with _ | ⟨ts, m⟩
  · have HU := hide (unpackC_no a n cap l w hu hA hC)
    have HE := hide (rdC_none hu)
    clear hA hC hu
    go_enter Try.func68, Try.ntmps68
    go_wp2_with (go_at_call 66; refine HU.out.mono ?_; rintro e w1 ⟨rfl, hb⟩; have HB := hide hb; clear hb)
    go_ret3
    exact ⟨.inl ⟨HE.out, rfl⟩, HB.out⟩
  · have HU := hide (unpackC_yes a n cap l w ts m hu hA hC)
    have h5 := unpack_le hA.2.2.1 hu
    have HUn := hide hu
    clear hA hC hu
    obtain ⟨t, ht⟩ : ∃ t, t = ts.length := ⟨_, rfl⟩
    rw [← ht] at HU h5
    have Ht := hide ht
    clear ht
    have h5' : t ≤ 5 := by omega
    go_enter Try.func68, Try.ntmps68
    go_wp2_with (go_at_call 66; refine HU.out.mono ?_; rintro e w1 ⟨p, cp, rfl, hpc, hb⟩; have HB := hide hb; have HPC := hide hpc; clear hb hpc; refine Stop.at ?_)
    unfold Stop
    clear HU
    go_wp2
    go_loopw [8, 23] (fun v i wr => ∃ (k : Nat) (acc : List Int), k ≤ t ∧ i = .int .i64 k ∧ Hid (acc.length = k) ∧ Hid (OwnN w1.heap.size wr v acc) ∧ Hid (rdAll ts = (rdAll (ts.drop k)).map (acc ++ ·)) ∧ Hid (Below w1.heap.size w1 wr)) (fun _ i _ => t - (intOf i).toNat)
    case atStart => exact ⟨0, [], by omega, rfl, rfl, OwnN.nil _ _, by unfold Hid; simp, Below.refl _ _⟩
    case round =>
      obtain ⟨k, acc, hk, rfl, hal, hO, hR, hB⟩ := hrel
      obtain ⟨pv, cv, hv, hns, _⟩ := hO.out.open
      subst hv
      have HNS := hide hns
      clear hns
      by_cases hlt : k < t
      · rcases HPC.out.2.2 with h0 | ⟨b, off, rfl, hc⟩
        · omega
        · obtain ⟨x, len, cpx, hcell, hbs, hcp⟩ := hc k hlt
          have hck := ((Ext.refl w1).below hB.out) _ _ hcell
          have HBS := hide (hbs.below hB.out)
          have HCP := hide hcp
          clear hc hcell hbs hcp
          have hsz := hB.out.size
          rcases hq : rdNum (ts.getD k []) with _ | y
          · have HE := hide (rdC_bad HUn.out (rdAll_bad (by rw [← Ht.out]; exact hlt) hR.out hq))
            have HRN := hide (readNum_bad x len cpx _ _ hq HBS.out HCP.out)
            clear hR hq HBS HCP
            go_wp2_with (go_at_call 93; refine HRN.out.mono ?_; rintro e w' ⟨rfl, rfl⟩)
            go_ret3
            exact ⟨.inl ⟨HE.out, rfl⟩, bel_next HB.out hB.out⟩
          · have HR2 := hide (rdAll_step (by rw [← Ht.out]; exact hlt) hR.out hq)
            have HRN := hide (readNum_ok x len cpx _ _ y hq HBS.out HCP.out)
            clear hR hq HBS HCP
            go_wp2_with (first
              | (go_at_call 93; refine HRN.out.mono ?_; rintro e w' ⟨rfl, rfl⟩)
              | (at_builtin; refine Stop.at ?_))
            unfold Stop
            refine append_one rfl _ _ rfl w1.heap.size (.slice pv acc.length cv) acc y _ rfl rfl hO.out rfl (by have := hal.out; omega) hsz ?_
            intro v' w' g1 g2
            have G1 := hide g1
            have G2 := hide (g2 _ hB.out)
            clear g1 g2 hO hB
            go_wp2
            go_roundw
            case rel => exact ⟨k + 1, acc ++ [y], by omega, by go_num, by unfold Hid; simp [hal.out], G1, HR2, G2⟩
            case measure => simp [intOf]; omega
      · have hkl : k = t := by omega
        subst hkl
        have hall : rdAll ts = some acc := by
          have h := hR.out
          rw [List.drop_of_length_le (by rw [Ht.out]; exact Nat.le_refl _)] at h
          simpa [rdAll] using h
        have HALL := hide hall
        have HBT := hide (bel_next HB.out hB.out)
        have hsz : w.heap.size ≤ w1.heap.size := HB.out.size
        clear hR hall
        by_cases hz : 0 < acc.length ∧ acc.getD (acc.length - 1) 0 = 0
        · have HE := hide (rdC_nought HUn.out HALL.out (fun h => (pln_iff acc).1 h hz))
          obtain ⟨z1, z2⟩ := hz
          rcases HNS.out.2.2 with h0 | ⟨b, off, rfl, hc⟩
          · omega
          · have hck := hc (acc.length - 1) (by omega)
            rw [z2] at hck
            have hI : (acc.length : Int) > 0 := by omega
            have hI2 : (acc.length : Int) ≤ 5 := by have := hal.out; omega
            obtain ⟨q, hq⟩ : ∃ q, acc.length = q + 1 := ⟨acc.length - 1, by omega⟩
            rw [hq] at hck hI hI2 ⊢
            have hq1 : (((q + 1 : Nat) : Int) - 1) = q := by omega
            simp only [Nat.add_sub_cancel] at hck
            have hal2 := hal.out
            clear hc z2 z1 hO
            go_wp2
            go_ret3
            exact ⟨.inl ⟨HE.out, rfl⟩, HBT.out⟩
        · have HE := hide (rdC_ok HUn.out HALL.out ((pln_iff acc).2 hz))
          by_cases z1 : 0 < acc.length
          · have z2 : ¬ acc.getD (acc.length - 1) 0 = 0 := fun h => hz ⟨z1, h⟩
            rcases HNS.out.2.2 with h0 | ⟨b, off, rfl, hc⟩
            · omega
            · have hck := hc (acc.length - 1) (by omega)
              generalize hgd : acc.getD (acc.length - 1) 0 = z at *
              have hI : (acc.length : Int) > 0 := by omega
              have hI2 : (acc.length : Int) ≤ 5 := by have := hal.out; omega
              have HO := hide (hO.out.mono hsz)
              obtain ⟨q, hq⟩ : ∃ q, acc.length = q + 1 := ⟨acc.length - 1, by omega⟩
              rw [hq] at hck hI hI2 HO ⊢
              have hq1 : (((q + 1 : Nat) : Int) - 1) = q := by omega
              simp only [Nat.add_sub_cancel] at hck
              have z3 : (z == 0) = false := by simpa using z2
              clear hc z1 hO hgd hz
              go_wp2
              go_ret3
              exact ⟨.inr ⟨acc, m, _, HE.out, rfl, HO.out⟩, HBT.out⟩
          · have z0 : acc.length = 0 := by omega
            have HO := hide (hO.out.mono hsz)
            rw [z0] at HO ⊢
            clear hz hO z1
            go_wp2
            go_ret3
            exact ⟨.inr ⟨acc, m, _, HE.out, rfl, HO.out⟩, HBT.out⟩
end Go.Proofs.Ytooggheoaglbeaa

