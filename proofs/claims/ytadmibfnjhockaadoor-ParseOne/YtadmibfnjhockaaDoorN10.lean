/- Layer 15: a rule is told; whether a text has letters and digits alone. -/
import Derived.Test.YtadmibfnjhockaaDoorNP
import Derived.Test.YtadmibfnjhockaaDoorN9
namespace Go.Proofs.YtadmibfnjhockaaDoor
open Go.RowKit Go.Lib Go.WideShapes Go.ChangeShapes
set_option linter.unusedVariables false
/-- A text that came in. -/
def InS15 (w : World) (v : Value) : Prop := ∃ t, v = .string t
set_option maxRecDepth 100000 in
theorem in_str15 {H : Type} {enc : TypeId × Value → H} {W : World} {v : Value} {d : DataW H} {p : List MemPlace} {base : Nat} (hok : Value.okWide Tryd.prog W .any base 9 v) (h : DataW.Trod enc Tryd.prog W 0 (fun _ => true) true 9 v d p) (hw : ∀ n ∈ d.weights Tryd.prog 9, n ≤ reachBytes) : InS15 W v := by
  obtain ⟨s, hs⟩ := okWide_string Tryd.underlying9 hok
  exact ⟨s, hs⟩
def ruleAB : ByteArray := ⟨#[114, 117, 108, 101, 32, 115, 116, 114, 105, 99, 116, 32, 114, 101, 102, 32, 97, 32, 98]⟩
theorem ruleAB_lin : linG (bytesL ruleAB) = ([(4, true, ⟨#[97]⟩, ⟨#[98]⟩, 0, [], 1)], 0, 0) := by
  have q := (one15 (a := ⟨#[97]⟩) (b := ⟨#[98]⟩) (j := 3) (by decide) ⟨by decide, by decide⟩ ⟨by decide, by decide⟩ (by decide) (by decide)).1 (by decide) (by decide)
  exact linG_ok q
set_option maxHeartbeats 4000000 in
set_option maxRecDepth 2000 in
theorem awake15 (w : World) (hv : LV w) : Calls Tryd.prog 6 #[] w fun e w' => e = .returned (.bool true) ∧ Below w.heap.size w w' := by
  have HR := hide (fun W (hW : LV W) => LinesP15 ruleAB W (by decide) hW)
  have HKP := hide (fun W => KeptQ15 ⟨#[114, 117, 108, 101]⟩ W)
  have HKT : Hid (keptB ⟨#[114, 117, 108, 101]⟩ = true) := by unfold Hid; decide
  rw [HKT.out] at HKP
  have HV := hide hv
  clear hv
  go_enter Tryd.func6, Tryd.ntmps6
  go_upto_region 2 with (go_at_call 7; refine (HR.out _ HV.out).mono ?_; rintro e w1 ⟨v, ds, x, e0, rfl, hl, ho, hb⟩; have HL := hide hl; have HO := hide ho; have HB := hide hb; clear hl ho hb)
  obtain ⟨rfl, rfl, rfl⟩ : ds = [(4, true, ⟨#[97]⟩, ⟨#[98]⟩, 0, [], 1)] ∧ x = 0 ∧ e0 = 0 := by
    have q := HL.out
    rw [ruleAB_lin] at q
    cases q
    exact ⟨rfl, rfl, rfl⟩
  obtain ⟨p, c, rfl, hsf, hcp⟩ := HO.out.open
  obtain ⟨b, off, rfl⟩ := hsf.addr (by decide)
  obtain ⟨d, p', c', hx, _, _, c0, c1, c2, c3, _⟩ := hsf.dc 0 (by decide)
  cases hx
  simp only [Nat.zero_mul, Nat.add_zero, List.length_singleton] at c0 c1 c2 c3 ⊢
  have q1 := eqK ⟨#[97]⟩ ⟨#[97]⟩
  rw [decide_eq_true rfl] at q1
  clear HL HO hsf hcp
  go_wp2_with (go_at_call 10; refine (HKP.out _).mono ?_; rintro e w2 ⟨rfl, hb⟩; replace HB := hide (bel_next HB.out hb); clear hb)
  go_ret
  exact ⟨rfl, HB.out⟩
/-- Letters and digits alone. -/
def plainT (l : List Int) : Bool := l.all (fun c => isLt c || isDg c)
theorem plainT_wd {l : List Int} (h : plainT l = true) : ∀ c ∈ l, isWd c = true := fun c hc => by
  have q := List.all_eq_true.1 h c hc
  unfold isWd
  rw [q]
  rfl
theorem name_wd {a : ByteArray} (h : nameB a = true) : (∀ c ∈ bytesL a, isWd c = true) ∧ bytesL a ≠ [] := by
  unfold nameB at h
  rw [Bool.and_eq_true] at h
  have q := h.1
  generalize bytesL a = l at q
  cases l with
  | nil => cases q
  | cons c t =>
    have q2 : (isLt c && t.all (fun x => isLt x || isDg x) && decide (t.length < 16)) = true := q
    rw [Bool.and_eq_true, Bool.and_eq_true] at q2
    refine ⟨fun x hx => ?_, fun e => by cases e⟩
    rcases List.mem_cons.1 hx with rfl | hx
    · unfold isWd
      rw [q2.1.1]
      rfl
    · have q3 := List.all_eq_true.1 q2.1.2 x hx
      unfold isWd
      rw [q3]
      rfl
set_option maxHeartbeats 4000000 in
theorem plainQ15 (s : ByteArray) (w : World) (hs : s.size ≤ 10000) : Calls Tryd.prog 13 #[.string s] w fun e w' => e = .returned (.bool (plainT (bytesL s))) ∧ w' = w := by
  obtain ⟨n, hn⟩ : ∃ n, s.size = n := ⟨_, rfl⟩
  have HN := hide hn
  go_enter Tryd.func13, Tryd.ntmps13
  go_wp2
  go_loopw [3] (fun v wr => ∃ i : Nat, i ≤ n ∧ v = .int .i64 i ∧ Hid (plainT ((bytesL s).take i) = true) ∧ wr = w) (fun v _ => n - (RowKit.intOf v).toNat)
  case atStart => exact ⟨0, by omega, rfl, rfl, rfl⟩
  case round =>
    obtain ⟨i, hi, rfl, HF, hww⟩ := hrel
    have hww2 := hww.symm
    subst hww2
    clear hww
    by_cases hlt : i < n
    · have hi0 : (0 : Int) ≤ (i : Int) := by omega
      have hi1 : (i : Int) < (n : Int) := by omega
      have hat := bytesL_at (s := s) (i := i) (by rw [hn]; exact hlt)
      have hix : ∀ h : i < s.size, ((s[i]'h).toNat : Int) = byS s i := fun h => byS_is h
      have hbd := byS_bd s i
      have hstep : plainT ((bytesL s).take (i + 1)) = (isLt (byS s i) || isDg (byS s i)) := by
        unfold plainT at HF ⊢
        rw [List.take_add_one, List.all_append, HF.out, hat]
        simp
      have hfar : (isLt (byS s i) || isDg (byS s i)) = false → plainT (bytesL s) = false := fun h => by
        unfold plainT
        rw [List.all_eq_false]
        exact ⟨_, List.mem_of_getElem? hat, by rw [h]; decide⟩
      generalize byS s i = c at *
      by_cases h1 : 97 ≤ c ∧ c ≤ 122
      · have HF2 : Hid (plainT ((bytesL s).take (i + 1)) = true) := by unfold Hid; rw [hstep]; unfold isLt; rw [decide_eq_true h1]; rfl
        obtain ⟨h2, h3⟩ := h1
        clear hstep hfar hat
        go_wp2
        go_roundw
        case rel => exact ⟨i + 1, by omega, by go_num, HF2, by trivial⟩
        case measure => simp [RowKit.intOf]; omega
      · by_cases h4 : 48 ≤ c ∧ c ≤ 57
        · have HF2 : Hid (plainT ((bytesL s).take (i + 1)) = true) := by unfold Hid; rw [hstep]; unfold isDg; rw [decide_eq_true h4]; simp
          obtain ⟨h2, h3⟩ := h4
          have h5 : ¬ 97 ≤ c := by omega
          clear hstep hfar hat h1
          go_wp2
          go_roundw
          case rel => exact ⟨i + 1, by omega, by go_num, HF2, by trivial⟩
          case measure => simp [RowKit.intOf]; omega
        · have HF2 : Hid (plainT (bytesL s) = false) := hfar (by unfold isLt isDg; rw [decide_eq_false h1, decide_eq_false h4]; rfl)
          clear hstep hfar hat
          by_cases h2 : 97 ≤ c
          · have h3 : ¬ c ≤ 122 := by omega
            have h5 : ¬ c ≤ 57 := by omega
            have h6 : 48 ≤ c := by omega
            clear h1 h4
            go_wp2
            go_ret
            exact ⟨by rw [HF2.out]; rfl, rfl⟩
          · by_cases h3 : 48 ≤ c
            · have h5 : ¬ c ≤ 57 := by omega
              clear h1 h4
              go_wp2
              go_ret
              exact ⟨by rw [HF2.out]; rfl, rfl⟩
            · clear h1 h4
              go_wp2
              go_ret
              exact ⟨by rw [HF2.out]; rfl, rfl⟩
    · obtain rfl : i = n := by omega
      have HF2 : Hid (plainT (bytesL s) = true) := by
        have q := HF.out
        rw [List.take_of_length_le (by rw [bytesL_sz]; omega)] at q
        exact q
      go_wp2
      go_ret
      exact ⟨by rw [HF2.out]; rfl, rfl⟩
theorem bytesL_ne {a : ByteArray} (h : a ≠ ⟨#[]⟩) : bytesL a ≠ [] := fun e => h (by
  have q := congrArg List.length e
  have q2 : a.size = 0 := by rw [bytesL_sz] at q; exact q
  obtain ⟨⟨l⟩⟩ := a
  cases l with
  | nil => rfl
  | cons c t => cases q2)
/-- Why a line of two words is none. -/
def HBad (a b : ByteArray) (n m : Nat) (e0 : Int) : Prop := ¬ e0 = 0 ∨ (e0 = 0 ∧ a = ⟨#[]⟩) ∨ (e0 = 0 ∧ ¬ a = ⟨#[]⟩ ∧ b = ⟨#[]⟩) ∨ (e0 = 0 ∧ ¬ a = ⟨#[]⟩ ∧ ¬ b = ⟨#[]⟩ ∧ (16 : Int) < (n : Int)) ∨ (e0 = 0 ∧ ¬ a = ⟨#[]⟩ ∧ ¬ b = ⟨#[]⟩ ∧ ¬ (16 : Int) < (n : Int) ∧ (16 : Int) < (m : Int)) ∨ (e0 = 0 ∧ ¬ a = ⟨#[]⟩ ∧ ¬ b = ⟨#[]⟩ ∧ ¬ (16 : Int) < (n : Int) ∧ ¬ (16 : Int) < (m : Int) ∧ plainT (bytesL a) = false) ∨ (e0 = 0 ∧ ¬ a = ⟨#[]⟩ ∧ ¬ b = ⟨#[]⟩ ∧ ¬ (16 : Int) < (n : Int) ∧ ¬ (16 : Int) < (m : Int) ∧ plainT (bytesL a) = true ∧ plainT (bytesL b) = false)
end Go.Proofs.YtadmibfnjhockaaDoor
