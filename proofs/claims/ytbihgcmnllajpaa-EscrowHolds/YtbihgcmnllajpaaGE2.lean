/- Accounts in memory; the document's Get, Number, Rights of layer 11; Light. -/
import Derived.Test.YtbihgcmnllajpaaGE0
import Derived.Test.YtbihgcmnllajpaaGT1
namespace Go.Proofs.Ytbihgcmnllajpaa
open Go.RowKit Go.Lib
set_option linter.unusedVariables false
def encA (x : Ac) : List Value := [.string x.1, .int .i64 (atH x.2 0), .int .i64 (atH x.2 1), .int .i64 (atH x.2 2), .int .i64 (atH x.2 3), .int .i64 (atH x.2 4)]
theorem encA_len (x : Ac) : (encA x).length = 6 := rfl
theorem encA_one (x : Ac) : ∀ v ∈ encA x, v.oneCell' = true := by
  intro v hv
  simp only [encA, List.mem_cons, List.not_mem_nil, or_false] at hv
  rcases hv with rfl | rfl | rfl | rfl | rfl | rfl <;> rfl
/-- A slice's accounts. -/
def AC (w : World) (a : Option Addr) (n : Nat) (s : List Ac) : Prop := RS encA 6 w a n s ∧ FvA s
theorem AC.below {w w' : World} {a : Option Addr} {n : Nat} {s : List Ac} (h : AC w a n s) (hb : Below w.heap.size w w') : AC w' a n s := ⟨RS.below h.1 hb, h.2⟩
theorem AC.nil (w : World) (p : Option Addr) : AC w p 0 [] := ⟨RS.nil w p, fun x hx => absurd hx List.not_mem_nil⟩
theorem AC.at {w : World} {b off n : Nat} {s : List Ac} (h : AC w (some ⟨b, off, none⟩) n s) (i : Nat) (hi : i < n) : ∃ (k : ByteArray) (g : List Int), s[i]? = some (k, g) ∧ g.length = 5 ∧ w.cell? ⟨b, off + i * 6, none⟩ = some (.string k) ∧ ∀ j, j < 5 → w.cell? ⟨b, off + i * 6 + 1 + j, none⟩ = some (.int .i64 (atH g j)) := by
  have hl : i < s.length := by rw [h.1.1]; exact hi
  have hx : s[i]? = some s[i] := List.getElem?_eq_getElem hl
  rcases h.1.2.2 with h0 | ⟨b', off', ha, hc⟩
  · omega
  · cases ha
    have q := hc i _ hx
    refine ⟨s[i].1, s[i].2, hx, h.2 _ (List.getElem_mem hl), q 0 _ rfl, fun j hj => by rw [Nat.add_assoc]; refine q (1 + j) _ ?_; rcases (by omega : j = 0 ∨ j = 1 ∨ j = 2 ∨ j = 3 ∨ j = 4) with rfl | rfl | rfl | rfl | rfl <;> rfl⟩
theorem AC.addr {w : World} {a : Option Addr} {n : Nat} {s : List Ac} (h : AC w a n s) (h0 : 0 < n) : ∃ b off, a = some ⟨b, off, none⟩ := by
  rcases h.1.2.2 with hz | ⟨b, off, ha, _⟩
  · omega
  · exact ⟨b, off, ha⟩
theorem havA_yes {s : List Ac} {k : Nat} {x : Ac} {t : ByteArray} (hb : ∀ y ∈ s.take k, kA y ≠ t) (hx : s[k]? = some x) (he : x.1 = t) : havA s t = x.2 := by
  unfold havA
  rw [getG_yes hb hx he]
theorem havA_no {s : List Ac} {t : ByteArray} (hb : ∀ y ∈ s, kA y ≠ t) : havA s t = nul5 := by
  unfold havA
  rw [getG_not hb]
theorem nul5_get (j : Nat) : atH nul5 j = 0 := by
  rcases (by omega : j = 0 ∨ j = 1 ∨ j = 2 ∨ j = 3 ∨ j = 4 ∨ 5 ≤ j) with rfl | rfl | rfl | rfl | rfl | h
  · rfl
  · rfl
  · rfl
  · rfl
  · rfl
  · unfold atH
    rw [List.getD_eq_getElem?_getD, List.getElem?_eq_none (by exact h)]
    rfl
set_option maxHeartbeats 2000000 in
theorem Get11_ref (a : Option Addr) (n cap : Nat) (s : List Ac) (t : ByteArray) (r : Nat) (hr : r < 5) (w : World) (hA : AC w a n s) : Calls Try.prog 30 #[.slice a n cap, .string t, .int .i64 ((r : Int) + 1)] w fun e w' => e = .returned (.int .i64 (atH (havA s t) r)) ∧ w' = w := by
  have HV := hide hA
  have HLEN := hide hA.1.1
  have hmx := hA.1.2.1
  unfold maxLen at hmx
  have r1 : (1 : Int) ≤ (r : Int) + 1 := by omega
  have r2 : (r : Int) + 1 ≤ 5 := by omega
  have r3 : (r : Int) < 5 := by omega
  have r4 : (0 : Int) ≤ (r : Int) := by omega
  have r5 := wrapT (show r ≤ 9223372036854775807 by omega)
  clear hA
  go_enter Try.func30, Try.ntmps30
  go_wp2
  go_loopw [7] (fun i wr => ∃ k : Nat, k ≤ n ∧ i = .int .i64 k ∧ Hid (∀ y ∈ s.take k, kA y ≠ t) ∧ wr = w) (fun i _ => n - (intOf i).toNat)
  case atStart => exact ⟨0, by omega, rfl, (fun y hy => by simp at hy), rfl⟩
  case round =>
    obtain ⟨k0, hk, rfl, HF, hw⟩ := hrel
    subst hw
    by_cases hlt : k0 < n
    · obtain ⟨b, off, rfl⟩ := HV.out.addr (by omega)
      obtain ⟨k, g, hx, hg5, c0, cj⟩ := HV.out.at k0 hlt
      have c1 := cj r hr
      clear cj
      have hk0 : (0 : Int) ≤ (k0 : Int) := by omega
      have hk1 : (k0 : Int) < (n : Int) := by omega
      have hq := eqK k t
      by_cases he : k = t
      · rw [decide_eq_true he] at hq
        have HG := hide (havA_yes HF.out hx he)
        clear hx he
        go_wp2
        go_ret
        exact ⟨by rw [HG.out]; rfl, rfl⟩
      · rw [decide_eq_false he] at hq
        have HF2 : Hid (∀ y ∈ s.take (k0 + 1), kA y ≠ t) := by
          intro y hy
          rw [takeG_snoc hx] at hy
          rcases List.mem_append.1 hy with q | q
          · exact HF.out y q
          · simp at q; subst q; exact he
        clear hx he
        go_wp2
        go_roundw
        case rel => exact ⟨k0 + 1, by omega, by go_num, HF2, trivial⟩
        case measure => simp [intOf]; omega
    · obtain rfl : k0 = n := by omega
      have HG : Hid (havA s t = nul5) := havA_no (by have := HF.out; rwa [← HLEN.out, List.take_length] at this)
      clear HF
      go_wp2
      go_ret
      exact ⟨by rw [HG.out, nul5_get]; rfl, rfl⟩
/-- What the first have. -/
def psum (h : List Int) : Nat → Int
  | 0 => 0
  | q + 1 => psum h q + atH h q
theorem psum_num (h : List Int) : psum h 5 = numA h := by
  unfold numA
  simp only [psum]
  omega
def bd40 (h : List Int) : Prop := ∀ j, -1099511627776 ≤ atH h j ∧ atH h j ≤ 1099511627776
theorem psum_bd {h : List Int} (hb : bd40 h) : ∀ q : Nat, -(1099511627776 * (q : Int)) ≤ psum h q ∧ psum h q ≤ 1099511627776 * (q : Int)
  | 0 => by simp [psum]
  | q + 1 => by
    have ih := psum_bd hb q
    have := hb q
    rw [psum]
    omega
theorem bd_of {h : List Int} (ha : h.all in40 = true) : bd40 h := by
  intro j
  rcases Nat.lt_or_ge j h.length with hj | hj
  · unfold atH
    rw [List.getD_eq_getElem?_getD, List.getElem?_eq_getElem hj]
    have := of_decide_eq_true (List.all_eq_true.1 ha _ (List.getElem_mem hj))
    exact this
  · unfold atH
    rw [List.getD_eq_getElem?_getD, List.getElem?_eq_none hj]
    exact ⟨by decide, by decide⟩
theorem of_bd {h : List Int} (hb : bd40 h) : h.all in40 = true := by
  rw [List.all_eq_true]
  intro x hx
  obtain ⟨j, hj⟩ := List.mem_iff_getElem?.1 hx
  have := hb j
  unfold atH at this
  rw [List.getD_eq_getElem?_getD, hj] at this
  exact decide_eq_true this
set_option maxHeartbeats 2000000 in
theorem Number11_ref (a : Option Addr) (n cap : Nat) (s : List Ac) (t : ByteArray) (w : World) (hA : AC w a n s) (hb : bd40 (havA s t)) : Calls Try.prog 19 #[.slice a n cap, .string t] w fun e w' => e = .returned (.int .i64 (numA (havA s t))) ∧ w' = w := by
  have HV := hide hA
  have HBD := hide hb
  clear hA hb
  go_enter Try.func19, Try.ntmps19
  go_wp2
  go_loopw [5, 6] (fun v i wr => ∃ q : Nat, q ≤ 5 ∧ v = .int .i64 (psum (havA s t) q) ∧ i = .int .i64 ((q : Int) + 1) ∧ wr = w) (fun _ i _ => 6 - (intOf i).toNat)
  case atStart => exact ⟨0, by omega, rfl, rfl, rfl⟩
  case round =>
    obtain ⟨q, hq, rfl, rfl, hw⟩ := hrel
    subst hw
    by_cases hlt : q < 5
    · have h1 : (q : Int) + 1 ≤ 5 := by omega
      have hp := psum_bd HBD.out (q + 1)
      have hw : IntKind.i64.wrap (psum (havA s t) q + atH (havA s t) q) = psum (havA s t) (q + 1) := by
        rw [psum] at hp ⊢
        rw [IntKind.wrap_i64]
        omega
      clear hp
      go_wp2_with (go_at_call 30; refine (Get11_ref a n cap s t q hlt _ HV.out).mono ?_; rintro e w1 ⟨rfl, hw1⟩; subst hw1)
      go_roundw
      case rel => exact ⟨q + 1, by omega, rfl, by go_num, trivial⟩
      case measure => simp [intOf]; omega
    · obtain rfl : q = 5 := by omega
      go_wp2
      go_ret
      exact ⟨by rw [psum_num]; rfl, rfl⟩
set_option maxHeartbeats 2000000 in
theorem Rights11_ref (a : Option Addr) (n cap : Nat) (s : List Ac) (t : ByteArray) (r : Nat) (hr : r < 5) (f : Int) (hf : -1000 ≤ f ∧ f ≤ 0) (w : World) (hA : AC w a n s) (hb : bd40 (havA s t)) : Calls Try.prog 20 #[.slice a n cap, .string t, .int .i64 ((r : Int) + 1), .int .i64 f] w fun e w' => e = .returned (.int .i64 (rgtA (havA s t) (r + 1) f)) ∧ w' = w := by
  have HV := hide hA
  have hb0 := hb r
  clear hA hb
  rcases r with _ | r
  · have hw : IntKind.i64.wrap (atH (havA s t) 0 - f) = rgtA (havA s t) (0 + 1) f := by
      rw [IntKind.wrap_i64]
      show _ = atH (havA s t) 0 - f
      omega
    go_enter Try.func20, Try.ntmps20
    go_wp2_with (go_at_call 30; refine (Get11_ref a n cap s t 0 hr _ HV.out).mono ?_; rintro e w1 ⟨rfl, hw1⟩; subst hw1)
    go_ret
    exact ⟨rfl, rfl⟩
  · have h1 : ¬ (((r + 1 : Nat) : Int) + 1 = 1) := by omega
    have h2 : ((((r + 1 : Nat) : Int) + 1) == 1) = false := by rw [beq_eq_false_iff_ne]; exact h1
    have HR : Hid (rgtA (havA s t) (r + 1 + 1) f = atH (havA s t) (r + 1)) := by
      unfold Hid rgtA
      rw [if_neg (by omega)]
      rfl
    go_enter Try.func20, Try.ntmps20
    go_wp2_with (go_at_call 30; refine (Get11_ref a n cap s t (r + 1) hr _ HV.out).mono ?_; rintro e w1 ⟨rfl, hw1⟩; subst hw1)
    go_ret
    exact ⟨by rw [HR.out]; rfl, rfl⟩
def LightA (n : Nat) (s : List Ac) (w : World) (e : Ending) (w' : World) : Prop := ∃ b : Bool, e = .returned (.bool b) ∧ (b = true → n ≤ 60 ∧ ∀ x ∈ s, x.1.size ≤ 100) ∧ w' = w
set_option maxHeartbeats 2000000 in
theorem light11 (a : Option Addr) (n cap : Nat) (s : List Ac) (w : World) (hA : AC w a n s) : Calls Try.prog 7 #[.slice a n cap] w (LightA n s w) := by
  have HV := hide hA
  have HLEN := hide hA.1.1
  have hmx := hA.1.2.1
  unfold maxLen at hmx
  clear hA
  go_enter Try.func7, Try.ntmps7
  go_wp2
  go_loopw [3] (fun i wr => ∃ k : Nat, k ≤ n ∧ k ≤ 61 ∧ i = .int .i64 k ∧ Hid (∀ x ∈ s.take k, x.1.size ≤ 100) ∧ wr = w) (fun i _ => n - (intOf i).toNat)
  case atStart => exact ⟨0, by omega, by omega, rfl, (fun x hx => by simp at hx), rfl⟩
  case round =>
    obtain ⟨k0, hk, hk2, rfl, HF, hw⟩ := hrel
    subst hw
    by_cases hlt : k0 < n
    · by_cases hk30 : (k0 : Int) ≤ 60
      · obtain ⟨b, off, rfl⟩ := HV.out.addr (by omega)
        obtain ⟨k, g, hx, hg5, c0, cj⟩ := HV.out.at k0 hlt
        clear cj
        have hk0 : (0 : Int) ≤ (k0 : Int) := by omega
        have hk1 : (k0 : Int) < (n : Int) := by omega
        by_cases q1 : (k.size : Int) ≤ 100
        · have HF2 : Hid (∀ x ∈ s.take (k0 + 1), x.1.size ≤ 100) := by
            intro x hx'
            rw [takeG_snoc hx] at hx'
            rcases List.mem_append.1 hx' with q | q
            · exact HF.out x q
            · simp at q
              subst q
              simp only
              omega
          clear hx
          go_wp2
          go_roundw
          case rel => exact ⟨k0 + 1, by omega, by omega, by go_num, HF2, trivial⟩
          case measure => simp [intOf]; omega
        · clear hx
          go_wp2
          go_ret
          exact ⟨false, rfl, (fun h => by cases h), rfl⟩
      · have hn30 : ¬ (n : Int) ≤ 60 := by omega
        go_wp2
        go_ret
        exact ⟨false, by simp, (fun h => by cases h), rfl⟩
    · obtain rfl : k0 = n := by omega
      have HF2 : Hid (∀ x ∈ s, x.1.size ≤ 100) := by have := HF.out; rwa [← HLEN.out, List.take_length] at this
      by_cases hk30 : (k0 : Int) ≤ 60
      · go_wp2
        go_ret
        exact ⟨true, by simp, (fun _ => ⟨by omega, HF2.out⟩), rfl⟩
      · go_wp2
        go_ret
        exact ⟨false, by simp, (fun h => by cases h), rfl⟩
end Go.Proofs.Ytbihgcmnllajpaa
