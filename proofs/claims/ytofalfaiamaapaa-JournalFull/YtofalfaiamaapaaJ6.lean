/- What 'Light' tells of acts of a journal (layer 7). -/
import Derived.Test.YtofalfaiamaapaaJ5
namespace Go.Proofs.Ytofalfaiamaapaa
open Go.RowKit
set_option linter.unusedVariables false
/-- How many bytes records have. -/
def szR (l : List Rc) : Nat := (l.map fun x => x.b.length).sum
def szA (l : List A7) : Nat := (l.map fun x => szR x.l).sum
theorem szR_snoc (l : List Rc) (x : Rc) : szR (l ++ [x]) = szR l + x.b.length := by simp [szR]
theorem szA_snoc (l : List A7) (x : A7) : szA (l ++ [x]) = szA l + szR x.l := by simp [szA]
def Light7 (n : Nat) (l : List A7) (w : World) (e : Ending) (w' : World) : Prop := ∃ b : Bool, e = .returned (.bool b) ∧ (b = true → n ≤ 30 ∧ (∀ x ∈ l, x.l.length ≤ 10) ∧ szA l ≤ 6000) ∧ w' = w
set_option maxHeartbeats 4000000 in
theorem light7_any (a : Option Addr) (n cap : Nat) (l : List A7) (w : World) (hE : AS7 w a n l) (hS : ∀ x ∈ l, ∀ y ∈ x.l, y.b.length ≤ 140737488351232) : Calls Try.prog 14 #[.slice a n cap] w (Light7 n l w) := by
  have HV := hide hE
  have HSM := hide hS
  clear hS
  have hmx := hE.max
  unfold maxLen at hmx
  clear hE
  go_enter Try.func14, Try.ntmps14
  go_wp2
  go_loopw [3, 4] (fun s i wr => ∃ (k m : Nat), k ≤ n ∧ k ≤ 31 ∧ m ≤ 6000 ∧ s = .int .i64 m ∧ i = .int .i64 k ∧ Hid (∀ x ∈ l.take k, x.l.length ≤ 10) ∧ Hid (szA (l.take k) = m) ∧ wr = w) (fun _ i _ => n - (intOf i).toNat)
  case atStart => exact ⟨0, 0, by omega, by omega, by omega, rfl, rfl, (fun x hx => by simp at hx), (show _ = _ by simp [szA]), rfl⟩
  case round =>
    obtain ⟨k, m, hk, hk2, hm, rfl, rfl, HF, HSZ, hw⟩ := hrel
    subst hw
    by_cases hlt : k < n
    · by_cases hk30 : (k : Int) ≤ 30
      · obtain ⟨b, off, rfl⟩ := HV.out.addr (by omega)
        obtain ⟨x, r, hx, hrl, ⟨p, q, c, rfl, hrc, hcp⟩, hc⟩ := HV.out.at k hlt
        have x0 := hc 0 _ rfl
        have x1 := hc 1 _ rfl
        have hq := hrc.max
        unfold maxLen at hq
        have HR := hide hrc
        have hql := hide hrc.len
        have HX := hide hx
        clear hc hrc hcp hx hrl
        have hk0 : (0 : Int) ≤ (k : Int) := by omega
        have hk1 : (k : Int) < (n : Int) := by omega
        by_cases h10 : (q : Int) > 10
        · go_wp2
          go_ret
          exact ⟨false, rfl, (fun h => by cases h), rfl⟩
        · go_wp2
          go_loopw [3, 5] (fun s i wr2 => ∃ (j m2 : Nat), j ≤ q ∧ m2 ≤ 6000 ∧ s = .int .i64 m2 ∧ i = .int .i64 j ∧ Hid (m + szR (x.l.take j) = m2) ∧ wr2 = wr) (fun _ i _ => q - (intOf i).toNat)
          case atStart => exact ⟨0, m, by omega, by omega, rfl, rfl, (show _ = _ by simp [szR]), rfl⟩
          case round =>
            obtain ⟨j, m2, hj, hm2, rfl, rfl, HS2, hw⟩ := hrel
            subst hw
            by_cases hjq : j < q
            · obtain ⟨b2, o2, rfl⟩ := HR.out.addr (by omega)
              obtain ⟨⟨yk, yb⟩, py, ny, cy, hy, hBy, hCy, c0, c1⟩ := HR.out.one j hjq
              have hny := hide hBy.1
              have hnm := hBy.2.1
              unfold maxLen at hnm
              have HY := hide hy
              have hj0 : (0 : Int) ≤ (j : Int) := by omega
              have hj1 : (j : Int) < (q : Int) := by omega
              clear hy hBy hCy c0
              have hbig : (ny : Int) ≤ 140737488351232 := by
                have q1 := HSM.out x (List.mem_of_getElem? HX.out) _ (List.mem_of_getElem? HY.out)
                have q2 := hny.out
                simp only [] at q1 q2
                omega
              by_cases h6 : (m2 : Int) + (ny : Int) > 6000
              · go_wp2
                go_ret
                exact ⟨false, rfl, (fun h => by cases h), rfl⟩
              · have HS3 : Hid (m + szR (x.l.take (j + 1)) = m2 + ny) := by
                  unfold Hid
                  rw [take_snocR HY.out, szR_snoc, ← HS2.out]
                  have := hny.out
                  simp only [] at this ⊢
                  omega
                go_wp2
                go_roundw
                case rel => exact ⟨j + 1, m2 + ny, by omega, by omega, by go_num, by go_num, HS3, trivial⟩
                case measure => simp [intOf]; omega
            · have hjn : j = q := by omega
              subst hjn
              have HF2 : Hid (∀ x ∈ l.take (k + 1), x.l.length ≤ 10) := by
                intro y hy
                rw [take_snocR HX.out] at hy
                rcases List.mem_append.1 hy with e | e
                · exact HF.out y e
                · rw [List.mem_singleton.1 e]
                  have := hql.out
                  omega
              have HS3 : Hid (szA (l.take (k + 1)) = m2) := by
                unfold Hid
                rw [take_snocR HX.out, szA_snoc, HSZ.out]
                have := HS2.out
                rw [List.take_of_length_le (by rw [hql.out]; exact Nat.le_refl _)] at this
                exact this
              go_wp2
              go_roundw
              case rel => exact ⟨k + 1, m2, by omega, by omega, by omega, rfl, by go_num, HF2, HS3, trivial⟩
              case measure => simp [intOf]; omega
      · have hn30 : ¬ (n : Int) ≤ 30 := by omega
        go_wp2
        go_ret
        exact ⟨false, rfl, (fun h => by cases h), rfl⟩
    · have hkl : k = n := by omega
      subst hkl
      by_cases h30 : (k : Int) ≤ 30
      · have HA : Hid ((∀ x ∈ l, x.l.length ≤ 10) ∧ szA l ≤ 6000) := by
          have q := HF.out
          have q2 := HSZ.out
          rw [List.take_of_length_le (by rw [HV.out.len]; exact Nat.le_refl _)] at q q2
          exact ⟨q, by omega⟩
        go_wp2
        go_ret
        exact ⟨_, rfl, (fun h => ⟨by omega, HA.out⟩), rfl⟩
      · go_wp2
        go_ret
        exact ⟨false, rfl, (fun h => by cases h), rfl⟩
end Go.Proofs.Ytofalfaiamaapaa
