/- bytes.Equal; what a record's bytes are read as. -/
import Derived.Test.YtgmimneendnfgaaWSize
import Derived.Test.YtgmimneendnfgaaWHeld
namespace Go.Proofs.Ytgmimneendnfgaa
open Go.RowKit
set_option linter.unusedVariables false

theorem str_of {w : World} {p : Option Addr} {n c : Nat} {l : List Int} (h : BS w p n l) (hn : 0 < n) : (convert 27 9 (.slice p n c)).run Try.prog w = .ok (.string (strOfNums l)) w := by
  obtain ⟨g1, g2, g3, g4⟩ := h
  rcases g4 with h0 | ⟨b, off, rfl, hc⟩
  · omega
  · exact run_convert_bytes_arg (P := Try.prog) w 27 5 Try.underlying27 Try.underlying5 b off n c l g1 hc 9 Try.underlying9
theorem u8_inj {a b : Int} (ha0 : 0 ≤ a) (ha : a < 256) (hb0 : 0 ≤ b) (hb : b < 256) (h : UInt8.ofNat a.toNat = UInt8.ofNat b.toNat) : a = b := by
  have e1 : (UInt8.ofNat a.toNat).toNat = a.toNat := by simp; omega
  have e2 : (UInt8.ofNat b.toNat).toNat = b.toNat := by simp; omega
  have := congrArg UInt8.toNat h
  rw [e1, e2] at this
  omega
theorem map_inj : ∀ (l m : List Int), By l → By m → (l.map fun n => UInt8.ofNat n.toNat) = (m.map fun n => UInt8.ofNat n.toNat) → l = m
  | [], [], _, _, _ => rfl
  | [], _ :: _, _, _, h => by simp at h
  | _ :: _, [], _, _, h => by simp at h
  | a :: l, b :: m, hl, hm, h => by
    simp only [List.map_cons, List.cons.injEq] at h
    rw [u8_inj hl.head.1 hl.head.2 hm.head.1 hm.head.2 h.1, map_inj l m hl.tail hm.tail h.2]
theorem str_eq (l m : List Int) (hl : By l) (hm : By m) : ((strOfNums l).toList == (strOfNums m).toList) = decide (l = m) := by
  unfold strOfNums
  rw [ByteArray.toList_mk, ByteArray.toList_mk]
  by_cases h : l = m
  · subst h; simp
  · rw [decide_eq_false h]
    exact beq_eq_false_iff_ne.2 fun hh => h (map_inj l m hl hm hh)

set_option maxHeartbeats 400000 in
theorem equal_as (a b : Option Addr) (n c m d : Nat) (l k : List Int) (w : World) (r : Bool) (hr : decide (l = k) = r) (hA : BS w a n l) (hB : BS w b m k) (hn : 0 < n) (hm : 0 < m) :
    Calls Try.prog 37 #[.slice a n c, .slice b m d] w fun e w' => e = .returned (.bool r) ∧ w' = w := by
  have h1 := str_of (c := c) hA hn
  have h2 := str_of (c := d) hB hm
  have h3 := str_eq l k hA.2.2.1 hB.2.2.1
  rw [hr] at h3
  clear hA hB
  go_enter Try.func37, Try.ntmps37
  go_wp2
  go_ret
  exact ⟨rfl, rfl⟩

/-- The Kind, the body, how many bytes, and the error. -/
def getRecord (b : List Int) : Int × List Int × Nat × Int :=
  match b with
  | [] => (0, [], 0, 3)
  | k :: r =>
    if k < 1 ∨ 200 < k then (0, [], 0, 2)
    else if (getSize r).2.2 ≠ 0 then (0, [], 0, (getSize r).2.2)
    else if b.length < 1 + (getSize r).2.1 + (getSize r).1.toNat + 4 then (0, [], 0, 3)
    else if (b.drop (1 + (getSize r).2.1 + (getSize r).1.toNat)).take 4 = be 4 (of [b.take (1 + (getSize r).2.1 + (getSize r).1.toNat)]) then
      (k, (b.drop (1 + (getSize r).2.1)).take (getSize r).1.toNat, 1 + (getSize r).2.1 + (getSize r).1.toNat + 4, 0)
    else (0, [], 0, 2)

theorem getSize_ok {r : List Int} (hr : By r) (h : (getSize r).2.2 = 0) : ∃ s m : Nat, getSize r = ((s : Int), m, 0) ∧ s ≤ 65536 ∧ 1 ≤ m ∧ m ≤ 4 ∧ m ≤ r.length ∧ getNum r = some ((s : Int), m) := by
  rcases r with _ | ⟨c, q⟩
  · simp [getSize] at h
  · have hc := hr.head
    have hb := val_bd (q.take c.toNat) (hr.tail.take _)
    have e : getSize (c :: q) = if 3 < c ∨ ¬ nz (q.take c.toNat) ∨ 65536 < val (q.take c.toNat) * 256 ^ (c.toNat - q.length) then (0, 0, 2) else if q.length < c.toNat then (0, 0, 3) else (val (q.take c.toNat), 1 + c.toNat, 0) := rfl
    rw [e] at h ⊢
    split at h
    · simp at h
    · rename_i h1
      split at h
      · simp at h
      · rename_i h2
        rw [if_neg h1, if_neg h2]
        have hz : nz (q.take c.toNat) := by
          rcases Decidable.em (nz (q.take c.toNat)) with hz | hz
          · exact hz
          · exact absurd (.inr (.inl hz)) h1
        have h3 : ¬ 65536 < val (q.take c.toNat) * 256 ^ (c.toNat - q.length) := fun hh => h1 (.inr (.inr hh))
        have h0 : c.toNat - q.length = 0 := by omega
        rw [h0, Int.pow_zero, Int.mul_one] at h3
        refine ⟨(val (q.take c.toNat)).toNat, 1 + c.toNat, ?_, by omega, by omega, by omega, by simp; omega, ?_⟩
        · rw [Int.toNat_of_nonneg hb.1]
        · rw [getNum_cons, if_neg, Int.toNat_of_nonneg hb.1, Nat.add_comm]
          rintro (hh | hh | hh)
          · omega
          · omega
          · exact hh hz

theorem results_tmp4 {fn : Func} {t u v x : Tmp} (h : fn.results = #[.tmp t, .tmp u, .tmp v, .tmp x]) (tmps : Array Value) (P : Program) (w : World) :
    (results fn tmps).run P w = .ok (.tuple #[tmps.getD t undef, tmps.getD u undef, tmps.getD v undef, tmps.getD x undef]) w := by
  simp [results, h]
end Go.Proofs.Ytgmimneendnfgaa
