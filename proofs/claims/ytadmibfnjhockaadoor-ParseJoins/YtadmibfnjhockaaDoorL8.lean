/- The document's Same, and its Read of any text (layer 14). -/
import Derived.Test.YtadmibfnjhockaaDoorL7
import Derived.Test.YtadmibfnjhockaaDoorG0
namespace Go.Proofs.YtadmibfnjhockaaDoor
open Go.RowKit Go.Lib
set_option linter.unusedVariables false
theorem KS.below {w w' : World} {a : Option Addr} {n : Nat} {s : List Tk} (h : KS w a n s) (hb : Below w.heap.size w w') : KS w' a n s := RS.below h hb
theorem KS.addr {w : World} {a : Option Addr} {n : Nat} {s : List Tk} (h : KS w a n s) (h0 : 0 < n) : ∃ b off, a = some ⟨b, off, none⟩ := by
  rcases h.2.2 with hz | ⟨b, off, ha, _⟩
  · omega
  · exact ⟨b, off, ha⟩
theorem KS.at {w : World} {b off n : Nat} {s : List Tk} (h : KS w (some ⟨b, off, none⟩) n s) (i : Nat) (hi : i < n) : ∃ (kd : Int) (tx : ByteArray) (nn ln : Int), s[i]? = some (kd, tx, nn, ln) ∧ w.cell? ⟨b, off + i * 4, none⟩ = some (.int .i64 kd) ∧ w.cell? ⟨b, off + i * 4 + 1, none⟩ = some (.string tx) ∧ w.cell? ⟨b, off + i * 4 + 2, none⟩ = some (.int .i64 nn) ∧ w.cell? ⟨b, off + i * 4 + 3, none⟩ = some (.int .i64 ln) := by
  have hl : i < s.length := by rw [h.1]; exact hi
  have hx : s[i]? = some s[i] := List.getElem?_eq_getElem hl
  rcases h.2.2 with h0 | ⟨b', off', ha, hc⟩
  · omega
  · cases ha
    have q := hc i _ hx
    exact ⟨_, _, _, _, hx, q 0 _ rfl, q 1 _ rfl, q 2 _ rfl, q 3 _ rfl⟩
theorem KS.take {w : World} {p : Option Addr} {n : Nat} {l : List Tk} (h : KS w p n l) (k : Nat) (hk : k ≤ n) : KS w p k (l.take k) := by
  refine ⟨by rw [List.length_take, h.1]; omega, Nat.le_trans hk h.2.1, ?_⟩
  rcases h.2.2 with h0 | ⟨b, off, ha, hc⟩
  · left; omega
  · refine .inr ⟨b, off, ha, fun i x hx => hc i x ?_⟩
    rw [List.getElem?_take] at hx
    split at hx
    · exact hx
    · cases hx
theorem bytesL_app (a b : ByteArray) : bytesL (a ++ b) = bytesL a ++ bytesL b := by
  unfold bytesL
  rw [ByteArray.data_append, Array.toList_append, List.map_append]
/-- What Read tells, in memory. -/
def RdP (s : ByteArray) (w : World) (e : Ending) (w' : World) : Prop := ∃ p c ts x e0, e = .returned (.tuple #[.slice p ts.length c, .int .i64 x, .int .i64 e0]) ∧ lexB (bytesL s) = (ts, x, e0) ∧ KS w' p ts.length ts ∧ CP p ts.length c ∧ Below w.heap.size w w'
set_option maxHeartbeats 2000000 in
theorem ReadBig14 (s : ByteArray) (w : World) (hs : ¬ s.size ≤ 4096) (hm : s.size ≤ maxLen) : Calls Tryd.prog 16 #[.string s] w (RdP s w) := by
  have HB : Hid (lexB (bytesL s) = ([], 0, 7)) := by unfold Hid lexB; rw [if_pos (by rw [bytesL_sz]; omega)]
  obtain ⟨n, hn⟩ : ∃ n, s.size = n := ⟨_, rfl⟩
  have hn4 : (4096 : Int) < (n : Int) := by omega
  have hnm : n ≤ maxLen := by omega
  go_enter Tryd.func16, Tryd.ntmps16
  go_wp2
  go_ret3
  exact ⟨none, 0, [], 0, 7, rfl, HB.out, RS.nil _ _, by simp [CP, maxLen], Below.refl _ _⟩
theorem ReadD14 (s : ByteArray) (w : World) (hm : s.size ≤ maxLen) : Calls Tryd.prog 16 #[.string s] w (RdP s w) := by
  by_cases hs : s.size ≤ 4096
  · refine (ReadR14 s w hs).mono ?_
    rintro e w' ⟨v, ts, x, e0, rfl, hf, ho, hb⟩
    obtain ⟨p, c, rfl, hr, hcp⟩ := ho.open encTk_len
    exact ⟨p, c, ts, x, e0, rfl, by unfold lexB; rw [if_neg (by rw [bytesL_sz]; omega)]; exact hf, hr, hcp, hb⟩
  · exact ReadBig14 s w hs hm
end Go.Proofs.YtadmibfnjhockaaDoor
