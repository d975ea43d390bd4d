/- The program's Keys and Same (layer 8). -/
import Derived.Test.YtiodlpoeifmldaaA7
namespace Go.Proofs.Ytiodlpoeifmldaa
open Go.RowKit Go.Lib
set_option linter.unusedVariables false
/-- Texts of a slice. -/
def encS (k : ByteArray) : List Value := [.string k]
theorem encS_len (x : ByteArray) : (encS x).length = 1 := rfl
theorem encS_one (x : ByteArray) : ∀ v ∈ encS x, v.oneCell' = true := by
  intro v hv
  simp only [encS, List.mem_cons, List.not_mem_nil, or_false] at hv
  subst hv
  rfl
theorem Try.infoStr : (Try.prog.info? 9).map (fun i => (i.zero, i.size, i.bytes)) = some (some (.string ⟨#[]⟩), 1, 16) := by kernel_rfl
theorem en_dec (k k' : ByteArray) (l l' m m' : List Dot) : decide (((k, l, m) : En) = (k', l', m')) = (decide (k = k') && decide (l = l') && decide (m = m')) := by
  rw [Bool.eq_iff_iff]; simp [and_assoc]
end Go.Proofs.Ytiodlpoeifmldaa
