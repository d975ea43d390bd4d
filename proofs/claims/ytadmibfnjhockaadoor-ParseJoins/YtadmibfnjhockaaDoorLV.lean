/- The package variables that a text's numbers lean on (layer 14): what the rows list, and that it stays. -/
import Derived.Test.YtadmibfnjhockaaDoorRows
import Derived.Test.YtadmibfnjhockaaDoorGBase
import Derived.Lib.LaidTab
import Derived.Lib.ItoaNum
import Derived.Lib.SmallJoins
import Derived.Stop.LaidErr
import Derived.LaidMore
namespace Go.Proofs.YtadmibfnjhockaaDoor
open Go.RowKit Go.Lib Go.Joins
set_option linter.unusedVariables false
def LV (w : World) : Prop := (∃ tp p, w.var? Tryd.prog "strconv.ErrSyntax" = some #[.iface tp p]) ∧ (∃ tp p, w.var? Tryd.prog "strconv.ErrRange" = some #[.iface tp p]) ∧ TabIs Tryd.prog w "internal/strconv.uint64pow10" .u64 pow10Tab
theorem gES : Tryd.prog.globalNamed "strconv.ErrSyntax" = some 0 := by kernel_rfl
theorem gER : Tryd.prog.globalNamed "strconv.ErrRange" = some 1 := by kernel_rfl
theorem gPW : Tryd.prog.globalNamed "internal/strconv.uint64pow10" = some 2 := by kernel_rfl
theorem gESt : (Tryd.prog.globals[0]?).map (·.type) = some 83 := by kernel_rfl
theorem gERt : (Tryd.prog.globals[1]?).map (·.type) = some 83 := by kernel_rfl
theorem gPWt : (Tryd.prog.globals[2]?).map (·.type) = some 117 := by kernel_rfl
theorem LV.below {w w' : World} (h : LV w) (hb : Below w.heap.size w w') : LV w' := by
  obtain ⟨⟨t1, p1, h1⟩, ⟨t2, p2, h2⟩, h3⟩ := h
  exact ⟨⟨t1, p1, var_stays gES h1 hb (Nat.le_refl _)⟩, ⟨t2, p2, var_stays gER h2 hb (Nat.le_refl _)⟩, tab_stays gPW h3 hb (Nat.le_refl _)⟩
theorem LV.drew {w : World} (h : LV w) : LV w.drew := h
theorem star : "*" ++ "errors.errorString" = "*errors.errorString" := by decide
theorem rowES (u : TypeId) (h : Tryd.prog.typeName? 3 u = some "*errors.errorString") : u = 112 :=
  typeName_ptr_named (nm := "errors.errorString") (by rw [star]; kernel_rfl) (by kernel_rfl) (by decide) u (by rw [star]; exact h)
theorem cellsES : Tryd.prog.cellsOf 114 = 1 := by kernel_rfl
theorem cellsST : Tryd.prog.cellsOf 9 = 1 := by kernel_rfl
theorem cellsPW : Tryd.prog.cellsOf 117 = 20 := by kernel_rfl
theorem cellsU64 : Tryd.prog.cellsOf 97 = 1 := by kernel_rfl
theorem lv_of {W : World} (h : laidMetH Tryd.prog Rows.parseLinesRow.laid W) : LV W := by
  rw [MakeChecks.laidMetH_plain _ _ _ (by kernel_rfl)] at h
  have h3 := h.tail.tail
  have e : (Rows.laid_internal_strconv_uint64pow10 : DataW Unit) = tabData .u64 pow10Tab := by kernel_rfl
  rw [e] at h3
  have k3 := tabIs_of_head gPW gPWt Tryd.underlying117 Tryd.underlying97 cellsU64 cellsPW h3
  obtain ⟨a1, s1, v1, _⟩ := laid_sentinel h3.tail gER gERt Tryd.underlying83 rowES Tryd.underlying112 Tryd.underlying114 rfl rfl Tryd.underlying9 cellsES cellsST
  obtain ⟨a2, s2, v2, _⟩ := laid_sentinel h3.tail.tail gES gESt Tryd.underlying83 rowES Tryd.underlying112 Tryd.underlying114 rfl rfl Tryd.underlying9 cellsES cellsST
  exact ⟨⟨_, _, v2⟩, ⟨_, _, v1⟩, k3⟩
end Go.Proofs.YtadmibfnjhockaaDoor
