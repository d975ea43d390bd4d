/- Keys in order (by their bytes), in plain mathematics. -/
import Derived.Test.YtadmibfnjhockaaDoorGBase
import Derived.Lib.Bytealg
namespace Go.Proofs.YtadmibfnjhockaaDoor
set_option linter.unusedVariables false

/-! Keys -/
/-- Is a key below another one (by their bytes)? -/
def ltK (a b : ByteArray) : Bool := Op.bytesLess a.toList b.toList
theorem bl_irr : ∀ l : List UInt8, Op.bytesLess l l = false
  | [] => by simp [Op.bytesLess]
  | a :: l => by simp [Op.bytesLess, bl_irr l, UInt8.lt_irrefl]
theorem bl_trans : ∀ {a b c : List UInt8}, Op.bytesLess a b = true → Op.bytesLess b c = true → Op.bytesLess a c = true
  | _, [], _, h, _ => by simp [Op.bytesLess] at h
  | _, _ :: _, [], _, h => by simp [Op.bytesLess] at h
  | [], _ :: _, _ :: _, _, _ => by simp [Op.bytesLess]
  | x :: a, y :: b, z :: c, h, k => by
    simp only [Op.bytesLess, Bool.or_eq_true, decide_eq_true_eq, Bool.and_eq_true, beq_iff_eq] at h k ⊢
    rcases h with h | ⟨rfl, h⟩
    · rcases k with k | ⟨rfl, k⟩
      · exact .inl (UInt8.lt_trans h k)
      · exact .inl h
    · rcases k with k | ⟨rfl, k⟩
      · exact .inl k
      · exact .inr ⟨rfl, bl_trans h k⟩
theorem bl_tri : ∀ (a b : List UInt8), Op.bytesLess a b = false → Op.bytesLess b a = false → a = b
  | [], [], _, _ => rfl
  | [], _ :: _, h, _ => by simp [Op.bytesLess] at h
  | _ :: _, [], _, h => by simp [Op.bytesLess] at h
  | x :: a, y :: b, h, k => by
    simp only [Op.bytesLess, Bool.or_eq_false_iff, decide_eq_false_iff_not, Bool.and_eq_false_iff] at h k
    have e : x = y := UInt8.le_antisymm (UInt8.not_lt.1 k.1) (UInt8.not_lt.1 h.1)
    subst e
    rw [bl_tri a b (by simpa using h.2) (by simpa using k.2)]
theorem toL_inj {a b : ByteArray} (h : a.toList = b.toList) : a = b := by
  rw [ByteArray.toList_eq, ByteArray.toList_eq] at h
  obtain ⟨⟨x⟩⟩ := a
  obtain ⟨⟨y⟩⟩ := b
  simpa using h
theorem eqK (a b : ByteArray) : (a.toList == b.toList) = decide (a = b) := by
  rw [Bool.eq_iff_iff, beq_iff_eq, decide_eq_true_iff]
  exact ⟨toL_inj, fun h => by rw [h]⟩
theorem ltK_irr (a : ByteArray) : ltK a a = false := bl_irr _
theorem ltK_trans {a b c : ByteArray} (h : ltK a b = true) (k : ltK b c = true) : ltK a c = true := bl_trans h k
theorem ltK_tri {a b : ByteArray} (h : ltK a b = false) (k : ltK b a = false) : a = b := toL_inj (bl_tri _ _ h k)
theorem ltK_ne {a b : ByteArray} (h : ltK a b = true) : a ≠ b := by
  rintro rfl
  rw [ltK_irr] at h
  cases h
theorem ltK_asym {a b : ByteArray} (h : ltK a b = true) : ltK b a = false := by
  rcases hb : ltK b a with _ | _
  · rfl
  · have := ltK_trans h hb
    rw [ltK_irr] at this
    cases this
/-- What 'strings.Compare' tells. -/
def cmpK (a b : ByteArray) : Int := if a = b then 0 else if ltK a b = true then -1 else 1
theorem cmpB : ∀ (a b : List UInt8), Lib.compareBytes a b = if a = b then 0 else if Op.bytesLess a b = true then -1 else 1
  | [], [] => by simp [Lib.compareBytes]
  | [], _ :: _ => by simp [Lib.compareBytes, Op.bytesLess]
  | _ :: _, [] => by simp [Lib.compareBytes, Op.bytesLess]
  | x :: a, y :: b => by
    unfold Lib.compareBytes
    rw [cmpB a b]
    by_cases h : x < y
    · have : x ≠ y := fun e => by subst e; exact UInt8.lt_irrefl _ h
      simp [h, Op.bytesLess, this]
    · by_cases k : y < x
      · have : x ≠ y := fun e => by subst e; exact UInt8.lt_irrefl _ k
        simp [h, k, Op.bytesLess, this]
      · have e : x = y := UInt8.le_antisymm (UInt8.not_lt.1 k) (UInt8.not_lt.1 h)
        subst e
        simp [Op.bytesLess, UInt8.lt_irrefl]
theorem cmpK_is (a b : ByteArray) : Lib.compareBytes a.data.toList b.data.toList = cmpK a b := by
  rw [cmpB, cmpK, ltK, ByteArray.toList_eq, ByteArray.toList_eq]
  have : a.data.toList = b.data.toList ↔ a = b := ⟨fun h => toL_inj (by rw [ByteArray.toList_eq, ByteArray.toList_eq]; exact h), fun h => by rw [h]⟩
  simp only [this]
theorem cmpK_lt (a b : ByteArray) : (cmpK a b < 0) ↔ ltK a b = true := by
  unfold cmpK
  split
  · rename_i h; subst h; simp [ltK_irr]
  · split <;> simp_all
theorem cmpK_eq (a b : ByteArray) : (cmpK a b = 0) ↔ a = b := by
  unfold cmpK
  split
  · simp_all
  · split <;> simp_all
def mayK (k : ByteArray) : Bool := decide (1 ≤ k.size ∧ k.size ≤ 32)
end Go.Proofs.YtadmibfnjhockaaDoor
