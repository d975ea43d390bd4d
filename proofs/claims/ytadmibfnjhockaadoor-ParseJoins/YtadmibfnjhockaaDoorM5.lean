/- Two texts, one behind the other, have the lines of both (layer 15), in plain mathematics. -/
import Derived.Test.YtadmibfnjhockaaDoorM4
namespace Go.Proofs.YtadmibfnjhockaaDoor
set_option linter.unusedVariables false
theorem joins15 {a b : List Int} (ha : a.length ≤ 1000) (hb : b.length ≤ 1000) {X Y : List Dc} {x y : Int} (h1 : linB a = (X, x, 0)) (h2 : linB b = (Y, y, 0)) (hn : X.length + Y.length ≤ 60) : linB (a ++ 10 :: b) = (X ++ Y.map (shD (1 + feeds a)), 0, 0) ∨ ∃ z, lexB (a ++ 10 :: b) = ([], z, 7) ∧ 390 < a.length + b.length := by
  obtain ⟨la, A, r1, n1, q1⟩ := linB_ok (by omega) h1
  obtain ⟨lb, B, r2, n2, q2⟩ := linB_ok (by omega) h2
  have c1 := lexP_cnt a.length a 1 [] (Nat.le_refl _)
  rw [r1] at c1
  have c2 := lexP_cnt b.length b 1 [] (Nat.le_refl _)
  rw [r2] at c2
  have hA : A.length ≤ a.length := by have := c1.1; simpa using this
  have hB : B.length ≤ b.length := by have := c2.1; simpa using this
  have hla : la = 1 + feeds a := c1.2
  have hneA : ∀ t ∈ A, t.1 ≠ 0 := by have q := lexP_ne a.length a 1 [] (by simp); rw [r1] at q; exact q
  have hlen : (a ++ 10 :: b).length = a.length + 1 + b.length := by simp; omega
  have e0 : lexB (a ++ 10 :: b) = finL (lexP (a.length + 1 + b.length) (a ++ 10 :: b) 1 []) := by unfold lexB; rw [if_neg (by omega), hlen]
  rcases lexP_join r1 r2 (a.length + 1 + b.length) (Nat.le_refl _) with ⟨m1, m2⟩ | ⟨z, m2⟩
  · rw [m2] at e0
    have hT : (A ++ ((5, ⟨#[]⟩, 0, la) : Tk) :: B.map (shT la)).length = A.length + 1 + B.length := by simp; omega
    by_cases h8 : 800 < (A ++ ((5, ⟨#[]⟩, 0, la) : Tk) :: B.map (shT la)).length + 1
    · refine .inr ⟨lb + la, ?_, by omega⟩
      rw [e0]
      exact if_pos h8
    · refine .inl ?_
      have eR : (A ++ ((5, ⟨#[]⟩, 0, la) : Tk) :: B.map (shT la)) ++ [((0, ⟨#[]⟩, 0, lb + la) : Tk)] = A ++ (5, ⟨#[]⟩, 0, la) :: (B ++ [((0, ⟨#[]⟩, 0, lb) : Tk)]).map (shT la) := by
        simp [shT]
      have eL : ((B ++ [((0, ⟨#[]⟩, 0, lb) : Tk)]).map (shT la)).length = B.length + 1 := by simp
      have s1 := linP_sh la (B.length + 1) (B ++ [(0, ⟨#[]⟩, 0, lb)]) [] Y q2
      have s2 := linP_pre X (B.length + 1) _ [] _ s1 (by rw [List.length_map]; exact hn)
      rw [List.append_nil] at s2
      have s3 := linP_end (E := (0, ⟨#[]⟩, 0, la)) (L := (5, ⟨#[]⟩, 0, la)) rfl rfl A.length A ((B ++ [((0, ⟨#[]⟩, 0, lb) : Tk)]).map (shT la)) [] X (Nat.le_refl _) hneA (A.length + 1) (A.length + 1 + (B.length + 1)) (B.length + 1) (Nat.le_refl _) (by rw [eL]; exact Nat.le_refl _) (by rw [eL]; exact Nat.le_refl _) q1
      have s4 : linP (A.length + 1 + (B.length + 1)) (A ++ ((5, ⟨#[]⟩, 0, la) : Tk) :: (B ++ [((0, ⟨#[]⟩, 0, lb) : Tk)]).map (shT la)) [] = .ok (X ++ Y.map (shD la)) := s3.trans s2
      have s5 : ((A ++ ((5, ⟨#[]⟩, 0, la) : Tk) :: B.map (shT la)) ++ [((0, ⟨#[]⟩, 0, lb + la) : Tk)]).length = A.length + 1 + (B.length + 1) := by rw [List.length_append, hT]; rfl
      rw [eR] at s5
      unfold linB
      rw [e0, show finL (.ok (lb + la, A ++ (5, ⟨#[]⟩, 0, la) :: B.map (shT la))) = ((A ++ (5, ⟨#[]⟩, 0, la) :: B.map (shT la)) ++ [(0, ⟨#[]⟩, 0, lb + la)], 0, 0) from if_neg h8]
      have e2 : linQ ((A ++ (5, ⟨#[]⟩, 0, la) :: B.map (shT la)) ++ [(0, ⟨#[]⟩, 0, lb + la)], 0, 0) = _ := if_neg (show ¬ (0 : Int) ≠ 0 by decide)
      rw [e2]
      simp only [eR, s5, s4]
      rw [hla]
  · rw [m2] at e0
    have c3 := lexP_cnt (a.length + 1 + b.length) (a ++ 10 :: b) 1 [] (by omega)
    rw [m2] at c3
    have c4 := c3 rfl
    refine .inr ⟨z, ?_, by rw [hlen] at c4; simp only [List.length_nil] at c4; omega⟩
    exact e0
end Go.Proofs.YtadmibfnjhockaaDoor
