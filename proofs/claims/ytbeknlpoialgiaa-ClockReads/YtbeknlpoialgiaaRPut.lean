/- What 'Put' does, the program's and the document's. -/
import Derived.Test.YtbeknlpoialgiaaRMath
import Derived.Test.YtbeknlpoialgiaaCLaw
import Derived.Test.YtbeknlpoialgiaaWRefUnpack
namespace Go.Proofs.Ytbeknlpoialgiaa
open Go.RowKit
set_option linter.unusedVariables false

/-- Texts that the call has made are the bytes of these numbers. -/
def Nums (N : Nat) (w : World) (v : Value) (c : List Int) : Prop := ∃ qs, OwnP N w v qs ∧ qs.map (·.2) = c.map num
theorem Nums.nil (N : Nat) (w : World) : Nums N w (.slice none 0 0) [] := ⟨[], OwnP.nil _ _, rfl⟩
theorem Nums.made (w : World) (N g : Nat) (hg : g = w.heap.size) (hN : N ≤ w.heap.size) : Nums N (w.alloc (.cells #[] 40)) (.slice (some ⟨g, 0, none⟩) 0 0) [] := ⟨[], OwnP.made w N g hg hN, rfl⟩
theorem Nums.below {N : Nat} {w w' : World} {v : Value} {c : List Int} (h : Nums N w v c) (hb : Below w.heap.size w w') : Nums N w' v c := ⟨h.choose, h.choose_spec.1.below hb, h.choose_spec.2⟩
theorem Nums.open {N : Nat} {w : World} {v : Value} {c : List Int} (h : Nums N w v c) : ∃ p cap, v = .slice p c.length cap ∧ PC w p c.length (c.map num) ∧ CP p c.length cap := by
  obtain ⟨qs, h1, h2⟩ := h
  have hl : qs.length = c.length := by have := congrArg List.length h2; simpa using this
  obtain ⟨p, cap, hv, hpc, hcp⟩ := h1.open
  rw [hl] at hv hpc hcp
  rw [h2] at hpc
  exact ⟨p, cap, hv, hpc, hcp⟩

/-- 'append(texts, Num(x))'. -/
theorem append_num {w : World} {ops : Array Oper} {rest : List Oper} {o : Oper} {a : Act} {Q : Exit → Act → World → Prop} (hgd : o.guard = none) (s x : Operand)
    (ho : o.op = .call { callee := .builtin .append, args := #[s, x], argTypes := #[57, 57] })
    (N : Nat) (v : Value) (c : List Int) (u : Value) (y : Int) (g : Nat) (hg : g = w.heap.size) (hs : a.eval s = v) (hown : Nums N w v c) (hu : Own N w u (num y)) (hx : a.eval x = .slice (some ⟨g, 0, none⟩) 1 1)
    (hbig : c.length ≤ 1000000) (hN : N ≤ w.heap.size)
    (h : ∀ v' w', Nums N w' v' (c ++ [y]) → (∀ w0, Below N w0 w → Below N w0 w') → wpList Try.prog ops Q rest (a.put o.dst v') w') : wpList Try.prog ops Q (o :: rest) a (w.alloc (.cells #[u] 40)) := by
  obtain ⟨qs, h1, h2⟩ := hown
  have hl : qs.length = c.length := by have := congrArg List.length h2; simpa using this
  refine append_text hgd s x ho N v qs u (num y) g hg hs h1 hu (num_by y) hx (by omega) hN ?_
  intro v' w' g1 g2
  exact h v' w' ⟨_, g1, by simp [h2]⟩ g2

set_option maxHeartbeats 2000000 in
theorem Put_any (a : Option Addr) (n cap : Nat) (c : List Int) (w : World) (hN : NS w a n c) :
    Calls Try.prog 30 #[.slice a n cap] w fun e w' => ∃ v, e = .returned v ∧ Own w.heap.size w' v (putC c) ∧ Below w.heap.size w w' := by
  have HN := hide hN
  clear hN
  have HE : Hid (pack ((pln (vec c)).map num) = putC c) := rfl
  have HBd : Hid (∀ x ∈ pln (vec c), 0 ≤ x ∧ x ≤ 1048576) := fun x hx => vec_bd c x (List.mem_of_mem_take hx)
  have HL5 : Hid ((pln (vec c)).length ≤ 5) := by unfold Hid; rw [pln_length]; have := plen_le (vec c); rw [vec_len] at this; exact this
  go_enter Try.func30, Try.ntmps30
  go_wp2_with fail
  refine (Plain_any _ _ _ c _ HN.out).mono ?_
  rintro e w1 ⟨v1, rfl, hO, hb1⟩
  obtain ⟨p, cp, hv, hns, hcp⟩ := hO.open
  subst hv
  have HB1 := hide hb1
  have HP := hide hns
  generalize pln (vec c) = L at *
  have hm5 : L.length ≤ 5 := HL5.out
  clear hO hb1 hns hcp HN
  obtain ⟨m, hm⟩ : ∃ m, m = L.length := ⟨_, rfl⟩
  rw [← hm] at HP hm5
  have Hm := hide hm
  have hmI : (m : Int) ≤ 5 := by omega
  rw [← hm]
  clear hm
  go_wp2
  go_loopw [3, 9] (fun v i wr => ∃ k : Nat, k ≤ m ∧ i = .int .i64 k ∧ Hid (Nums w1.heap.size wr v (L.take k)) ∧ Hid (Below w1.heap.size w1 wr)) (fun _ i _ => m - (intOf i).toNat)
  case atStart => exact ⟨0, by omega, rfl, Nums.nil _ _, Below.refl _ _⟩
  case round =>
    obtain ⟨k, hk, rfl, hO, hB⟩ := hrel
    obtain ⟨pv, cv, hv, _, _⟩ := hO.out.open
    subst hv
    by_cases hlt : k < m
    · rcases (HP.out.below hB.out).2.2 with h0 | ⟨b, off, rfl, hc⟩
      · omega
      · have hck := hc k hlt
        have hx := HBd.out (L.getD k 0) (by have e : L.getD k 0 = L[k]'(by rw [← Hm.out]; exact hlt) := by simp [List.getD_eq_getElem?_getD, List.getElem?_eq_getElem (show k < L.length by rw [← Hm.out]; exact hlt)]
                                            rw [e]; exact List.getElem_mem _)
        have HT := hide (take_snoc (L := L) (k := k) (x := L.getD k 0) (by rw [← Hm.out]; exact hlt) rfl)
        have HLn : Hid ((L.take k).length ≤ 5) := by unfold Hid; rw [List.length_take, ← Hm.out]; omega
        generalize L.getD k 0 = x at *
        generalize L.take k = T at *
        obtain ⟨hx0, hx1⟩ := hx
        have hx2 : x < 18446744073709551616 := by omega
        have hsz := hB.out.size
        clear hc
        go_wp2_with fail
        refine (num_any x _ hx0 hx2).mono ?_
        rintro e w2 ⟨v2, rfl, hO2, hb2⟩
        obtain ⟨p2, c2, hv2, _, _⟩ := hO2.open (num_by x)
        subst hv2
        have HB3 := hide (bel_next hB.out hb2)
        have HO3 := hide (hO.out.below hb2)
        have HN2 := hide (hO2.mono hsz)
        have hsz2 := HB3.out.size
        clear hO hB hO2 hb2
        go_wp2_with (at_builtin; refine Stop.at ?_)
        unfold Stop
        refine append_num rfl _ _ rfl w1.heap.size (.slice pv T.length cv) T (.slice p2 (num x).length c2) x _ rfl rfl HO3.out HN2.out rfl (by have := HLn.out; omega) hsz2 ?_
        intro v' w' g1 g2
        have G1 := hide g1
        have G2 := hide (g2 _ HB3.out)
        clear g1 g2 HO3 HN2 HB3
        go_wp2
        go_roundw
        case rel => exact ⟨k + 1, by omega, by go_num, by unfold Hid; rw [HT.out]; exact G1.out, G2⟩
        case measure => simp [intOf]; omega
    · have hkl : k = m := by omega
      subst hkl
      have HT : Hid (L.take k = L) := List.take_of_length_le (by rw [Hm.out]; exact Nat.le_refl _)
      have hO2 := hO.out
      rw [HT.out] at hO2
      obtain ⟨p3, c3, hv3, hpc, _⟩ := hO2.open
      rw [HT.out]
      cases hv3
      have HPC := hide hpc
      have HLn := hide (nums_short L)
      clear hO hO2 hpc HT
      go_wp2_with fail
      refine (pack_any _ _ _ _ _ HPC.out (by have := HL5.out; omega) (fun t ht => by have := HLn.out t ht; omega)).mono ?_
      rintro e w3 ⟨v3, rfl, hO3, hb3⟩
      have HO3 := hide hO3
      have HB3 := hide (bel_next (bel_next HB1.out hB.out) hb3)
      have hsz : w.heap.size ≤ wr.heap.size := Nat.le_trans HB1.out.size hB.out.size
      clear hO3 hb3
      go_wp2
      go_ret
      rw [← HE.out]
      exact ⟨_, rfl, HO3.out.mono hsz, HB3.out⟩

set_option maxHeartbeats 2000000 in
theorem put_ref (a : Option Addr) (n cap : Nat) (c : List Int) (w : World) (hN : NS w a n c) :
    Calls Try.prog 34 #[.slice a n cap] w fun e w' => ∃ v, e = .returned v ∧ Own w.heap.size w' v (putC c) ∧ Below w.heap.size w w' := by
  have HN := hide hN
  clear hN
  have HE : Hid (pack ((pln (vec c)).map num) = putC c) := rfl
  have HBd : Hid (∀ x ∈ pln (vec c), 0 ≤ x ∧ x ≤ 1048576) := fun x hx => vec_bd c x (List.mem_of_mem_take hx)
  have HL5 : Hid ((pln (vec c)).length ≤ 5) := by unfold Hid; rw [pln_length]; have := plen_le (vec c); rw [vec_len] at this; exact this
  go_enter Try.func34, Try.ntmps34
  go_wp2_with fail
  refine (plain_ref _ _ _ c _ HN.out).mono ?_
  rintro e w1 ⟨v1, rfl, hO, hb1⟩
  obtain ⟨p, cp, hv, hns, hcp⟩ := hO.open
  subst hv
  have HB1 := hide hb1
  have HP := hide hns
  generalize pln (vec c) = L at *
  have hm5 : L.length ≤ 5 := HL5.out
  clear hO hb1 hns hcp HN
  obtain ⟨m, hm⟩ : ∃ m, m = L.length := ⟨_, rfl⟩
  rw [← hm] at HP hm5
  have Hm := hide hm
  have hmI : (m : Int) ≤ 5 := by omega
  rw [← hm]
  clear hm
  go_wp2
  go_loopw [3, 4] (fun v i wr => ∃ k : Nat, k ≤ m ∧ i = .int .i64 k ∧ Hid (Nums w1.heap.size wr v (L.take k)) ∧ Hid (Below w1.heap.size w1 wr)) (fun _ i _ => m - (intOf i).toNat)
  case atStart => exact ⟨0, by omega, rfl, Nums.made _ _ _ rfl (Nat.le_refl _), bel1 _ _⟩
  case round =>
    obtain ⟨k, hk, rfl, hO, hB⟩ := hrel
    obtain ⟨pv, cv, hv, _, _⟩ := hO.out.open
    subst hv
    by_cases hlt : k < m
    · rcases (HP.out.below hB.out).2.2 with h0 | ⟨b, off, rfl, hc⟩
      · omega
      · have hck := hc k hlt
        have hx := HBd.out (L.getD k 0) (by have e : L.getD k 0 = L[k]'(by rw [← Hm.out]; exact hlt) := by simp [List.getD_eq_getElem?_getD, List.getElem?_eq_getElem (show k < L.length by rw [← Hm.out]; exact hlt)]
                                            rw [e]; exact List.getElem_mem _)
        have HT := hide (take_snoc (L := L) (k := k) (x := L.getD k 0) (by rw [← Hm.out]; exact hlt) rfl)
        have HLn : Hid ((L.take k).length ≤ 5) := by unfold Hid; rw [List.length_take, ← Hm.out]; omega
        generalize L.getD k 0 = x at *
        generalize L.take k = T at *
        obtain ⟨hx0, hx1⟩ := hx
        have hx2 : x < 18446744073709551616 := by omega
        have hsz := hB.out.size
        clear hc
        go_wp2_with fail
        refine (refNum_any x _ hx0 hx2).mono ?_
        rintro e w2 ⟨v2, rfl, hO2, hb2⟩
        obtain ⟨p2, c2, hv2, _, _⟩ := hO2.open (num_by x)
        subst hv2
        have HB3 := hide (bel_next hB.out hb2)
        have HO3 := hide (hO.out.below hb2)
        have HN2 := hide (hO2.mono hsz)
        have hsz2 := HB3.out.size
        clear hO hB hO2 hb2
        go_wp2_with (at_builtin; refine Stop.at ?_)
        unfold Stop
        refine append_num rfl _ _ rfl w1.heap.size (.slice pv T.length cv) T (.slice p2 (num x).length c2) x _ rfl rfl HO3.out HN2.out rfl (by have := HLn.out; omega) hsz2 ?_
        intro v' w' g1 g2
        have G1 := hide g1
        have G2 := hide (g2 _ HB3.out)
        clear g1 g2 HO3 HN2 HB3
        go_wp2
        go_roundw
        case rel => exact ⟨k + 1, by omega, by go_num, by unfold Hid; rw [HT.out]; exact G1.out, G2⟩
        case measure => simp [intOf]; omega
    · have hkl : k = m := by omega
      subst hkl
      have HT : Hid (L.take k = L) := List.take_of_length_le (by rw [Hm.out]; exact Nat.le_refl _)
      have hO2 := hO.out
      rw [HT.out] at hO2
      obtain ⟨p3, c3, hv3, hpc, _⟩ := hO2.open
      rw [HT.out]
      cases hv3
      have HPC := hide hpc
      have HLn := hide (nums_short L)
      clear hO hO2 hpc HT
      go_wp2_with fail
      refine (refPack_any _ _ _ _ _ HPC.out (by have := HL5.out; omega) (fun t ht => by have := HLn.out t ht; omega)).mono ?_
      rintro e w3 ⟨v3, rfl, hO3, hb3⟩
      have HO3 := hide hO3
      have HB3 := hide (bel_next (bel_next HB1.out hB.out) hb3)
      have hsz : w.heap.size ≤ wr.heap.size := Nat.le_trans HB1.out.size hB.out.size
      clear hO3 hb3
      go_wp2
      go_ret
      rw [← HE.out]
      exact ⟨_, rfl, HO3.out.mono hsz, HB3.out⟩
end Go.Proofs.Ytbeknlpoialgiaa
