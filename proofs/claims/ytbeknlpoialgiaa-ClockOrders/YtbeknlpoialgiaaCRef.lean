/- What the document's 'Plain', 'Set', 'Join', 'Meet', 'Within', 'Order' and 'Sum' do. -/
import Derived.Test.YtbeknlpoialgiaaCJoinAll
namespace Go.Proofs.Ytbeknlpoialgiaa
open Go.RowKit
set_option linter.unusedVariables false

def lenV : Value → Nat
  | .slice _ n _ => n
  | _ => 0

/-- 'append(v, x)', 'v' numbers of the call's own. -/
theorem append_one {w : World} {ops : Array Oper} {rest : List Oper} {o : Oper} {a : Act} {Q : Exit → Act → World → Prop} (hgd : o.guard = none) (s x : Operand)
    (ho : o.op = .call { callee := .builtin .append, args := #[s, x], argTypes := #[23, 23] })
    (N : Nat) (v : Value) (l : List Int) (y : Int) (g : Nat) (hg : g = w.heap.size) (hs : a.eval s = v) (hown : OwnN N w v l) (hx : a.eval x = .slice (some ⟨g, 0, none⟩) 1 1)
    (hbig : l.length ≤ 1000000) (hN : N ≤ w.heap.size)
    (h : ∀ v' w', OwnN N w' v' (l ++ [y]) → (∀ w0, Below N w0 w → Below N w0 w') → wpList Try.prog ops Q rest (a.put o.dst v') w') : wpList Try.prog ops Q (o :: rest) a (w.alloc (.cells #[.int .i64 y] 3)) := by
  refine append_nums hgd s x 23 Try.underlying23 ho N v l [y] hs (hown.alloc _) ⟨g, 0, none⟩ 1 1 hx (NS.one w g hg y) (by simp; omega) (by simp; omega) ?_
  intro v' w' h1 _ h2
  exact h v' w' h1 (fun w0 hb => h2 w0 (hb.alloc hN _))

theorem vec_take (c : List Int) (k : Nat) (hk : k < 5) : (vec c).take (k + 1) = (vec c).take k ++ [at5 c k] := by
  rw [List.take_add_one]
  have e : (vec c)[k]? = some (at5 c k) := by
    rw [← vec_getD c k hk]
    simp [List.getD_eq_getElem?_getD, List.getElem?_eq_getElem (show k < (vec c).length by simp [vec_len]; omega)]
  rw [e]; rfl

set_option maxHeartbeats 2000000 in
theorem plain_ref (a : Option Addr) (n cap : Nat) (c : List Int) (w : World) (hN : NS w a n c) :
    Calls Try.prog 16 #[.slice a n cap] w fun e w' => ∃ v, e = .returned v ∧ OwnN w.heap.size w' v (pln (vec c)) ∧ Below w.heap.size w w' := by
  have HN := hide hN
  clear hN
  go_enter Try.func16, Try.ntmps16
  go_wp2
  go_loopw [3, 4] (fun v i wr => ∃ k : Nat, k ≤ 5 ∧ i = .int .i64 (k + 1) ∧ Hid (OwnN w.heap.size wr v (pln ((vec c).take k))) ∧ Hid (Below w.heap.size w wr)) (fun _ i _ => 6 - (intOf i).toNat)
  case atStart => exact ⟨0, by omega, rfl, OwnN.made _ _ _ rfl (Nat.le_refl _), bel1 _ _⟩
  case round =>
    obtain ⟨k, hk, rfl, hO, hB⟩ := hrel
    by_cases hlt : k < 5
    · have hle : ((k : Int) + 1 ≤ 5) := by omega
      have HG := hide (get_ref a n cap c (k + 1) wr (HN.out.below hB.out) k rfl)
      have hbd := at5_bd c k
      have HV := hide (vec_take c k hlt)
      by_cases hz : at5 c k > 0
      · have HL : Hid (((vec c).take k).length = k) := by unfold Hid; rw [List.length_take, vec_len]; omega
        have hp : Hid (pln ((vec c).take (k + 1)) = (vec c).take k ++ [at5 c k]) := by unfold Hid; rw [HV.out]; exact pln_snoc (by omega) _
        have HP := hide (pln_pad ((vec c).take k))
        rw [HL.out] at HP
        generalize (vec c).take k = L at *
        obtain ⟨x, hx0⟩ : ∃ x, x = at5 c k := ⟨_, rfl⟩
        have hx := hide hx0
        rw [← hx0] at HG hbd hz hp
        clear hx0
        clear HV
        go_wp2_with (go_at_call 18; refine HG.out.mono ?_; rintro e w' ⟨rfl, rfl⟩)
        go_loopw [3] (fun v wr' => ∃ j : Nat, (pln L).length + j ≤ k ∧ Hid (OwnN w.heap.size wr' v (pln L ++ List.replicate j 0)) ∧ Hid (Below w.heap.size w wr')) (fun v _ => k - lenV v)
        case atStart => exact ⟨0, by rw [pln_length]; have := plen_le L; have := HL.out; omega, by unfold Hid; simpa using hO.out, hB⟩
        case round =>
          clear hO hB
          obtain ⟨j, hj, hO2, hB2⟩ := hrel
          obtain ⟨p, cp, hv, _, _⟩ := hO2.out.open
          have hlen : (pln L ++ List.replicate j 0).length = (pln L).length + j := by simp
          obtain ⟨m, hm⟩ : ∃ m, m = (pln L).length + j := ⟨_, rfl⟩
          rw [hlen, ← hm] at hv
          rw [← hm] at hj
          subst hv
          have hsz := hB2.out.size
          have hw : ((k : Int) + 1 - 1) = k := by omega
          by_cases hmk : m < k
          · have hmk' : (m : Int) < k := by omega
            have HM := hide hm
            clear hm hlen
            go_wp2_with (at_builtin; refine Stop.at ?_)
            unfold Stop
            refine append_one rfl _ _ rfl w.heap.size (.slice p m cp) (pln L ++ List.replicate j 0) 0 _ rfl rfl hO2.out rfl (by simp; have := HM.out; omega) hsz ?_
            intro v' w' h1 h2
            have HO3 := hide h1
            have HB3 := hide (h2 _ hB2.out)
            have hlv : lenV v' = m + 1 := by obtain ⟨p', c', rfl, _, _⟩ := h1.open; simp [lenV]; have := HM.out; omega
            clear h1 h2 hO2 hB2
            go_wp2
            go_roundw
            case rel => exact ⟨j + 1, by have := HM.out; omega, by unfold Hid; rw [List.replicate_succ', ← List.append_assoc]; exact HO3.out, HB3⟩
            case measure => rw [hlv]; simp [lenV]; omega
          · have hmk' : ¬ (m : Int) < k := by omega
            have hE : Hid (OwnN w.heap.size wr (.slice p m cp) L) := by
              have h1 := hO2.out
              have h2 : j = k - (pln L).length := by omega
              rw [h2, HP.out] at h1
              exact h1
            have HM : Hid (L.length = k) := HL
            have HG2 := hide (get_ref a n cap c (k + 1) wr (HN.out.below hB2.out) k rfl)
            clear hm hlen hO2
            rw [← hx.out] at HG2
            go_wp2_with (first
              | (go_at_call 18; refine HG2.out.mono ?_; rintro e w' ⟨rfl, rfl⟩)
              | (at_builtin; refine Stop.at ?_))
            unfold Stop
            refine append_one rfl _ _ rfl w.heap.size (.slice p m cp) L x _ rfl rfl hE.out rfl (by rw [HM.out]; omega) hsz ?_
            intro v' w' h1 h2
            have HO3 := hide h1
            have HB3 := hide (h2 _ hB2.out)
            clear h1 h2 hE hB2
            go_wp2
            go_roundw
            case rel => exact ⟨k + 1, by omega, by go_num, by unfold Hid; rw [hp.out]; exact HO3.out, HB3⟩
            case measure => simp [intOf]; omega
      · have hz0 : at5 c k = 0 := by omega
        have hp : Hid (pln ((vec c).take (k + 1)) = pln ((vec c).take k)) := by unfold Hid; rw [HV.out, hz0]; exact pln_zero _
        rw [hz0] at HG
        clear hz hbd HV hz0
        go_wp2_with (go_at_call 18; refine HG.out.mono ?_; rintro e w' ⟨rfl, rfl⟩)
        go_roundw
        case rel => exact ⟨k + 1, by omega, by go_num, by unfold Hid; rw [hp.out]; exact hO.out, hB⟩
        case measure => simp [intOf]; omega
    · have hkl : k = 5 := by omega
      subst hkl
      go_wp2
      go_ret
      exact ⟨_, rfl, hO.out, hB.out⟩
end Go.Proofs.Ytbeknlpoialgiaa
