/- What the document's 'Within', 'Order', 'Sum', 'Set', 'Join' and 'Meet' do. -/
import Derived.Test.YtbeknlpoialgiaaCRef
namespace Go.Proofs.Ytbeknlpoialgiaa
open Go.RowKit
set_option linter.unusedVariables false

theorem wth_all (c d : List Int) : wth c d ↔ ∀ i, i < 5 → at5 c i ≤ at5 d i := by
  constructor
  · intro h i hi
    unfold wth at h
    have h5 : i = 0 ∨ i = 1 ∨ i = 2 ∨ i = 3 ∨ i = 4 := by omega
    rcases h5 with rfl | rfl | rfl | rfl | rfl <;> omega
  · intro h
    exact ⟨h 0 (by omega), h 1 (by omega), h 2 (by omega), h 3 (by omega), h 4 (by omega)⟩
def wthFrom (c d : List Int) (k : Nat) : Prop := ∀ i, k ≤ i → i < 5 → at5 c i ≤ at5 d i
theorem wthFrom_step {c d : List Int} {k : Nat} (hk : k < 5) : wthFrom c d k ↔ at5 c k ≤ at5 d k ∧ wthFrom c d (k + 1) := by
  constructor
  · intro h
    exact ⟨h k (Nat.le_refl _) hk, fun i h1 h2 => h i (by omega) h2⟩
  · rintro ⟨h0, h⟩ i h1 h2
    by_cases hi : i = k
    · subst hi; exact h0
    · exact h i (by omega) h2

set_option maxHeartbeats 1000000 in
theorem within_ref (a b : Option Addr) (n cap m cap' : Nat) (c d : List Int) (w : World) (hN : NS w a n c) (hM : NS w b m d) :
    Calls Try.prog 27 #[.slice a n cap, .slice b m cap'] w fun e w' => e = .returned (.bool (decide (wth c d))) ∧ w' = w := by
  obtain ⟨bb, hbb⟩ : ∃ bb, bb = decide (wth c d) := ⟨_, rfl⟩
  rw [← hbb]
  have HBB := hide hbb
  clear hbb
  have HN := hide hN
  have HM := hide hM
  clear hN hM
  have H0 : Hid (wth c d ↔ wthFrom c d 0) := by unfold Hid wthFrom; rw [wth_all]; simp
  go_enter Try.func27, Try.ntmps27
  go_wp2
  go_loop [5] (fun i => ∃ k : Nat, k ≤ 5 ∧ i = .int .i64 (k + 1) ∧ Hid (wth c d ↔ wthFrom c d k)) (fun i => 6 - (intOf i).toNat)
  case atStart => exact ⟨0, by omega, rfl, H0⟩
  case round =>
    clear H0
    obtain ⟨k, hk, rfl, hH⟩ := hrel
    by_cases hlt : k < 5
    · have hle : ((k : Int) + 1 ≤ 5) := by omega
      have hst : Hid (wth c d ↔ at5 c k ≤ at5 d k ∧ wthFrom c d (k + 1)) := by have h := hH.out; rw [wthFrom_step hlt] at h; exact h
      have HG := hide (get_ref a n cap c (k + 1) w HN.out k rfl)
      have HK := hide (get_ref b m cap' d (k + 1) w HM.out k rfl)
      generalize at5 c k = x at *
      generalize at5 d k = y at *
      clear hH
      by_cases hxy : x > y
      · have HE : Hid (false = bb) := by unfold Hid; rw [HBB.out]; symm; rw [decide_eq_false_iff_not, hst.out]; omega
        go_wp2_with (first
          | (go_at_call_of 18 a; refine HG.out.mono ?_; rintro e w' ⟨rfl, rfl⟩)
          | (go_at_call 18; refine HK.out.mono ?_; rintro e w' ⟨rfl, rfl⟩))
        go_ret
        exact ⟨retB HE.out, rfl⟩
      · have hst2 : Hid (wth c d ↔ wthFrom c d (k + 1)) := by unfold Hid; rw [hst.out]; constructor <;> intro h <;> first | exact h.2 | exact ⟨by omega, h⟩
        go_wp2_with (first
          | (go_at_call_of 18 a; refine HG.out.mono ?_; rintro e w' ⟨rfl, rfl⟩)
          | (go_at_call 18; refine HK.out.mono ?_; rintro e w' ⟨rfl, rfl⟩))
        go_round
        case rel => exact ⟨k + 1, by omega, by go_num, hst2⟩
        case measure => simp [intOf]; omega
    · have hkl : k = 5 := by omega
      subst hkl
      have HE : Hid (true = bb) := by unfold Hid; rw [HBB.out]; symm; rw [decide_eq_true_iff, hH.out]; intro i h1 h2; omega
      clear hH
      go_wp2
      go_ret
      exact ⟨retB HE.out, rfl⟩

set_option maxHeartbeats 1000000 in
theorem order_ref (a b : Option Addr) (n cap m cap' : Nat) (c d : List Int) (w : World) (hN : NS w a n c) (hM : NS w b m d) :
    Calls Try.prog 29 #[.slice a n cap, .slice b m cap'] w fun e w' => e = .returned (.int .i64 (ordL c d)) ∧ w' = w := by
  have H1 := hide (within_ref a b n cap m cap' c d w hN hM)
  have H2 := hide (within_ref b a m cap' n cap d c w hM hN)
  clear hN hM
  by_cases h1 : wth c d
  · by_cases h2 : wth d c
    · have HE : Hid (0 = ordL c d) := by unfold Hid ordL; rw [if_pos h1, if_pos h2]
      rw [decide_eq_true h1] at H1
      rw [decide_eq_true h2] at H2
      clear h1 h2
      go_enter Try.func29, Try.ntmps29
      go_wp2_with (first
        | (go_at_call_of 27 (Value.slice a n cap); refine H1.out.mono ?_; rintro e w' ⟨rfl, rfl⟩; refine Stop.at ?_))
      unfold Stop
      go_wp2_with (go_at_call 27; refine H2.out.mono ?_; rintro e w' ⟨rfl, rfl⟩)
      go_ret
      exact ⟨ret_int HE.out, rfl⟩
    · have HE : Hid (-1 = ordL c d) := by unfold Hid ordL; rw [if_pos h1, if_neg h2]
      rw [decide_eq_true h1] at H1
      rw [decide_eq_false h2] at H2
      clear h1 h2
      go_enter Try.func29, Try.ntmps29
      go_wp2_with (first
        | (go_at_call_of 27 (Value.slice a n cap); refine H1.out.mono ?_; rintro e w' ⟨rfl, rfl⟩; refine Stop.at ?_))
      unfold Stop
      go_wp2_with (go_at_call 27; refine H2.out.mono ?_; rintro e w' ⟨rfl, rfl⟩)
      go_ret
      exact ⟨ret_int HE.out, rfl⟩
  · by_cases h2 : wth d c
    · have HE : Hid (1 = ordL c d) := by unfold Hid ordL; rw [if_neg h1, if_pos h2]
      rw [decide_eq_false h1] at H1
      rw [decide_eq_true h2] at H2
      clear h1 h2
      go_enter Try.func29, Try.ntmps29
      go_wp2_with (first
        | (go_at_call_of 27 (Value.slice a n cap); refine H1.out.mono ?_; rintro e w' ⟨rfl, rfl⟩; refine Stop.at ?_))
      unfold Stop
      go_wp2_with (go_at_call 27; refine H2.out.mono ?_; rintro e w' ⟨rfl, rfl⟩)
      go_ret
      exact ⟨ret_int HE.out, rfl⟩
    · have HE : Hid (2 = ordL c d) := by unfold Hid ordL; rw [if_neg h1, if_neg h2]
      rw [decide_eq_false h1] at H1
      rw [decide_eq_false h2] at H2
      clear h1 h2
      go_enter Try.func29, Try.ntmps29
      go_wp2_with (first
        | (go_at_call_of 27 (Value.slice a n cap); refine H1.out.mono ?_; rintro e w' ⟨rfl, rfl⟩; refine Stop.at ?_))
      unfold Stop
      go_wp2_with (go_at_call 27; refine H2.out.mono ?_; rintro e w' ⟨rfl, rfl⟩)
      go_ret
      exact ⟨ret_int HE.out, rfl⟩

set_option maxHeartbeats 1000000 in
theorem sum_ref (a : Option Addr) (n cap : Nat) (c : List Int) (w : World) (hN : NS w a n c) :
    Calls Try.prog 20 #[.slice a n cap] w fun e w' => e = .returned (.int .i64 (sumL c)) ∧ w' = w := by
  have b0 := at5_bd c 0
  have G0 := hide (get_ref a n cap c 1 w hN 0 rfl)
  have b1 := at5_bd c 1
  have G1 := hide (get_ref a n cap c 2 w hN 1 rfl)
  have b2 := at5_bd c 2
  have G2 := hide (get_ref a n cap c 3 w hN 2 rfl)
  have b3 := at5_bd c 3
  have G3 := hide (get_ref a n cap c 4 w hN 3 rfl)
  have b4 := at5_bd c 4
  have G4 := hide (get_ref a n cap c 5 w hN 4 rfl)
  have HS : Hid (at5 c 0 + at5 c 1 + at5 c 2 + at5 c 3 + at5 c 4 = sumL c) := rfl
  clear hN
  generalize at5 c 0 = x0 at *
  generalize at5 c 1 = x1 at *
  generalize at5 c 2 = x2 at *
  generalize at5 c 3 = x3 at *
  generalize at5 c 4 = x4 at *
  go_enter Try.func20, Try.ntmps20
  go_wp2
  go_loop [3, 4] (fun s i => (i = .int .i64 1 ∧ s = .int .i64 0) ∨ (i = .int .i64 2 ∧ s = .int .i64 x0) ∨ (i = .int .i64 3 ∧ s = .int .i64 (x0 + x1)) ∨ (i = .int .i64 4 ∧ s = .int .i64 (x0 + x1 + x2)) ∨ (i = .int .i64 5 ∧ s = .int .i64 (x0 + x1 + x2 + x3)) ∨ (i = .int .i64 6 ∧ s = .int .i64 (x0 + x1 + x2 + x3 + x4))) (fun _ i => 6 - (intOf i).toNat)
  case atStart => exact .inl ⟨rfl, rfl⟩
  case round =>
    rcases hrel with ⟨rfl, rfl⟩ | ⟨rfl, rfl⟩ | ⟨rfl, rfl⟩ | ⟨rfl, rfl⟩ | ⟨rfl, rfl⟩ | ⟨rfl, rfl⟩
    · go_wp2_with (go_at_call 18; refine G0.out.mono ?_; rintro e w' ⟨rfl, rfl⟩)
      go_round
      case rel => exact .inr (.inl ⟨rfl, rfl⟩)
      case measure => decide
    · go_wp2_with (go_at_call 18; refine G1.out.mono ?_; rintro e w' ⟨rfl, rfl⟩)
      go_round
      case rel => exact .inr (.inr (.inl ⟨rfl, rfl⟩))
      case measure => decide
    · go_wp2_with (go_at_call 18; refine G2.out.mono ?_; rintro e w' ⟨rfl, rfl⟩)
      go_round
      case rel => exact .inr (.inr (.inr (.inl ⟨rfl, rfl⟩)))
      case measure => decide
    · go_wp2_with (go_at_call 18; refine G3.out.mono ?_; rintro e w' ⟨rfl, rfl⟩)
      go_round
      case rel => exact .inr (.inr (.inr (.inr (.inl ⟨rfl, rfl⟩))))
      case measure => decide
    · go_wp2_with (go_at_call 18; refine G4.out.mono ?_; rintro e w' ⟨rfl, rfl⟩)
      go_round
      case rel => exact .inr (.inr (.inr (.inr (.inr (⟨rfl, rfl⟩)))))
      case measure => decide
    · go_wp2
      go_ret
      exact ⟨ret_int HS.out, rfl⟩

theorem take_snoc {L : List Int} {k : Nat} {x : Int} (hk : k < L.length) (hx : L.getD k 0 = x) : L.take (k + 1) = L.take k ++ [x] := by
  rw [List.take_add_one]
  have e : L[k]? = some x := by rw [← hx]; simp [List.getD_eq_getElem?_getD, hk]
  rw [e]; rfl

theorem joinL_getD (c d : List Int) (k : Nat) (hk : k < 5) : (joinL c d).getD k 0 = max (at5 c k) (at5 d k) := by
  rcases k with _ | _ | _ | _ | _ | k
  · rfl
  · rfl
  · rfl
  · rfl
  · rfl
  · omega
set_option maxHeartbeats 2000000 in
theorem join_ref (a b : Option Addr) (n cap m cap' : Nat) (c d : List Int) (w : World) (hN : NS w a n c) (hM : NS w b m d) :
    Calls Try.prog 23 #[.slice a n cap, .slice b m cap'] w fun e w' => ∃ v, e = .returned v ∧ OwnN w.heap.size w' v (pln (joinL c d)) ∧ Below w.heap.size w w' := by
  have HN := hide hN
  have HM := hide hM
  clear hN hM
  go_enter Try.func23, Try.ntmps23
  go_wp2
  go_loopw [5, 6] (fun v i wr => ∃ k : Nat, k ≤ 5 ∧ i = .int .i64 (k + 1) ∧ Hid (OwnN w.heap.size wr v ((joinL c d).take k)) ∧ Hid (Below w.heap.size w wr)) (fun _ i _ => 6 - (intOf i).toNat)
  case atStart => exact ⟨0, by omega, rfl, OwnN.made _ _ _ rfl (Nat.le_refl _), bel1 _ _⟩
  case round =>
    obtain ⟨k, hk, rfl, hO, hB⟩ := hrel
    have hsz := hB.out.size
    by_cases hlt : k < 5
    · have hle : ((k : Int) + 1 ≤ 5) := by omega
      obtain ⟨p0, c0, hv, _, _⟩ := hO.out.open
      subst hv
      have HG := hide (get_ref a n cap c (k + 1) wr (HN.out.below hB.out) k rfl)
      have HK := hide (get_ref b m cap' d (k + 1) wr (HM.out.below hB.out) k rfl)
      have HT := hide (take_snoc (L := joinL c d) (k := k) hlt (joinL_getD c d k hlt))
      have HLn : Hid (((joinL c d).take k).length ≤ 5) := by unfold Hid; rw [List.length_take]; exact Nat.min_le_right _ _
      generalize at5 c k = x at *
      generalize at5 d k = y at *
      generalize (joinL c d).take k = T at *
      by_cases hxy : x > y
      · have hm : max x y = x := by omega
        rw [hm] at HT
        clear hm
        go_wp2_with (first
          | (go_at_call_of 18 (Value.slice a n cap); refine HG.out.mono ?_; rintro e w' ⟨rfl, rfl⟩)
          | (go_at_call 18; refine HK.out.mono ?_; rintro e w' ⟨rfl, rfl⟩)
          | (at_builtin; refine Stop.at ?_))
        unfold Stop
        refine append_one rfl _ _ rfl w.heap.size (.slice p0 T.length c0) T x _ rfl rfl hO.out rfl (by have := HLn.out; omega) hsz ?_
        intro v' w' h1 h2
        have HO3 := hide h1
        have HB3 := hide (h2 _ hB.out)
        clear h1 h2 hO hB
        go_wp2
        go_roundw
        case rel => exact ⟨k + 1, by omega, by go_num, by unfold Hid; rw [HT.out]; exact HO3.out, HB3⟩
        case measure => simp [intOf]; omega
      · have hm : max x y = y := by omega
        rw [hm] at HT
        clear hm
        go_wp2_with (first
          | (go_at_call_of 18 (Value.slice a n cap); refine HG.out.mono ?_; rintro e w' ⟨rfl, rfl⟩)
          | (go_at_call 18; refine HK.out.mono ?_; rintro e w' ⟨rfl, rfl⟩)
          | (at_builtin; refine Stop.at ?_))
        unfold Stop
        refine append_one rfl _ _ rfl w.heap.size (.slice p0 T.length c0) T y _ rfl rfl hO.out rfl (by have := HLn.out; omega) hsz ?_
        intro v' w' h1 h2
        have HO3 := hide h1
        have HB3 := hide (h2 _ hB.out)
        clear h1 h2 hO hB
        go_wp2
        go_roundw
        case rel => exact ⟨k + 1, by omega, by go_num, by unfold Hid; rw [HT.out]; exact HO3.out, HB3⟩
        case measure => simp [intOf]; omega
    · have hkl : k = 5 := by omega
      subst hkl
      have hO5 : OwnN w.heap.size wr _ (joinL c d) := hO.out
      obtain ⟨p, cp, hv, hns, hcp⟩ := hO5.open
      subst hv
      have HNS := hide hns
      clear hns hcp hO hO5
      go_wp2_with (go_at_call 16; refine (plain_ref _ _ _ _ _ HNS.out).mono ?_; rintro e w3 ⟨v, rfl, hown, hb3⟩; have HO := hide hown; have HB3 := hide hb3; clear hown hb3)
      go_ret
      refine ⟨_, rfl, ?_, bel_next hB.out HB3.out⟩
      have h1 := HO.out.mono hB.out.size
      rw [vec_five (joinL c d) (rfl) (joinL_bd c d)] at h1
      exact h1

theorem meetL_getD (c d : List Int) (k : Nat) (hk : k < 5) : (meetL c d).getD k 0 = min (at5 c k) (at5 d k) := by
  rcases k with _ | _ | _ | _ | _ | k
  · rfl
  · rfl
  · rfl
  · rfl
  · rfl
  · omega
set_option maxHeartbeats 2000000 in
theorem meet_ref (a b : Option Addr) (n cap m cap' : Nat) (c d : List Int) (w : World) (hN : NS w a n c) (hM : NS w b m d) :
    Calls Try.prog 25 #[.slice a n cap, .slice b m cap'] w fun e w' => ∃ v, e = .returned v ∧ OwnN w.heap.size w' v (pln (meetL c d)) ∧ Below w.heap.size w w' := by
  have HN := hide hN
  have HM := hide hM
  clear hN hM
  go_enter Try.func25, Try.ntmps25
  go_wp2
  go_loopw [5, 6] (fun v i wr => ∃ k : Nat, k ≤ 5 ∧ i = .int .i64 (k + 1) ∧ Hid (OwnN w.heap.size wr v ((meetL c d).take k)) ∧ Hid (Below w.heap.size w wr)) (fun _ i _ => 6 - (intOf i).toNat)
  case atStart => exact ⟨0, by omega, rfl, OwnN.made _ _ _ rfl (Nat.le_refl _), bel1 _ _⟩
  case round =>
    obtain ⟨k, hk, rfl, hO, hB⟩ := hrel
    have hsz := hB.out.size
    by_cases hlt : k < 5
    · have hle : ((k : Int) + 1 ≤ 5) := by omega
      obtain ⟨p0, c0, hv, _, _⟩ := hO.out.open
      subst hv
      have HG := hide (get_ref a n cap c (k + 1) wr (HN.out.below hB.out) k rfl)
      have HK := hide (get_ref b m cap' d (k + 1) wr (HM.out.below hB.out) k rfl)
      have HT := hide (take_snoc (L := meetL c d) (k := k) hlt (meetL_getD c d k hlt))
      have HLn : Hid (((meetL c d).take k).length ≤ 5) := by unfold Hid; rw [List.length_take]; exact Nat.min_le_right _ _
      generalize at5 c k = x at *
      generalize at5 d k = y at *
      generalize (meetL c d).take k = T at *
      by_cases hxy : x < y
      · have hm : min x y = x := by omega
        rw [hm] at HT
        clear hm
        go_wp2_with (first
          | (go_at_call_of 18 (Value.slice a n cap); refine HG.out.mono ?_; rintro e w' ⟨rfl, rfl⟩)
          | (go_at_call 18; refine HK.out.mono ?_; rintro e w' ⟨rfl, rfl⟩)
          | (at_builtin; refine Stop.at ?_))
        unfold Stop
        refine append_one rfl _ _ rfl w.heap.size (.slice p0 T.length c0) T x _ rfl rfl hO.out rfl (by have := HLn.out; omega) hsz ?_
        intro v' w' h1 h2
        have HO3 := hide h1
        have HB3 := hide (h2 _ hB.out)
        clear h1 h2 hO hB
        go_wp2
        go_roundw
        case rel => exact ⟨k + 1, by omega, by go_num, by unfold Hid; rw [HT.out]; exact HO3.out, HB3⟩
        case measure => simp [intOf]; omega
      · have hm : min x y = y := by omega
        rw [hm] at HT
        clear hm
        go_wp2_with (first
          | (go_at_call_of 18 (Value.slice a n cap); refine HG.out.mono ?_; rintro e w' ⟨rfl, rfl⟩)
          | (go_at_call 18; refine HK.out.mono ?_; rintro e w' ⟨rfl, rfl⟩)
          | (at_builtin; refine Stop.at ?_))
        unfold Stop
        refine append_one rfl _ _ rfl w.heap.size (.slice p0 T.length c0) T y _ rfl rfl hO.out rfl (by have := HLn.out; omega) hsz ?_
        intro v' w' h1 h2
        have HO3 := hide h1
        have HB3 := hide (h2 _ hB.out)
        clear h1 h2 hO hB
        go_wp2
        go_roundw
        case rel => exact ⟨k + 1, by omega, by go_num, by unfold Hid; rw [HT.out]; exact HO3.out, HB3⟩
        case measure => simp [intOf]; omega
    · have hkl : k = 5 := by omega
      subst hkl
      have hO5 : OwnN w.heap.size wr _ (meetL c d) := hO.out
      obtain ⟨p, cp, hv, hns, hcp⟩ := hO5.open
      subst hv
      have HNS := hide hns
      clear hns hcp hO hO5
      go_wp2_with (go_at_call 16; refine (plain_ref _ _ _ _ _ HNS.out).mono ?_; rintro e w3 ⟨v, rfl, hown, hb3⟩; have HO := hide hown; have HB3 := hide hb3; clear hown hb3)
      go_ret
      refine ⟨_, rfl, ?_, bel_next hB.out HB3.out⟩
      have h1 := HO.out.mono hB.out.size
      rw [vec_five (meetL c d) (rfl) (meetL_bd c d)] at h1
      exact h1

theorem setL_len (c : List Int) (r : Nat) (x : Int) : (setL c r x).length = 5 := by simp [setL, vec_len]
theorem setL_getD (c : List Int) (r k : Nat) (x : Int) (hk : k < 5) : (setL c r x).getD k 0 = if k = r then x else at5 c k := by
  unfold setL
  rw [List.getD_eq_getElem?_getD, List.getElem?_set]
  by_cases h : r = k
  · subst h; simp [vec_len, hk]
  · rw [if_neg h, if_neg (fun e => h e.symm), ← vec_getD c k hk, List.getD_eq_getElem?_getD]

set_option maxHeartbeats 2000000 in
theorem set_ref (a : Option Addr) (n cap : Nat) (c : List Int) (rep x : Int) (r : Nat) (hrep : rep = r + 1) (hr5 : r < 5) (hx0 : 0 ≤ x) (hx1 : x ≤ 1048576) (w : World) (hN : NS w a n c) :
    Calls Try.prog 21 #[.slice a n cap, .int .i64 rep, .int .i64 x] w fun e w' => ∃ v, e = .returned v ∧ OwnN w.heap.size w' v (pln (setL c r x)) ∧ Below w.heap.size w w' := by
  have HN := hide hN
  clear hN
  subst hrep
  go_enter Try.func21, Try.ntmps21
  go_wp2
  go_loopw [7, 8] (fun v i wr => ∃ k : Nat, k ≤ 5 ∧ i = .int .i64 (k + 1) ∧ Hid (OwnN w.heap.size wr v ((setL c r x).take k)) ∧ Hid (Below w.heap.size w wr)) (fun _ i _ => 6 - (intOf i).toNat)
  case atStart => exact ⟨0, by omega, rfl, OwnN.made _ _ _ rfl (Nat.le_refl _), bel1 _ _⟩
  case round =>
    obtain ⟨k, hk, rfl, hO, hB⟩ := hrel
    have hsz := hB.out.size
    by_cases hlt : k < 5
    · have hle : ((k : Int) + 1 ≤ 5) := by omega
      obtain ⟨p0, c0, hv, _, _⟩ := hO.out.open
      subst hv
      have HG := hide (get_ref a n cap c (k + 1) wr (HN.out.below hB.out) k rfl)
      have HT := hide (take_snoc (L := setL c r x) (k := k) (by rw [setL_len]; exact hlt) (setL_getD c r k x hlt))
      have HLn : Hid (((setL c r x).take k).length ≤ 5) := by unfold Hid; rw [List.length_take, setL_len]; exact Nat.min_le_right _ _
      generalize at5 c k = y at *
      generalize (setL c r x).take k = T at *
      by_cases hkr : k = r
      · rw [if_pos hkr] at HT
        have hkr1 : ((k : Int) + 1 == (r : Int) + 1) = true := by simp; omega
        have HKR := hide hkr
        clear hkr
        go_wp2_with (at_builtin; refine Stop.at ?_)
        unfold Stop
        refine append_one rfl _ _ rfl w.heap.size (.slice p0 T.length c0) T x _ rfl rfl hO.out rfl (by have := HLn.out; omega) hsz ?_
        intro v' w' h1 h2
        have HO3 := hide h1
        have HB3 := hide (h2 _ hB.out)
        clear h1 h2 hO hB
        go_wp2
        go_roundw
        case rel => exact ⟨k + 1, by omega, by go_num, by unfold Hid; rw [HT.out]; exact HO3.out, HB3⟩
        case measure => simp [intOf]; omega
      · rw [if_neg hkr] at HT
        have hkr1 : ((k : Int) + 1 == (r : Int) + 1) = false := by simp; omega
        have hkr2 : ¬ ((k : Int) + 1 = (r : Int) + 1) := by omega
        go_wp2_with (first
          | (go_at_call 18; refine HG.out.mono ?_; rintro e w' ⟨rfl, rfl⟩)
          | (at_builtin; refine Stop.at ?_))
        unfold Stop
        refine append_one rfl _ _ rfl w.heap.size (.slice p0 T.length c0) T y _ rfl rfl hO.out rfl (by have := HLn.out; omega) hsz ?_
        intro v' w' h1 h2
        have HO3 := hide h1
        have HB3 := hide (h2 _ hB.out)
        clear h1 h2 hO hB
        go_wp2
        go_roundw
        case rel => exact ⟨k + 1, by omega, by go_num, by unfold Hid; rw [HT.out]; exact HO3.out, HB3⟩
        case measure => simp [intOf]; omega
    · have hkl : k = 5 := by omega
      subst hkl
      have hO5 := hO.out
      rw [List.take_of_length_le (by rw [setL_len]; exact Nat.le_refl _)] at hO5
      obtain ⟨p, cp, hv, hns, hcp⟩ := hO5.open
      subst hv
      have HNS := hide hns
      clear hns hcp hO hO5
      go_wp2_with (go_at_call 16; refine (plain_ref _ _ _ _ _ HNS.out).mono ?_; rintro e w3 ⟨v, rfl, hown, hb3⟩; have HO := hide hown; have HB3 := hide hb3; clear hown hb3)
      go_ret
      refine ⟨_, rfl, ?_, bel_next hB.out HB3.out⟩
      have h1 := HO.out.mono hB.out.size
      rw [vec_five (setL c r x) (setL_len c r x) (setL_bd c r x hx0 hx1)] at h1
      exact h1
end Go.Proofs.Ytbeknlpoialgiaa
