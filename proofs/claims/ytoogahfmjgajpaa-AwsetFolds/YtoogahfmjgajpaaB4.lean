/- The document's Add, Drop, Same; the program's Same (layer 8). -/
import Derived.Test.YtoogahfmjgajpaaB3
import Derived.Test.YtoogahfmjgajpaaA8
namespace Go.Proofs.Ytoogahfmjgajpaa
open Go.RowKit Go.Lib
set_option linter.unusedVariables false
theorem fieldL (t : ByteArray) (p : Option Addr) (n c : Nat) (pd : Option Addr) (nd cd : Nat) (w : World) : (Instr.field 48 (.agg #[.string t, .slice p n c, .slice pd nd cd]) 1).run Try.prog w = .ok (.slice p n c) w := by kernel_rfl
set_option maxHeartbeats 2000000 in
set_option maxRecDepth 4000 in
theorem AddS_ref (a : Option Addr) (n cap : Nat) (s : List En) (t : ByteArray) (r q : Int) (pa : Option Addr) (na ca : Nat) (c : List Int) (w : World) (hA : NSS w a n s) (hS : SrtK s) (hP : NS w pa na c) (hn : n ≤ 100000) (hd : ∀ x ∈ s, x.2.1.length ≤ 90000) :
    Calls Try.prog 17 #[.slice a n cap, .string t, .agg #[.int .i64 r, .int .i64 q], .slice pa na ca] w fun e w' => ∃ p cp, e = .returned (.slice p (addS s t (r, q) c).length cp) ∧ NSS w' p (addS s t (r, q) c).length (addS s t (r, q) c) ∧ CP p (addS s t (r, q) c).length cp ∧ Below w.heap.size w w' := by
  have HV := hide hA
  have HP := hide hP
  have HRT := hide hS
  have HGL : Hid ((getS s t).length ≤ 90000) := by
    rcases getS_or s t with ⟨e, _⟩ | ⟨x, hx, _, e⟩
    · rw [e]; exact Nat.zero_le _
    · rw [e]; exact hd x hx
  have HLL : Hid ((leftD (getS s t) c).length ≤ 90000) := Nat.le_trans (List.length_filter_le _ _) HGL.out
  clear hA hP hd hS
  have hfd := fieldL
  go_enter Try.func17, Try.ntmps17
  go_upto_region 1 with fail
  have BB := hide (bel1 w (.cells #[.int .i64 r, .int .i64 q] 24))
  have d0 := cell_new w #[.int .i64 r, .int .i64 q] 24 _ rfl 0 _ rfl
  have d1 := cell_new w #[.int .i64 r, .int .i64 q] 24 _ rfl 1 _ rfl
  generalize hgb : w.heap.size = gb at d0 d1 ⊢
  generalize w.alloc (.cells #[.int .i64 r, .int .i64 q] 24) = u at *
  rw [← hgb] at d0 d1 ⊢
  clear hgb
  refine wp_region_held_drew (S := fun W => Below u.heap.size u W) (by kernel_rfl) ((Below.refl _ u).drew) (fun hS0 => ?_)
  refine takeInH 0 9 ?v1 rfl rfl (by kernel_rfl) (by kernel_rfl) (by kernel_rfl) (fun _ _ _ h => h) (by kernel_rfl) hS0 ?hy1 ?_
  case hy1 => (intro W hW; clear hW; go_simp; try rfl)
  simp only [Act.put, List.setIfInBounds_toArray, List.set_cons_zero, List.set_cons_succ]
  refine takeInH 1 10 ?v2 rfl rfl (by kernel_rfl) (by kernel_rfl) (by kernel_rfl) (fun _ _ _ h => h) (by kernel_rfl) hS0 ?hy2 ?_
  case hy2 => (intro W hW; clear hW; go_simp; try rfl)
  simp only [Act.put, List.setIfInBounds_toArray, List.set_cons_zero, List.set_cons_succ]
  refine takeInH 2 11 ?v3 rfl rfl (by kernel_rfl) (by kernel_rfl) (by kernel_rfl) (fun _ _ _ h => h) (by kernel_rfl) hS0 ?hy3 ?_
  case hy3 => (intro W hW; clear hW; go_simp; try rfl)
  simp only [Act.put, List.setIfInBounds_toArray, List.set_cons_zero, List.set_cons_succ]
  refine takeInH 3 12 ?v4 rfl rfl (by kernel_rfl) (by kernel_rfl) (by kernel_rfl) (fun _ _ _ h => h) (by kernel_rfl) hS0 ?hy4 ?_
  case hy4 => (intro W hW; clear hW; go_simp; try rfl)
  simp only [Act.put, List.setIfInBounds_toArray, List.set_cons_zero, List.set_cons_succ]
  refine takeInH 6 15 ?v5 rfl rfl (by kernel_rfl) (by kernel_rfl) (by kernel_rfl) (fun _ _ _ h => h) (by kernel_rfl) hS0 ?hy5 ?_
  case hy5 => (intro W hW; clear hW; go_simp; try rfl)
  simp only [Act.put, List.setIfInBounds_toArray, List.set_cons_zero, List.set_cons_succ]
  refine takeInH 8 17 ?v6 rfl rfl (by kernel_rfl) (by kernel_rfl) (by kernel_rfl) (fun _ _ _ h => h) (by kernel_rfl) hS0 ?hy6 ?_
  case hy6 => (intro W hW; have e0 := bcell hW d0; have e1 := bcell hW d1; clear hW; go_simp; try rfl)
  simp only [Act.put, List.setIfInBounds_toArray, List.set_cons_zero, List.set_cons_succ]
  refine wpAnyH_ready (rs := [4]) (by kernel_rfl) (by simp) ?_
  refine AllReadyH.cons rfl (fun K hK => ?_) AllReadyH.nil
  go_simp
  refine (GetS_ref a n cap s t _ (HV.out.below (bel_next BB.out hS0))).mono ?_
  rintro e w1 ⟨v1, rfl, ⟨p1, n1, c1, pd1, nd1, cd1, rfl, hd1, _⟩, hb⟩
  have HD1 := hide hd1
  clear hd1
  refine hK.out _ _ ?hs7 (fun hS1 => ?_)
  case hs7 => exact bel_next hS0 hb
  clear hK K hb
  try simp only [Act.put, List.setIfInBounds_toArray, List.set_cons_zero, List.set_cons_succ]
  refine takeInH 5 14 ?v8 rfl rfl (by kernel_rfl) (by kernel_rfl) (by kernel_rfl) (fun _ _ _ h => h) (by kernel_rfl) hS1 ?hy8 ?_
  case hy8 => (intro W hW; clear hW; go_simp; try rfl)
  simp only [Act.put, List.setIfInBounds_toArray, List.set_cons_zero, List.set_cons_succ]
  refine wpAnyH_ready (rs := [7]) (by kernel_rfl) (by simp) ?_
  refine AllReadyH.cons rfl (fun K hK => ?_) AllReadyH.nil
  go_simp
  refine (LeftR_any p1 n1 c1 (getS s t) pa na ca c _ HD1.out (HP.out.below (bel_next BB.out hS1)) (by have := HD1.out.1; have := HGL.out; omega)).mono ?_
  rintro e w2 ⟨v2, rfl, ho2, hb⟩
  have HO2 := hide ho2
  have HZ2 := hide hb.size
  clear ho2
  refine hK.out _ _ ?hs9 (fun hS2 => ?_)
  case hs9 => exact bel_next hS1 hb
  clear hK K hb
  try simp only [Act.put, List.setIfInBounds_toArray, List.set_cons_zero, List.set_cons_succ]
  refine wpAnyH_ready (rs := [9]) (by kernel_rfl) (by simp) ?_
  refine AllReadyH.cons rfl (fun K hK => ?_) AllReadyH.nil
  go_simp
  refine (PutR_any _ _ (leftD (getS s t) c) (r, q) _ HO2.out HZ2.out (by have := HLL.out; omega)).mono ?_
  rintro e w3 ⟨v3, rfl, ho3, hb⟩
  obtain ⟨p3, c3, rfl, hd3, hc3⟩ := ho3.open
  have HD3 := hide hd3
  have HC3 := hide hc3
  clear ho3 hd3 hc3
  refine hK.out _ _ ?hs10 (fun hS3 => ?_)
  case hs10 => exact bel_next hS2 hb
  clear hK K hb
  try simp only [Act.put, List.setIfInBounds_toArray, List.set_cons_zero, List.set_cons_succ]
  refine takeInH 10 19 ?v11 rfl rfl (by kernel_rfl) (by kernel_rfl) (by kernel_rfl) (fun _ _ _ h => h) (by kernel_rfl) hS3 ?hy11 ?_
  case hy11 => (intro W hW; clear hW; go_simp; try rfl)
  simp only [Act.put, List.setIfInBounds_toArray, List.set_cons_zero, List.set_cons_succ]
  refine wpAnyH_ready (rs := [11]) (by kernel_rfl) (by simp) ?_
  refine AllReadyH.cons rfl (fun K hK => ?_) AllReadyH.nil
  go_simp
  refine (PutS_ref a n cap s t p3 _ c3 _ _ (HV.out.below (bel_next BB.out hS3)) HRT.out HD3.out HC3.out hn (by have := HLL.out; have := @putD_len (r, q) (leftD (getS s t) c); omega)).mono ?_
  rintro e w4 ⟨p4, c4, rfl, hn4, hc4, hb⟩
  have HN4 := hide hn4
  have HC4 := hide hc4
  clear hn4 hc4
  refine hK.out _ _ ?hs12 (fun hS4 => ?_)
  case hs12 => exact bel_next hS3 hb
  clear hK K hb
  try simp only [Act.put, List.setIfInBounds_toArray, List.set_cons_zero, List.set_cons_succ]
  refine takeInH 12 8 ?v13 rfl rfl (by kernel_rfl) (by kernel_rfl) (by kernel_rfl) (fun _ _ _ h => h) (by kernel_rfl) hS4 ?hy13 ?_
  case hy13 => (intro W hW; clear hW; go_simp; try rfl)
  simp only [Act.put, List.setIfInBounds_toArray, List.set_cons_zero, List.set_cons_succ]
  refine wpAnyH_done (by kernel_rfl) ?_ _
  go_wp2
  go_ret
  exact ⟨p4, c4, rfl, HN4.out, HC4.out, bel_next BB.out hS4⟩
set_option maxHeartbeats 2000000 in
set_option maxRecDepth 4000 in
theorem DropS_ref (a : Option Addr) (n cap : Nat) (s : List En) (t : ByteArray) (pa : Option Addr) (na ca : Nat) (c : List Int) (w : World) (hA : NSS w a n s) (hS : SrtK s) (hP : NS w pa na c) (hn : n ≤ 100000) (hd : ∀ x ∈ s, x.2.1.length ≤ 90000) :
    Calls Try.prog 18 #[.slice a n cap, .string t, .slice pa na ca] w fun e w' => ∃ p cp, e = .returned (.slice p (dropS s t c).length cp) ∧ NSS w' p (dropS s t c).length (dropS s t c) ∧ CP p (dropS s t c).length cp ∧ Below w.heap.size w w' := by
  have HV := hide hA
  have HP := hide hP
  have HRT := hide hS
  have HGL : Hid ((getS s t).length ≤ 90000) := by
    rcases getS_or s t with ⟨e, _⟩ | ⟨x, hx, _, e⟩
    · rw [e]; exact Nat.zero_le _
    · rw [e]; exact hd x hx
  have HLL : Hid ((leftD (getS s t) c).length ≤ 90000) := Nat.le_trans (List.length_filter_le _ _) HGL.out
  clear hA hP hd hS
  have BB : Hid (Below w.heap.size w w) := Below.refl _ _
  have hfd := fieldL
  go_enter Try.func18, Try.ntmps18
  go_wp2_with (first | (go_at_call 22; refine (GetS_ref a n cap s t _ (HV.out.below BB.out)).mono ?_; rintro e w1 ⟨v1, rfl, ⟨p1, n1, c1, pd1, nd1, cd1, rfl, hd1, _⟩, hb⟩; have HD1 := hide hd1; replace BB := hide (bel_next BB.out hb); clear hd1 hb) | (go_at_call 39; refine (LeftR_any p1 n1 c1 (getS s t) pa na ca c _ HD1.out (HP.out.below BB.out) (by have := HD1.out.1; have := HGL.out; omega)).mono ?_; rintro e w2 ⟨v2, rfl, ho2, hb⟩; obtain ⟨p3, c3, rfl, hd3, hc3⟩ := ho2.open; have HD3 := hide hd3; have HC3 := hide hc3; replace BB := hide (bel_next BB.out hb); clear ho2 hd3 hc3 hb) | (go_at_call 26; refine (PutS_ref a n cap s t p3 _ c3 _ _ (HV.out.below BB.out) HRT.out HD3.out HC3.out hn (by have := HLL.out; omega)).mono ?_; rintro e w4 ⟨p4, c4, rfl, hn4, hc4, hb⟩; have HN4 := hide hn4; have HC4 := hide hc4; replace BB := hide (bel_next BB.out hb); clear hn4 hc4 hb))
  go_ret
  exact ⟨p4, c4, rfl, HN4.out, HC4.out, BB.out⟩
end Go.Proofs.Ytoogahfmjgajpaa
