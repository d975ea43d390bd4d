/- Texts of this claim, joined: HP7. -/
import Derived.Test.YtkbbegbpkndebaaGreatJ45
import Derived.Test.YtkbbegbpkndebaaGreatJ52
/- number, signed, cellBytes and noteBytes of layer 13 (the program). -/
namespace Go.Proofs.YtkbbegbpkndebaaGreat
open Go.RowKit Go.Lib
set_option linter.unusedVariables false
theorem conv13 (W : World) (s : ByteArray) : (convert 9 59 (.string s)).run Tryz.prog W = .ok (.slice (some ⟨W.heap.size, 0, none⟩) s.size (grownCap W s.size 0 5)) (Lib.bytesWorld W 5 s) :=
 Lib.run_convert_string_bytes W 9 59 5 s Tryz.underlying9 Tryz.underlying59 Tryz.underlying5
theorem conv_next13 {u W : World} (h : Below u.heap.size u W) (s : ByteArray) : Below u.heap.size u (Lib.bytesWorld W 5 s) := bel_next h (conv_bel W _ s)
set_option maxHeartbeats 1000000 in
theorem number13 (n : Int) (w : World) (h0 : 0 ≤ n) (h1 : n ≤ 9223372036854775807) : Calls Tryz.prog 143 #[.int .i64 n] w fun e w' => ∃ v, e = .returned v ∧ Own w.heap.size w' v (num n) ∧ Below w.heap.size w w' := by
 have HN := hide (fun W => num_any n W h0 (by omega))
 have hw : IntKind.u64.wrap n = n := by rw [IntKind.wrap_u64]; omega
 go_enter Tryz.func143, Tryz.ntmps143
 go_wp2_with (go_at_call 145; refine (HN.out _).mono ?_; rintro e w1 ⟨v, rfl, ho, hb⟩; have HO := hide ho; have HB := hide hb; clear ho hb)
 go_ret
 exact ⟨_, rfl, HO.out, HB.out⟩
set_option maxHeartbeats 2000000 in
theorem signed13 (n : Int) (w : World) (h : -top40 ≤ n ∧ n ≤ top40) : Calls Tryz.prog 144 #[.int .i64 n] w fun e w' => ∃ v, e = .returned v ∧ Own w.heap.size w' v (num (zzN n)) ∧ Below w.heap.size w w' := by
 have ht : top40 = 1099511627776 := rfl
 rw [ht] at h
 by_cases h0 : n < 0
 ·have e1 : zzN n = -2 * n - 1 := by unfold zzN; rw [if_neg (by omega)]
  rw [e1]
  have HN := hide (fun W => number13 (-2 * n - 1) W (by omega) (by omega))
  have hw1 : IntKind.i64.wrap (-2 * n) = -2 * n := by rw [IntKind.wrap_i64]; omega
  have hw2 : IntKind.i64.wrap (-2 * n - 1) = -2 * n - 1 := by rw [IntKind.wrap_i64]; omega
  clear e1 ht
  go_enter Tryz.func144, Tryz.ntmps144
  go_wp2_with (go_at_call 143; refine (HN.out _).mono ?_; rintro e w1 ⟨v, rfl, ho, hb⟩; have HO := hide ho; have HB := hide hb; clear ho hb)
  go_ret
  exact ⟨_, rfl, HO.out, HB.out⟩
 ·have e1 : zzN n = 2 * n := by unfold zzN; rw [if_pos (by omega)]
  rw [e1]
  have HN := hide (fun W => number13 (2 * n) W (by omega) (by omega))
  have hw1 : IntKind.i64.wrap (2 * n) = 2 * n := by rw [IntKind.wrap_i64]; omega
  clear e1 ht
  go_enter Tryz.func144, Tryz.ntmps144
  go_wp2_with (go_at_call 143; refine (HN.out _).mono ?_; rintro e w1 ⟨v, rfl, ho, hb⟩; have HO := hide ho; have HB := hide hb; clear ho hb)
  go_ret
  exact ⟨_, rfl, HO.out, HB.out⟩
set_option maxRecDepth 2000 in
set_option maxHeartbeats 8000000 in
theorem cellB13 (sk : ByteArray) (n : Int) (w : World) (hk : sk.size ≤ 65536) (hn : -top40 ≤ n ∧ n ≤ top40) : Calls Tryz.prog 83 #[.agg #[.string sk, .int .i64 n]] w fun e w' => ∃ v, e = .returned v ∧ Own w.heap.size w' v (celB (sk, n)) ∧ Below w.heap.size w w' := by
 have hsk : sk.size ≤ maxLen := by unfold maxLen; omega
 have HL : Hid (∀ p ∈ [bytesL sk, num (zzN n)], p.length ≤ 100000) := by
  intro p hp
  have h9 := num_len9 (zzN n)
  have h8 := bytesL_len sk
  simp only [List.mem_cons, List.not_mem_nil, or_false] at hp
  rcases hp with rfl | rfl <;> omega
 have hc1 : ∀ W, _ := fun W => conv13 W sk
 have HU := hide (bel1 w (.cells #[.string sk, .int .i64 n] 129))
 have z0 := cell_new w #[.string sk, .int .i64 n] 129 _ rfl 0 _ rfl
 have z1 := cell_new w #[.string sk, .int .i64 n] 129 _ rfl 1 _ rfl
 go_enter Tryz.func83, Tryz.ntmps83
 go_wp2
 generalize hu : w.alloc (.cells #[.string sk, .int .i64 n] 129) = u at *
 clear hu
 refine wp_region_held_drew (S := fun W => Below u.heap.size u W) (by kernel_rfl) ((Below.refl _ u).drew) (fun hS0 => ?_)
 refine tkJ 0 3 hS0 ?_; simp only [ly]
 refine tkL 1 4 hS0 ?h ?_; case h => (intro W hW; have e0 := bcell hW z0; have e1 := bcell hW z1; clear hW; go_simp; try rfl); simp only [ly]
 refine tkJ 3 6 hS0 ?_; simp only [ly]
 refine tkL 4 7 hS0 ?h ?_; case h => (intro W hW; have e0 := bcell hW z0; have e1 := bcell hW z1; clear hW; go_simp; try rfl); simp only [ly]
 clear z0 z1
 refine share_intro _ _ _ _ _ _ _ _ _ (fun Z => ∀ listed : Array Bool, listed = #[true, true, true, true, true, true, false, false, false] → ∀ (g5 : Nat) (c5 : Nat) (p8 : Option Addr) (c8 : Nat) (W : World), Below u.heap.size u W → Hid (TX W (.slice (some ⟨g5, 0, none⟩) sk.size c5) (bytesL sk)) → Hid (TX W (.slice p8 (num (zzN n)).length c8) (num (zzN n))) → Z 3 listed ⟨#[.agg #[.string sk, .int .i64 n], .pointer (some ⟨w.heap.size, 0, none⟩), .slice none 0 0, .pointer (some ⟨w.heap.size, 0, none⟩), .string sk, .slice (some ⟨g5, 0, none⟩) sk.size c5, .pointer (some ⟨w.heap.size, 1, none⟩), .int .i64 n, .slice p8 (num (zzN n)).length c8, undef, undef], []⟩ W) ?_ (fun H11 => ?_)
 ·intro listed hl g5 c5 p8 c8 W hS T5 T8
  subst hl
  have hS0 := hS
  refine wpAnyH_ready (rs := [6]) (by kernel_rfl) (by simp) ?_
  refine AllReadyH.cons rfl (fun K hK => ?_) AllReadyH.nil
  go_simp
  skip
  refine hK.out _ _ ?hs5 (fun hS1 => ?_)
  case hs5 => exact bel_next hS0 (bel1 _ _)
  clear hK K
  try simp only [List.setIfInBounds_toArray, List.set_cons_zero, List.set_cons_succ]
  refine wpAnyH_ready (rs := [7]) (by kernel_rfl) (by simp) ?_
  refine AllReadyH.cons rfl (fun K hK => ?_) AllReadyH.nil
  go_simp
  refine (pack_any _ 2 _ _ _ (PC.newT W _ rfl [(_, bytesL sk), (_, num (zzN n))] _ rfl _ _ 2 rfl (by decide) ?_) (by decide) ?_).mono ?_
  ·simp only [List.mem_cons, List.not_mem_nil, or_false]
   rintro q (rfl | rfl)
   ·exact T5.out
   ·exact T8.out
  ·exact HL.out
  rintro e w' ⟨vr, rfl, hO, hb⟩
  have HO := hide hO
  clear hO
  try go_wp2_with fail
  refine hK.out _ _ ?hs6 (fun hS2 => ?_)
  case hs6 => exact bel_next hS1 hb
  clear hK K
  try simp only [List.setIfInBounds_toArray, List.set_cons_zero, List.set_cons_succ]
  refine tkJ 8 2 hS2 ?_; simp only [ly]
  refine wpAnyH_done (by kernel_rfl) ?_ _
  go_wp2
  go_ret
  exact ⟨_, rfl, HO.out.mono (Nat.le_trans HU.out.size (hS1.size)), bel_next HU.out hS2⟩
 refine share_intro _ _ _ _ _ _ _ _ _ (fun Z => ∀ listed : Array Bool, listed = #[true, true, true, true, true, false, false, false, false] → ∀ (g5 : Nat) (c5 : Nat) (W : World), Below u.heap.size u W → Hid (TX W (.slice (some ⟨g5, 0, none⟩) sk.size c5) (bytesL sk)) → Z 4 listed ⟨#[.agg #[.string sk, .int .i64 n], .pointer (some ⟨w.heap.size, 0, none⟩), .slice none 0 0, .pointer (some ⟨w.heap.size, 0, none⟩), .string sk, .slice (some ⟨g5, 0, none⟩) sk.size c5, .pointer (some ⟨w.heap.size, 1, none⟩), .int .i64 n, undef, undef, undef], []⟩ W) ?_ (fun H10 => ?_)
 ·intro listed hl g5 c5 W hS T5
  subst hl
  refine wpAnyH_ready (rs := [5]) (by kernel_rfl) (by simp) ?_
  refine AllReadyH.cons rfl (fun K hK => ?_) AllReadyH.nil
  go_simp
  refine (signed13 n _ hn).mono ?_
  rintro e w' ⟨v, rfl, hO, hb⟩
  obtain ⟨p8, c8, hv, hB, hC⟩ := hO.open (num_by (zzN n))
  subst hv
  have T8 := hide (⟨_, _, _, rfl, hB, hC⟩ : TX w' (.slice p8 (num (zzN n)).length c8) (num (zzN n)))
  clear hO hB hC
  try go_wp2_with fail
  refine hK.out _ _ ?hs8 (fun hS2 => ?_)
  case hs8 => exact bel_next hS hb
  try simp only [List.setIfInBounds_toArray, List.set_cons_zero, List.set_cons_succ]
  exact H11 _ (by kernel_rfl) g5 c5 p8 c8 _ hS2 (hide (T5.out.below hb)) T8
 refine share_intro _ _ _ _ _ _ _ _ _ (fun Z => ∀ listed : Array Bool, listed = #[true, true, false, true, true, true, false, false, false] → ∀ (p8 : Option Addr) (c8 : Nat) (W : World), Below u.heap.size u W → Hid (TX W (.slice p8 (num (zzN n)).length c8) (num (zzN n))) → Z 4 listed ⟨#[.agg #[.string sk, .int .i64 n], .pointer (some ⟨w.heap.size, 0, none⟩), .slice none 0 0, .pointer (some ⟨w.heap.size, 0, none⟩), .string sk, undef, .pointer (some ⟨w.heap.size, 1, none⟩), .int .i64 n, .slice p8 (num (zzN n)).length c8, undef, undef], []⟩ W) ?_ (fun H01 => ?_)
 ·intro listed hl p8 c8 W hS T8
  subst hl
  refine wpAnyH_ready (rs := [2]) (by kernel_rfl) (by simp) ?_
  refine AllReadyH.cons rfl (fun K hK => ?_) AllReadyH.nil
  go_simp
  have T5 := hide (TX.made hS sk hsk)
  refine hK.out _ _ ?hs9 (fun hS2 => ?_)
  case hs9 => exact conv_next13 hS sk
  try simp only [List.setIfInBounds_toArray, List.set_cons_zero, List.set_cons_succ]
  exact H11 _ (by kernel_rfl) _ _ p8 c8 _ hS2 T5 (hide (T8.out.below (conv_bel _ _ sk)))
 refine share_intro _ _ _ _ _ _ _ _ _ (fun Z => ∀ listed : Array Bool, listed = #[true, true, false, true, true, false, false, false, false] → ∀ (W : World), Below u.heap.size u W → Z 5 listed ⟨#[.agg #[.string sk, .int .i64 n], .pointer (some ⟨w.heap.size, 0, none⟩), .slice none 0 0, .pointer (some ⟨w.heap.size, 0, none⟩), .string sk, undef, .pointer (some ⟨w.heap.size, 1, none⟩), .int .i64 n, undef, undef, undef], []⟩ W) ?_ (fun H00 => ?_)
 ·intro listed hl  W hS 
  subst hl
  refine wpAnyH_ready (rs := [2, 5]) (by kernel_rfl) (by simp) ?_
  refine AllReadyH.cons rfl (fun K hK => ?_) (AllReadyH.cons rfl (fun K hK => ?_) AllReadyH.nil)
  ·go_simp
   have T5 := hide (TX.made hS sk hsk)
   refine hK.out _ _ ?hs10 (fun hS2 => ?_)
   case hs10 => exact conv_next13 hS sk
   try simp only [List.setIfInBounds_toArray, List.set_cons_zero, List.set_cons_succ]
   exact H10 _ (by kernel_rfl) _ _ _ hS2 T5
  ·go_simp
   refine (signed13 n _ hn).mono ?_
   rintro e w' ⟨v, rfl, hO, hb⟩
   obtain ⟨p8, c8, hv, hB, hC⟩ := hO.open (num_by (zzN n))
   subst hv
   have T8 := hide (⟨_, _, _, rfl, hB, hC⟩ : TX w' (.slice p8 (num (zzN n)).length c8) (num (zzN n)))
   clear hO hB hC
   try go_wp2_with fail
   refine hK.out _ _ ?hs11 (fun hS2 => ?_)
   case hs11 => exact bel_next hS hb
   try simp only [List.setIfInBounds_toArray, List.set_cons_zero, List.set_cons_succ]
   exact H01 _ (by kernel_rfl) p8 c8 _ hS2 T8
 exact H00 _ (by kernel_rfl) _ hS0
set_option maxRecDepth 2000 in
set_option maxHeartbeats 8000000 in
theorem noteB13 (sk : ByteArray) (n m : Int) (sw : ByteArray) (w : World) (hk : sk.size ≤ 65536) (hn : 0 ≤ n ∧ n ≤ 9223372036854775807) (hm : 0 ≤ m ∧ m ≤ 9223372036854775807) (hv : sw.size ≤ 65536) : Calls Tryz.prog 87 #[.agg #[.string sk, .int .i64 n, .int .i64 m, .string sw]] w fun e w' => ∃ v, e = .returned v ∧ Own w.heap.size w' v (notB (sk, n, m, sw)) ∧ Below w.heap.size w w' := by
 have hsk : sk.size ≤ maxLen := by unfold maxLen; omega
 have hsw : sw.size ≤ maxLen := by unfold maxLen; omega
 have HL : Hid (∀ p ∈ [bytesL sk, num n, num m, bytesL sw], p.length ≤ 100000) := by
  intro p hp
  have h9 := num_len9 n
  have h10 := num_len9 m
  have h8 := bytesL_len sk
  have h7 := bytesL_len sw
  simp only [List.mem_cons, List.not_mem_nil, or_false] at hp
  rcases hp with rfl | rfl | rfl | rfl <;> omega
 have hc1 : ∀ W, _ := fun W => conv13 W sk
 have hc2 : ∀ W, _ := fun W => conv13 W sw
 have HU := hide (bel1 w (.cells #[.string sk, .int .i64 n, .int .i64 m, .string sw] 111))
 have z0 := cell_new w #[.string sk, .int .i64 n, .int .i64 m, .string sw] 111 _ rfl 0 _ rfl
 have z1 := cell_new w #[.string sk, .int .i64 n, .int .i64 m, .string sw] 111 _ rfl 1 _ rfl
 have z2 := cell_new w #[.string sk, .int .i64 n, .int .i64 m, .string sw] 111 _ rfl 2 _ rfl
 have z3 := cell_new w #[.string sk, .int .i64 n, .int .i64 m, .string sw] 111 _ rfl 3 _ rfl
 go_enter Tryz.func87, Tryz.ntmps87
 go_wp2
 generalize hu : w.alloc (.cells #[.string sk, .int .i64 n, .int .i64 m, .string sw] 111) = u at *
 clear hu
 refine wp_region_held_drew (S := fun W => Below u.heap.size u W) (by kernel_rfl) ((Below.refl _ u).drew) (fun hS0 => ?_)
 refine tkJ 0 3 hS0 ?_; simp only [ly]
 refine tkL 1 4 hS0 ?h ?_; case h => (intro W hW; have e0 := bcell hW z0; have e1 := bcell hW z1; have e2 := bcell hW z2; have e3 := bcell hW z3; clear hW; go_simp; try rfl); simp only [ly]
 refine tkJ 3 6 hS0 ?_; simp only [ly]
 refine tkL 4 7 hS0 ?h ?_; case h => (intro W hW; have e0 := bcell hW z0; have e1 := bcell hW z1; have e2 := bcell hW z2; have e3 := bcell hW z3; clear hW; go_simp; try rfl); simp only [ly]
 refine tkJ 6 9 hS0 ?_; simp only [ly]
 refine tkL 7 10 hS0 ?h ?_; case h => (intro W hW; have e0 := bcell hW z0; have e1 := bcell hW z1; have e2 := bcell hW z2; have e3 := bcell hW z3; clear hW; go_simp; try rfl); simp only [ly]
 refine tkJ 9 12 hS0 ?_; simp only [ly]
 refine tkL 10 13 hS0 ?h ?_; case h => (intro W hW; have e0 := bcell hW z0; have e1 := bcell hW z1; have e2 := bcell hW z2; have e3 := bcell hW z3; clear hW; go_simp; try rfl); simp only [ly]
 clear z0 z1 z2 z3
 refine share_intro _ _ _ _ _ _ _ _ _ (fun Z => ∀ listed : Array Bool, listed = #[true, true, true, true, true, true, true, true, true, true, true, true, false, false, false] → ∀ (g5 : Nat) (c5 : Nat) (p8 : Option Addr) (c8 : Nat) (p11 : Option Addr) (c11 : Nat) (g14 : Nat) (c14 : Nat) (W : World), Below u.heap.size u W → Hid (TX W (.slice (some ⟨g5, 0, none⟩) sk.size c5) (bytesL sk)) → Hid (TX W (.slice p8 (num n).length c8) (num n)) → Hid (TX W (.slice p11 (num m).length c11) (num m)) → Hid (TX W (.slice (some ⟨g14, 0, none⟩) sw.size c14) (bytesL sw)) → Z 3 listed ⟨#[.agg #[.string sk, .int .i64 n, .int .i64 m, .string sw], .pointer (some ⟨w.heap.size, 0, none⟩), .slice none 0 0, .pointer (some ⟨w.heap.size, 0, none⟩), .string sk, .slice (some ⟨g5, 0, none⟩) sk.size c5, .pointer (some ⟨w.heap.size, 1, none⟩), .int .i64 n, .slice p8 (num n).length c8, .pointer (some ⟨w.heap.size, 2, none⟩), .int .i64 m, .slice p11 (num m).length c11, .pointer (some ⟨w.heap.size, 3, none⟩), .string sw, .slice (some ⟨g14, 0, none⟩) sw.size c14, undef, undef], []⟩ W) ?_ (fun H1111 => ?_)
 ·intro listed hl g5 c5 p8 c8 p11 c11 g14 c14 W hS T5 T8 T11 T14
  subst hl
  have hS0 := hS
  refine wpAnyH_ready (rs := [12]) (by kernel_rfl) (by simp) ?_
  refine AllReadyH.cons rfl (fun K hK => ?_) AllReadyH.nil
  go_simp
  skip
  refine hK.out _ _ ?hs20 (fun hS1 => ?_)
  case hs20 => exact bel_next hS0 (bel1 _ _)
  clear hK K
  try simp only [List.setIfInBounds_toArray, List.set_cons_zero, List.set_cons_succ]
  refine wpAnyH_ready (rs := [13]) (by kernel_rfl) (by simp) ?_
  refine AllReadyH.cons rfl (fun K hK => ?_) AllReadyH.nil
  go_simp
  refine (pack_any _ 4 _ _ _ (PC.newT W _ rfl [(_, bytesL sk), (_, num n), (_, num m), (_, bytesL sw)] _ rfl _ _ 4 rfl (by decide) ?_) (by decide) ?_).mono ?_
  ·simp only [List.mem_cons, List.not_mem_nil, or_false]
   rintro q (rfl | rfl | rfl | rfl)
   ·exact T5.out
   ·exact T8.out
   ·exact T11.out
   ·exact T14.out
  ·exact HL.out
  rintro e w' ⟨vr, rfl, hO, hb⟩
  have HO := hide hO
  clear hO
  try go_wp2_with fail
  refine hK.out _ _ ?hs21 (fun hS2 => ?_)
  case hs21 => exact bel_next hS1 hb
  clear hK K
  try simp only [List.setIfInBounds_toArray, List.set_cons_zero, List.set_cons_succ]
  refine tkJ 14 2 hS2 ?_; simp only [ly]
  refine wpAnyH_done (by kernel_rfl) ?_ _
  go_wp2
  go_ret
  exact ⟨_, rfl, HO.out.mono (Nat.le_trans HU.out.size (hS1.size)), bel_next HU.out hS2⟩
 refine share_intro _ _ _ _ _ _ _ _ _ (fun Z => ∀ listed : Array Bool, listed = #[true, true, true, true, true, true, true, true, true, true, true, false, false, false, false] → ∀ (g5 : Nat) (c5 : Nat) (p8 : Option Addr) (c8 : Nat) (p11 : Option Addr) (c11 : Nat) (W : World), Below u.heap.size u W → Hid (TX W (.slice (some ⟨g5, 0, none⟩) sk.size c5) (bytesL sk)) → Hid (TX W (.slice p8 (num n).length c8) (num n)) → Hid (TX W (.slice p11 (num m).length c11) (num m)) → Z 4 listed ⟨#[.agg #[.string sk, .int .i64 n, .int .i64 m, .string sw], .pointer (some ⟨w.heap.size, 0, none⟩), .slice none 0 0, .pointer (some ⟨w.heap.size, 0, none⟩), .string sk, .slice (some ⟨g5, 0, none⟩) sk.size c5, .pointer (some ⟨w.heap.size, 1, none⟩), .int .i64 n, .slice p8 (num n).length c8, .pointer (some ⟨w.heap.size, 2, none⟩), .int .i64 m, .slice p11 (num m).length c11, .pointer (some ⟨w.heap.size, 3, none⟩), .string sw, undef, undef, undef], []⟩ W) ?_ (fun H1110 => ?_)
 ·intro listed hl g5 c5 p8 c8 p11 c11 W hS T5 T8 T11
  subst hl
  refine wpAnyH_ready (rs := [11]) (by kernel_rfl) (by simp) ?_
  refine AllReadyH.cons rfl (fun K hK => ?_) AllReadyH.nil
  go_simp
  have T14 := hide (TX.made hS sw hsw)
  refine hK.out _ _ ?hs23 (fun hS2 => ?_)
  case hs23 => exact conv_next13 hS sw
  try simp only [List.setIfInBounds_toArray, List.set_cons_zero, List.set_cons_succ]
  exact H1111 _ (by kernel_rfl) g5 c5 p8 c8 p11 c11 _ _ _ hS2 (hide (T5.out.below (conv_bel _ _ sw))) (hide (T8.out.below (conv_bel _ _ sw))) (hide (T11.out.below (conv_bel _ _ sw))) T14
 refine share_intro _ _ _ _ _ _ _ _ _ (fun Z => ∀ listed : Array Bool, listed = #[true, true, true, true, true, true, true, true, false, true, true, true, false, false, false] → ∀ (g5 : Nat) (c5 : Nat) (p8 : Option Addr) (c8 : Nat) (g14 : Nat) (c14 : Nat) (W : World), Below u.heap.size u W → Hid (TX W (.slice (some ⟨g5, 0, none⟩) sk.size c5) (bytesL sk)) → Hid (TX W (.slice p8 (num n).length c8) (num n)) → Hid (TX W (.slice (some ⟨g14, 0, none⟩) sw.size c14) (bytesL sw)) → Z 4 listed ⟨#[.agg #[.string sk, .int .i64 n, .int .i64 m, .string sw], .pointer (some ⟨w.heap.size, 0, none⟩), .slice none 0 0, .pointer (some ⟨w.heap.size, 0, none⟩), .string sk, .slice (some ⟨g5, 0, none⟩) sk.size c5, .pointer (some ⟨w.heap.size, 1, none⟩), .int .i64 n, .slice p8 (num n).length c8, .pointer (some ⟨w.heap.size, 2, none⟩), .int .i64 m, undef, .pointer (some ⟨w.heap.size, 3, none⟩), .string sw, .slice (some ⟨g14, 0, none⟩) sw.size c14, undef, undef], []⟩ W) ?_ (fun H1101 => ?_)
 ·intro listed hl g5 c5 p8 c8 g14 c14 W hS T5 T8 T14
  subst hl
  refine wpAnyH_ready (rs := [8]) (by kernel_rfl) (by simp) ?_
  refine AllReadyH.cons rfl (fun K hK => ?_) AllReadyH.nil
  go_simp
  refine (number13 m _ hm.1 hm.2).mono ?_
  rintro e w' ⟨v, rfl, hO, hb⟩
  obtain ⟨p11, c11, hv, hB, hC⟩ := hO.open (num_by m)
  subst hv
  have T11 := hide (⟨_, _, _, rfl, hB, hC⟩ : TX w' (.slice p11 (num m).length c11) (num m))
  clear hO hB hC
  try go_wp2_with fail
  refine hK.out _ _ ?hs24 (fun hS2 => ?_)
  case hs24 => exact bel_next hS hb
  try simp only [List.setIfInBounds_toArray, List.set_cons_zero, List.set_cons_succ]
  exact H1111 _ (by kernel_rfl) g5 c5 p8 c8 p11 c11 g14 c14 _ hS2 (hide (T5.out.below hb)) (hide (T8.out.below hb)) T11 (hide (T14.out.below hb))
 refine share_intro _ _ _ _ _ _ _ _ _ (fun Z => ∀ listed : Array Bool, listed = #[true, true, false, true, true, true, true, true, true, true, true, true, false, false, false] → ∀ (p8 : Option Addr) (c8 : Nat) (p11 : Option Addr) (c11 : Nat) (g14 : Nat) (c14 : Nat) (W : World), Below u.heap.size u W → Hid (TX W (.slice p8 (num n).length c8) (num n)) → Hid (TX W (.slice p11 (num m).length c11) (num m)) → Hid (TX W (.slice (some ⟨g14, 0, none⟩) sw.size c14) (bytesL sw)) → Z 4 listed ⟨#[.agg #[.string sk, .int .i64 n, .int .i64 m, .string sw], .pointer (some ⟨w.heap.size, 0, none⟩), .slice none 0 0, .pointer (some ⟨w.heap.size, 0, none⟩), .string sk, undef, .pointer (some ⟨w.heap.size, 1, none⟩), .int .i64 n, .slice p8 (num n).length c8, .pointer (some ⟨w.heap.size, 2, none⟩), .int .i64 m, .slice p11 (num m).length c11, .pointer (some ⟨w.heap.size, 3, none⟩), .string sw, .slice (some ⟨g14, 0, none⟩) sw.size c14, undef, undef], []⟩ W) ?_ (fun H0111 => ?_)
 ·intro listed hl p8 c8 p11 c11 g14 c14 W hS T8 T11 T14
  subst hl
  refine wpAnyH_ready (rs := [2]) (by kernel_rfl) (by simp) ?_
  refine AllReadyH.cons rfl (fun K hK => ?_) AllReadyH.nil
  go_simp
  have T5 := hide (TX.made hS sk hsk)
  refine hK.out _ _ ?hs25 (fun hS2 => ?_)
  case hs25 => exact conv_next13 hS sk
  try simp only [List.setIfInBounds_toArray, List.set_cons_zero, List.set_cons_succ]
  exact H1111 _ (by kernel_rfl) _ _ p8 c8 p11 c11 g14 c14 _ hS2 T5 (hide (T8.out.below (conv_bel _ _ sk))) (hide (T11.out.below (conv_bel _ _ sk))) (hide (T14.out.below (conv_bel _ _ sk)))
 refine share_intro _ _ _ _ _ _ _ _ _ (fun Z => ∀ listed : Array Bool, listed = #[true, true, true, true, true, true, true, true, false, true, true, false, false, false, false] → ∀ (g5 : Nat) (c5 : Nat) (p8 : Option Addr) (c8 : Nat) (W : World), Below u.heap.size u W → Hid (TX W (.slice (some ⟨g5, 0, none⟩) sk.size c5) (bytesL sk)) → Hid (TX W (.slice p8 (num n).length c8) (num n)) → Z 5 listed ⟨#[.agg #[.string sk, .int .i64 n, .int .i64 m, .string sw], .pointer (some ⟨w.heap.size, 0, none⟩), .slice none 0 0, .pointer (some ⟨w.heap.size, 0, none⟩), .string sk, .slice (some ⟨g5, 0, none⟩) sk.size c5, .pointer (some ⟨w.heap.size, 1, none⟩), .int .i64 n, .slice p8 (num n).length c8, .pointer (some ⟨w.heap.size, 2, none⟩), .int .i64 m, undef, .pointer (some ⟨w.heap.size, 3, none⟩), .string sw, undef, undef, undef], []⟩ W) ?_ (fun H1100 => ?_)
 ·intro listed hl g5 c5 p8 c8 W hS T5 T8
  subst hl
  refine wpAnyH_ready (rs := [8, 11]) (by kernel_rfl) (by simp) ?_
  refine AllReadyH.cons rfl (fun K hK => ?_) (AllReadyH.cons rfl (fun K hK => ?_) AllReadyH.nil)
  ·go_simp
   refine (number13 m _ hm.1 hm.2).mono ?_
   rintro e w' ⟨v, rfl, hO, hb⟩
   obtain ⟨p11, c11, hv, hB, hC⟩ := hO.open (num_by m)
   subst hv
   have T11 := hide (⟨_, _, _, rfl, hB, hC⟩ : TX w' (.slice p11 (num m).length c11) (num m))
   clear hO hB hC
   try go_wp2_with fail
   refine hK.out _ _ ?hs26 (fun hS2 => ?_)
   case hs26 => exact bel_next hS hb
   try simp only [List.setIfInBounds_toArray, List.set_cons_zero, List.set_cons_succ]
   exact H1110 _ (by kernel_rfl) g5 c5 p8 c8 p11 c11 _ hS2 (hide (T5.out.below hb)) (hide (T8.out.below hb)) T11
  ·go_simp
   have T14 := hide (TX.made hS sw hsw)
   refine hK.out _ _ ?hs27 (fun hS2 => ?_)
   case hs27 => exact conv_next13 hS sw
   try simp only [List.setIfInBounds_toArray, List.set_cons_zero, List.set_cons_succ]
   exact H1101 _ (by kernel_rfl) g5 c5 p8 c8 _ _ _ hS2 (hide (T5.out.below (conv_bel _ _ sw))) (hide (T8.out.below (conv_bel _ _ sw))) T14
 refine share_intro _ _ _ _ _ _ _ _ _ (fun Z => ∀ listed : Array Bool, listed = #[true, true, true, true, true, false, true, true, false, true, true, true, false, false, false] → ∀ (g5 : Nat) (c5 : Nat) (g14 : Nat) (c14 : Nat) (W : World), Below u.heap.size u W → Hid (TX W (.slice (some ⟨g5, 0, none⟩) sk.size c5) (bytesL sk)) → Hid (TX W (.slice (some ⟨g14, 0, none⟩) sw.size c14) (bytesL sw)) → Z 5 listed ⟨#[.agg #[.string sk, .int .i64 n, .int .i64 m, .string sw], .pointer (some ⟨w.heap.size, 0, none⟩), .slice none 0 0, .pointer (some ⟨w.heap.size, 0, none⟩), .string sk, .slice (some ⟨g5, 0, none⟩) sk.size c5, .pointer (some ⟨w.heap.size, 1, none⟩), .int .i64 n, undef, .pointer (some ⟨w.heap.size, 2, none⟩), .int .i64 m, undef, .pointer (some ⟨w.heap.size, 3, none⟩), .string sw, .slice (some ⟨g14, 0, none⟩) sw.size c14, undef, undef], []⟩ W) ?_ (fun H1001 => ?_)
 ·intro listed hl g5 c5 g14 c14 W hS T5 T14
  subst hl
  refine wpAnyH_ready (rs := [5]) (by kernel_rfl) (by simp) ?_
  refine AllReadyH.cons rfl (fun K hK => ?_) AllReadyH.nil
  go_simp
  refine (number13 n _ hn.1 hn.2).mono ?_
  rintro e w' ⟨v, rfl, hO, hb⟩
  obtain ⟨p8, c8, hv, hB, hC⟩ := hO.open (num_by n)
  subst hv
  have T8 := hide (⟨_, _, _, rfl, hB, hC⟩ : TX w' (.slice p8 (num n).length c8) (num n))
  clear hO hB hC
  try go_wp2_with fail
  refine hK.out _ _ ?hs28 (fun hS2 => ?_)
  case hs28 => exact bel_next hS hb
  try simp only [List.setIfInBounds_toArray, List.set_cons_zero, List.set_cons_succ]
  exact H1101 _ (by kernel_rfl) g5 c5 p8 c8 g14 c14 _ hS2 (hide (T5.out.below hb)) T8 (hide (T14.out.below hb))
 refine share_intro _ _ _ _ _ _ _ _ _ (fun Z => ∀ listed : Array Bool, listed = #[true, true, false, true, true, true, true, true, true, true, true, false, false, false, false] → ∀ (p8 : Option Addr) (c8 : Nat) (p11 : Option Addr) (c11 : Nat) (W : World), Below u.heap.size u W → Hid (TX W (.slice p8 (num n).length c8) (num n)) → Hid (TX W (.slice p11 (num m).length c11) (num m)) → Z 5 listed ⟨#[.agg #[.string sk, .int .i64 n, .int .i64 m, .string sw], .pointer (some ⟨w.heap.size, 0, none⟩), .slice none 0 0, .pointer (some ⟨w.heap.size, 0, none⟩), .string sk, undef, .pointer (some ⟨w.heap.size, 1, none⟩), .int .i64 n, .slice p8 (num n).length c8, .pointer (some ⟨w.heap.size, 2, none⟩), .int .i64 m, .slice p11 (num m).length c11, .pointer (some ⟨w.heap.size, 3, none⟩), .string sw, undef, undef, undef], []⟩ W) ?_ (fun H0110 => ?_)
 ·intro listed hl p8 c8 p11 c11 W hS T8 T11
  subst hl
  refine wpAnyH_ready (rs := [2, 11]) (by kernel_rfl) (by simp) ?_
  refine AllReadyH.cons rfl (fun K hK => ?_) (AllReadyH.cons rfl (fun K hK => ?_) AllReadyH.nil)
  ·go_simp
   have T5 := hide (TX.made hS sk hsk)
   refine hK.out _ _ ?hs29 (fun hS2 => ?_)
   case hs29 => exact conv_next13 hS sk
   try simp only [List.setIfInBounds_toArray, List.set_cons_zero, List.set_cons_succ]
   exact H1110 _ (by kernel_rfl) _ _ p8 c8 p11 c11 _ hS2 T5 (hide (T8.out.below (conv_bel _ _ sk))) (hide (T11.out.below (conv_bel _ _ sk)))
  ·go_simp
   have T14 := hide (TX.made hS sw hsw)
   refine hK.out _ _ ?hs30 (fun hS2 => ?_)
   case hs30 => exact conv_next13 hS sw
   try simp only [List.setIfInBounds_toArray, List.set_cons_zero, List.set_cons_succ]
   exact H0111 _ (by kernel_rfl) p8 c8 p11 c11 _ _ _ hS2 (hide (T8.out.below (conv_bel _ _ sw))) (hide (T11.out.below (conv_bel _ _ sw))) T14
 refine share_intro _ _ _ _ _ _ _ _ _ (fun Z => ∀ listed : Array Bool, listed = #[true, true, false, true, true, true, true, true, false, true, true, true, false, false, false] → ∀ (p8 : Option Addr) (c8 : Nat) (g14 : Nat) (c14 : Nat) (W : World), Below u.heap.size u W → Hid (TX W (.slice p8 (num n).length c8) (num n)) → Hid (TX W (.slice (some ⟨g14, 0, none⟩) sw.size c14) (bytesL sw)) → Z 5 listed ⟨#[.agg #[.string sk, .int .i64 n, .int .i64 m, .string sw], .pointer (some ⟨w.heap.size, 0, none⟩), .slice none 0 0, .pointer (some ⟨w.heap.size, 0, none⟩), .string sk, undef, .pointer (some ⟨w.heap.size, 1, none⟩), .int .i64 n, .slice p8 (num n).length c8, .pointer (some ⟨w.heap.size, 2, none⟩), .int .i64 m, undef, .pointer (some ⟨w.heap.size, 3, none⟩), .string sw, .slice (some ⟨g14, 0, none⟩) sw.size c14, undef, undef], []⟩ W) ?_ (fun H0101 => ?_)
 ·intro listed hl p8 c8 g14 c14 W hS T8 T14
  subst hl
  refine wpAnyH_ready (rs := [2, 8]) (by kernel_rfl) (by simp) ?_
  refine AllReadyH.cons rfl (fun K hK => ?_) (AllReadyH.cons rfl (fun K hK => ?_) AllReadyH.nil)
  ·go_simp
   have T5 := hide (TX.made hS sk hsk)
   refine hK.out _ _ ?hs31 (fun hS2 => ?_)
   case hs31 => exact conv_next13 hS sk
   try simp only [List.setIfInBounds_toArray, List.set_cons_zero, List.set_cons_succ]
   exact H1101 _ (by kernel_rfl) _ _ p8 c8 g14 c14 _ hS2 T5 (hide (T8.out.below (conv_bel _ _ sk))) (hide (T14.out.below (conv_bel _ _ sk)))
  ·go_simp
   refine (number13 m _ hm.1 hm.2).mono ?_
   rintro e w' ⟨v, rfl, hO, hb⟩
   obtain ⟨p11, c11, hv, hB, hC⟩ := hO.open (num_by m)
   subst hv
   have T11 := hide (⟨_, _, _, rfl, hB, hC⟩ : TX w' (.slice p11 (num m).length c11) (num m))
   clear hO hB hC
   try go_wp2_with fail
   refine hK.out _ _ ?hs32 (fun hS2 => ?_)
   case hs32 => exact bel_next hS hb
   try simp only [List.setIfInBounds_toArray, List.set_cons_zero, List.set_cons_succ]
   exact H0111 _ (by kernel_rfl) p8 c8 p11 c11 g14 c14 _ hS2 (hide (T8.out.below hb)) T11 (hide (T14.out.below hb))
 refine share_intro _ _ _ _ _ _ _ _ _ (fun Z => ∀ listed : Array Bool, listed = #[true, true, true, true, true, false, true, true, false, true, true, false, false, false, false] → ∀ (g5 : Nat) (c5 : Nat) (W : World), Below u.heap.size u W → Hid (TX W (.slice (some ⟨g5, 0, none⟩) sk.size c5) (bytesL sk)) → Z 6 listed ⟨#[.agg #[.string sk, .int .i64 n, .int .i64 m, .string sw], .pointer (some ⟨w.heap.size, 0, none⟩), .slice none 0 0, .pointer (some ⟨w.heap.size, 0, none⟩), .string sk, .slice (some ⟨g5, 0, none⟩) sk.size c5, .pointer (some ⟨w.heap.size, 1, none⟩), .int .i64 n, undef, .pointer (some ⟨w.heap.size, 2, none⟩), .int .i64 m, undef, .pointer (some ⟨w.heap.size, 3, none⟩), .string sw, undef, undef, undef], []⟩ W) ?_ (fun H1000 => ?_)
 ·intro listed hl g5 c5 W hS T5
  subst hl
  refine wpAnyH_ready (rs := [5, 11]) (by kernel_rfl) (by simp) ?_
  refine AllReadyH.cons rfl (fun K hK => ?_) (AllReadyH.cons rfl (fun K hK => ?_) AllReadyH.nil)
  ·go_simp
   refine (number13 n _ hn.1 hn.2).mono ?_
   rintro e w' ⟨v, rfl, hO, hb⟩
   obtain ⟨p8, c8, hv, hB, hC⟩ := hO.open (num_by n)
   subst hv
   have T8 := hide (⟨_, _, _, rfl, hB, hC⟩ : TX w' (.slice p8 (num n).length c8) (num n))
   clear hO hB hC
   try go_wp2_with fail
   refine hK.out _ _ ?hs33 (fun hS2 => ?_)
   case hs33 => exact bel_next hS hb
   try simp only [List.setIfInBounds_toArray, List.set_cons_zero, List.set_cons_succ]
   exact H1100 _ (by kernel_rfl) g5 c5 p8 c8 _ hS2 (hide (T5.out.below hb)) T8
  ·go_simp
   have T14 := hide (TX.made hS sw hsw)
   refine hK.out _ _ ?hs34 (fun hS2 => ?_)
   case hs34 => exact conv_next13 hS sw
   try simp only [List.setIfInBounds_toArray, List.set_cons_zero, List.set_cons_succ]
   exact H1001 _ (by kernel_rfl) g5 c5 _ _ _ hS2 (hide (T5.out.below (conv_bel _ _ sw))) T14
 refine share_intro _ _ _ _ _ _ _ _ _ (fun Z => ∀ listed : Array Bool, listed = #[true, true, false, true, true, true, true, true, false, true, true, false, false, false, false] → ∀ (p8 : Option Addr) (c8 : Nat) (W : World), Below u.heap.size u W → Hid (TX W (.slice p8 (num n).length c8) (num n)) → Z 6 listed ⟨#[.agg #[.string sk, .int .i64 n, .int .i64 m, .string sw], .pointer (some ⟨w.heap.size, 0, none⟩), .slice none 0 0, .pointer (some ⟨w.heap.size, 0, none⟩), .string sk, undef, .pointer (some ⟨w.heap.size, 1, none⟩), .int .i64 n, .slice p8 (num n).length c8, .pointer (some ⟨w.heap.size, 2, none⟩), .int .i64 m, undef, .pointer (some ⟨w.heap.size, 3, none⟩), .string sw, undef, undef, undef], []⟩ W) ?_ (fun H0100 => ?_)
 ·intro listed hl p8 c8 W hS T8
  subst hl
  refine wpAnyH_ready (rs := [2, 8, 11]) (by kernel_rfl) (by simp) ?_
  refine AllReadyH.cons rfl (fun K hK => ?_) (AllReadyH.cons rfl (fun K hK => ?_) (AllReadyH.cons rfl (fun K hK => ?_) AllReadyH.nil))
  ·go_simp
   have T5 := hide (TX.made hS sk hsk)
   refine hK.out _ _ ?hs35 (fun hS2 => ?_)
   case hs35 => exact conv_next13 hS sk
   try simp only [List.setIfInBounds_toArray, List.set_cons_zero, List.set_cons_succ]
   exact H1100 _ (by kernel_rfl) _ _ p8 c8 _ hS2 T5 (hide (T8.out.below (conv_bel _ _ sk)))
  ·go_simp
   refine (number13 m _ hm.1 hm.2).mono ?_
   rintro e w' ⟨v, rfl, hO, hb⟩
   obtain ⟨p11, c11, hv, hB, hC⟩ := hO.open (num_by m)
   subst hv
   have T11 := hide (⟨_, _, _, rfl, hB, hC⟩ : TX w' (.slice p11 (num m).length c11) (num m))
   clear hO hB hC
   try go_wp2_with fail
   refine hK.out _ _ ?hs36 (fun hS2 => ?_)
   case hs36 => exact bel_next hS hb
   try simp only [List.setIfInBounds_toArray, List.set_cons_zero, List.set_cons_succ]
   exact H0110 _ (by kernel_rfl) p8 c8 p11 c11 _ hS2 (hide (T8.out.below hb)) T11
  ·go_simp
   have T14 := hide (TX.made hS sw hsw)
   refine hK.out _ _ ?hs37 (fun hS2 => ?_)
   case hs37 => exact conv_next13 hS sw
   try simp only [List.setIfInBounds_toArray, List.set_cons_zero, List.set_cons_succ]
   exact H0101 _ (by kernel_rfl) p8 c8 _ _ _ hS2 (hide (T8.out.below (conv_bel _ _ sw))) T14
 refine share_intro _ _ _ _ _ _ _ _ _ (fun Z => ∀ listed : Array Bool, listed = #[true, true, false, true, true, false, true, true, false, true, true, true, false, false, false] → ∀ (g14 : Nat) (c14 : Nat) (W : World), Below u.heap.size u W → Hid (TX W (.slice (some ⟨g14, 0, none⟩) sw.size c14) (bytesL sw)) → Z 6 listed ⟨#[.agg #[.string sk, .int .i64 n, .int .i64 m, .string sw], .pointer (some ⟨w.heap.size, 0, none⟩), .slice none 0 0, .pointer (some ⟨w.heap.size, 0, none⟩), .string sk, undef, .pointer (some ⟨w.heap.size, 1, none⟩), .int .i64 n, undef, .pointer (some ⟨w.heap.size, 2, none⟩), .int .i64 m, undef, .pointer (some ⟨w.heap.size, 3, none⟩), .string sw, .slice (some ⟨g14, 0, none⟩) sw.size c14, undef, undef], []⟩ W) ?_ (fun H0001 => ?_)
 ·intro listed hl g14 c14 W hS T14
  subst hl
  refine wpAnyH_ready (rs := [2, 5]) (by kernel_rfl) (by simp) ?_
  refine AllReadyH.cons rfl (fun K hK => ?_) (AllReadyH.cons rfl (fun K hK => ?_) AllReadyH.nil)
  ·go_simp
   have T5 := hide (TX.made hS sk hsk)
   refine hK.out _ _ ?hs38 (fun hS2 => ?_)
   case hs38 => exact conv_next13 hS sk
   try simp only [List.setIfInBounds_toArray, List.set_cons_zero, List.set_cons_succ]
   exact H1001 _ (by kernel_rfl) _ _ g14 c14 _ hS2 T5 (hide (T14.out.below (conv_bel _ _ sk)))
  ·go_simp
   refine (number13 n _ hn.1 hn.2).mono ?_
   rintro e w' ⟨v, rfl, hO, hb⟩
   obtain ⟨p8, c8, hv, hB, hC⟩ := hO.open (num_by n)
   subst hv
   have T8 := hide (⟨_, _, _, rfl, hB, hC⟩ : TX w' (.slice p8 (num n).length c8) (num n))
   clear hO hB hC
   try go_wp2_with fail
   refine hK.out _ _ ?hs39 (fun hS2 => ?_)
   case hs39 => exact bel_next hS hb
   try simp only [List.setIfInBounds_toArray, List.set_cons_zero, List.set_cons_succ]
   exact H0101 _ (by kernel_rfl) p8 c8 g14 c14 _ hS2 T8 (hide (T14.out.below hb))
 refine share_intro _ _ _ _ _ _ _ _ _ (fun Z => ∀ listed : Array Bool, listed = #[true, true, false, true, true, false, true, true, false, true, true, false, false, false, false] → ∀ (W : World), Below u.heap.size u W → Z 7 listed ⟨#[.agg #[.string sk, .int .i64 n, .int .i64 m, .string sw], .pointer (some ⟨w.heap.size, 0, none⟩), .slice none 0 0, .pointer (some ⟨w.heap.size, 0, none⟩), .string sk, undef, .pointer (some ⟨w.heap.size, 1, none⟩), .int .i64 n, undef, .pointer (some ⟨w.heap.size, 2, none⟩), .int .i64 m, undef, .pointer (some ⟨w.heap.size, 3, none⟩), .string sw, undef, undef, undef], []⟩ W) ?_ (fun H0000 => ?_)
 ·intro listed hl  W hS 
  subst hl
  refine wpAnyH_ready (rs := [2, 5, 11]) (by kernel_rfl) (by simp) ?_
  refine AllReadyH.cons rfl (fun K hK => ?_) (AllReadyH.cons rfl (fun K hK => ?_) (AllReadyH.cons rfl (fun K hK => ?_) AllReadyH.nil))
  ·go_simp
   have T5 := hide (TX.made hS sk hsk)
   refine hK.out _ _ ?hs40 (fun hS2 => ?_)
   case hs40 => exact conv_next13 hS sk
   try simp only [List.setIfInBounds_toArray, List.set_cons_zero, List.set_cons_succ]
   exact H1000 _ (by kernel_rfl) _ _ _ hS2 T5
  ·go_simp
   refine (number13 n _ hn.1 hn.2).mono ?_
   rintro e w' ⟨v, rfl, hO, hb⟩
   obtain ⟨p8, c8, hv, hB, hC⟩ := hO.open (num_by n)
   subst hv
   have T8 := hide (⟨_, _, _, rfl, hB, hC⟩ : TX w' (.slice p8 (num n).length c8) (num n))
   clear hO hB hC
   try go_wp2_with fail
   refine hK.out _ _ ?hs41 (fun hS2 => ?_)
   case hs41 => exact bel_next hS hb
   try simp only [List.setIfInBounds_toArray, List.set_cons_zero, List.set_cons_succ]
   exact H0100 _ (by kernel_rfl) p8 c8 _ hS2 T8
  ·go_simp
   have T14 := hide (TX.made hS sw hsw)
   refine hK.out _ _ ?hs42 (fun hS2 => ?_)
   case hs42 => exact conv_next13 hS sw
   try simp only [List.setIfInBounds_toArray, List.set_cons_zero, List.set_cons_succ]
   exact H0001 _ (by kernel_rfl) _ _ _ hS2 T14
 exact H0000 _ (by kernel_rfl) _ hS0
end Go.Proofs.YtkbbegbpkndebaaGreat

