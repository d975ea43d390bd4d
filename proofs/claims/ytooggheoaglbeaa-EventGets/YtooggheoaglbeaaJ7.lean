/- Texts of this claim, joined: EFun4, EFun5. -/
import Derived.Test.YtooggheoaglbeaaJ4
/- Texts in memory; what 'number' and 'putEffect' do. -/
namespace Go.Proofs.Ytooggheoaglbeaa
open Go.RowKit
set_option linter.unusedVariables false

/-- A slice of bytes, with its room. -/
def TX (w : World) (v : Value) (l : List Int) : Prop := ∃ p n c, v = .slice p n c ∧ BS w p n l ∧ CP p n c
theorem TX.below {w w' : World} {v : Value} {l : List Int} (h : TX w v l) (hb : Below w.heap.size w w') : TX w' v l := by
  obtain ⟨p, n, c, h1, h2, h3⟩ := h
  exact ⟨p, n, c, h1, h2.below hb, h3⟩
theorem TX.alloc {w : World} {v : Value} {l : List Int} (h : TX w v l) (o : Obj) : TX (w.alloc o) v l := h.below (bel1 w o)
theorem TX.by {w : World} {v : Value} {l : List Int} (h : TX w v l) : By l := by
  obtain ⟨p, n, c, _, h2, _⟩ := h
  exact h2.2.2.1
theorem Own.tx {N : Nat} {w : World} {v : Value} {l : List Int} (h : Own N w v l) (hl : By l) : TX w v l := by
  obtain ⟨p, cap, rfl, h1, h2⟩ := h.open hl
  exact ⟨p, _, cap, rfl, h1, h2⟩
theorem PC.newT (w : World) (g : Nat) (hg : g = w.heap.size) (qs : List (Value × List Int)) (C : Array Value) (hC : C = (qs.map (·.1)).toArray) (t : TypeId) (fr : Nat × Nat) (n : Nat) (hn : qs.length = n) (hmax : n ≤ maxLen) (h : ∀ q ∈ qs, TX w q.1 q.2) :
    PC (w.alloc (.cells C t fr)) (some ⟨g, 0, none⟩) n (qs.map (·.2)) := by
  subst hg hC hn
  refine ⟨by simp, hmax, .inr ⟨_, 0, rfl, fun i hi => ?_⟩⟩
  have hq : qs[i]? = some qs[i] := List.getElem?_eq_getElem hi
  obtain ⟨p, m, c, h1, h2, h3⟩ := h qs[i] (List.getElem_mem hi)
  refine ⟨p, m, c, ?_, ?_, h3⟩
  · rw [World.cell?_alloc_mark, Nat.zero_add]
    simp [hq, h1]
  · have e : (qs.map (·.2)).getD i [] = qs[i].2 := by simp [List.getD_eq_getElem?_getD, hq]
    rw [e]
    exact h2.alloc _
theorem share_intro (P : Program) (md : Region.Mode) (ops : Array Oper) (Q : Exit → Act → World → Prop) (S : World → Prop) (f0 : Nat) (l0 : Array Bool) (a0 : Act) (w0 : World) (T : (Nat → Array Bool → Act → World → Prop) → Prop)
    (h1 : T (wpAnyH P md ops Q S)) (h2 : T (wpAnyH P md ops Q S) → wpAnyH P md ops Q S f0 l0 a0 w0) : wpAnyH P md ops Q S f0 l0 a0 w0 := h2 h1
theorem conv_bel (w : World) (e : TypeId) (s : ByteArray) : Below w.heap.size w (Lib.bytesWorld w e s) :=
  ⟨rfl, rfl, rfl, by rw [Lib.bytesWorld_size]; omega, fun k hk => Lib.bytesWorld_at_old w e s k hk⟩
theorem conv_next {u W : World} (h : Below u.heap.size u W) (s : ByteArray) : Below u.heap.size u (Lib.bytesWorld W 5 s) := bel_next h (conv_bel W _ s)
theorem TX.conv {w : World} {v : Value} {l : List Int} (h : TX w v l) (s : ByteArray) : TX (Lib.bytesWorld w 5 s) v l := h.below (conv_bel w _ s)
theorem bytesL_len (s : ByteArray) : (bytesL s).length = s.size := by rw [bytesL, List.length_map]; rfl
theorem TX.made {u W : World} (h : Below u.heap.size u W) (s : ByteArray) (hs : s.size ≤ maxLen) : TX (Lib.bytesWorld W 5 s) (.slice (some ⟨W.heap.size, 0, none⟩) s.size (grownCap W s.size 0 5)) (bytesL s) := by
  refine ⟨_, _, _, rfl, ⟨by rw [bytesL, List.length_map]; rfl, hs, bytesL_by s, .inr ⟨_, 0, rfl, fun i hi => ?_⟩⟩, grownCap_ge _ _ _ _, grownCap_le_maxLen _ _ _ _ hs, fun h => by cases h⟩
  rw [Nat.zero_add, Lib.bytesWorld_cell W _ s i hi]
  have hi2 : i < s.data.toList.length := hi
  simp [bytesL, List.getD_eq_getElem?_getD, List.getElem?_map, List.getElem?_eq_getElem hi2]
theorem conv_run (W : World) (s : ByteArray) : (convert 9 37 (.string s)).run Try.prog W = .ok (.slice (some ⟨W.heap.size, 0, none⟩) s.size (grownCap W s.size 0 5)) (Lib.bytesWorld W 5 s) :=
  Lib.run_convert_string_bytes W 9 37 5 s Try.underlying9 Try.underlying37 Try.underlying5

set_option maxHeartbeats 400000 in
theorem number_any (x : Int) (w : World) (h0 : 0 ≤ x) (h1 : x ≤ 1048576) :
    Calls Try.prog 32 #[.int .i64 x] w fun e w' => ∃ v, e = .returned v ∧ Own w.heap.size w' v (num x) ∧ Below w.heap.size w w' := by
  have HN := hide (num_any x w h0 (by omega))
  go_enter Try.func32, Try.ntmps32
  go_wp2_with (go_at_call 60; refine HN.out.mono ?_; rintro e w' ⟨v, rfl, hO, hb⟩; have HO := hide hO; have HB := hide hb; clear hO hb)
  go_ret
  exact ⟨_, rfl, HO.out, HB.out⟩

theorem putF_long {k o n t : Int} {a b : List Int} (ha : a.length ≤ 65536) (hb : b.length ≤ 65536) : ∀ p ∈ [num k, num o, num n, num t, a, b], p.length ≤ 100000 := by
  have hn : ∀ y, (num y).length ≤ 100000 := fun y => by rw [num_len]; have := nb_le y; omega
  simp only [List.mem_cons, List.not_mem_nil, or_false]
  rintro p (rfl | rfl | rfl | rfl | rfl | rfl)
  · exact hn _
  · exact hn _
  · exact hn _
  · exact hn _
  · omega
  · omega
set_option maxHeartbeats 8000000 in
theorem putEffect_raw (k o n t : Int) (sk sw : ByteArray) (w : World) (hk0 : 0 ≤ k) (hk1 : k ≤ 1048576) (ho0 : 0 ≤ o) (ho1 : o ≤ 1048576) (hn0 : 0 ≤ n) (hn1 : n ≤ 1048576) (ht0 : 0 ≤ t) (ht1 : t ≤ 1048576) (h1 : sk.size ≤ 65536) (h2 : sw.size ≤ 65536) :
    Calls Try.prog 34 #[.agg #[.int .i64 k, .int .i64 o, .string sk, .int .i64 n, .int .i64 t, .string sw]] w fun e w' => ∃ v, e = .returned v ∧ Own w.heap.size w' v (pack [num k, num o, num n, num t, bytesL sk, bytesL sw]) ∧ Below w.heap.size w w' := by
  have hsk : sk.size ≤ maxLen := by unfold maxLen; omega
  have hsw : sw.size ≤ maxLen := by unfold maxLen; omega
  have HL := hide (putF_long (k := k) (o := o) (n := n) (t := t) (a := bytesL sk) (b := bytesL sw) (by rw [bytesL_len]; exact h1) (by rw [bytesL_len]; exact h2))
  have HU := hide (bel1 w (bxF k o n t sk sw))
  have hc1 : ∀ W, _ := fun W => conv_run W sk
  have hc2 : ∀ W, _ := fun W => conv_run W sw
  have c0 : (w.alloc (bxF k o n t sk sw)).cell? ⟨w.heap.size, 0, none⟩ = some (.int .i64 k) := cell_new w _ _ _ rfl 0 _ rfl
  have c1 : (w.alloc (bxF k o n t sk sw)).cell? ⟨w.heap.size, 1, none⟩ = some (.int .i64 o) := cell_new w _ _ _ rfl 1 _ rfl
  have c2 : (w.alloc (bxF k o n t sk sw)).cell? ⟨w.heap.size, 2, none⟩ = some (.string sk) := cell_new w _ _ _ rfl 2 _ rfl
  have c3 : (w.alloc (bxF k o n t sk sw)).cell? ⟨w.heap.size, 3, none⟩ = some (.int .i64 n) := cell_new w _ _ _ rfl 3 _ rfl
  have c4 : (w.alloc (bxF k o n t sk sw)).cell? ⟨w.heap.size, 4, none⟩ = some (.int .i64 t) := cell_new w _ _ _ rfl 4 _ rfl
  have c5 : (w.alloc (bxF k o n t sk sw)).cell? ⟨w.heap.size, 5, none⟩ = some (.string sw) := cell_new w _ _ _ rfl 5 _ rfl
  go_enter Try.func34, Try.ntmps34
  go_wp2
  generalize hu : w.alloc (bxF k o n t sk sw) = u at *
  clear hu
  refine wp_region_held_drew (S := fun W => Below u.heap.size u W) (by kernel_rfl) ((Below.refl _ u).drew) (fun hS0 => ?_)
  refine takeInH 0 3 ?v1 rfl rfl (by kernel_rfl) (by kernel_rfl) (by kernel_rfl) (fun _ _ _ h => h) (by kernel_rfl) hS0 ?hy1 ?_
  case hy1 => (intro W hW; clear hW; go_simp; try rfl)
  simp only [Act.put, List.setIfInBounds_toArray, List.set_cons_zero, List.set_cons_succ]
  refine takeInH 1 4 ?v2 rfl rfl (by kernel_rfl) (by kernel_rfl) (by kernel_rfl) (fun _ _ _ h => h) (by kernel_rfl) hS0 ?hy2 ?_
  case hy2 => (intro W hW; have e0 := bcell hW c0; have e1 := bcell hW c1; have e2 := bcell hW c2; have e3 := bcell hW c3; have e4 := bcell hW c4; have e5 := bcell hW c5; clear hW; go_simp; try rfl)
  simp only [Act.put, List.setIfInBounds_toArray, List.set_cons_zero, List.set_cons_succ]
  refine takeInH 3 6 ?v3 rfl rfl (by kernel_rfl) (by kernel_rfl) (by kernel_rfl) (fun _ _ _ h => h) (by kernel_rfl) hS0 ?hy3 ?_
  case hy3 => (intro W hW; clear hW; go_simp; try rfl)
  simp only [Act.put, List.setIfInBounds_toArray, List.set_cons_zero, List.set_cons_succ]
  refine takeInH 4 7 ?v4 rfl rfl (by kernel_rfl) (by kernel_rfl) (by kernel_rfl) (fun _ _ _ h => h) (by kernel_rfl) hS0 ?hy4 ?_
  case hy4 => (intro W hW; have e0 := bcell hW c0; have e1 := bcell hW c1; have e2 := bcell hW c2; have e3 := bcell hW c3; have e4 := bcell hW c4; have e5 := bcell hW c5; clear hW; go_simp; try rfl)
  simp only [Act.put, List.setIfInBounds_toArray, List.set_cons_zero, List.set_cons_succ]
  refine takeInH 6 9 ?v5 rfl rfl (by kernel_rfl) (by kernel_rfl) (by kernel_rfl) (fun _ _ _ h => h) (by kernel_rfl) hS0 ?hy5 ?_
  case hy5 => (intro W hW; clear hW; go_simp; try rfl)
  simp only [Act.put, List.setIfInBounds_toArray, List.set_cons_zero, List.set_cons_succ]
  refine takeInH 7 10 ?v6 rfl rfl (by kernel_rfl) (by kernel_rfl) (by kernel_rfl) (fun _ _ _ h => h) (by kernel_rfl) hS0 ?hy6 ?_
  case hy6 => (intro W hW; have e0 := bcell hW c0; have e1 := bcell hW c1; have e2 := bcell hW c2; have e3 := bcell hW c3; have e4 := bcell hW c4; have e5 := bcell hW c5; clear hW; go_simp; try rfl)
  simp only [Act.put, List.setIfInBounds_toArray, List.set_cons_zero, List.set_cons_succ]
  refine takeInH 9 12 ?v7 rfl rfl (by kernel_rfl) (by kernel_rfl) (by kernel_rfl) (fun _ _ _ h => h) (by kernel_rfl) hS0 ?hy7 ?_
  case hy7 => (intro W hW; clear hW; go_simp; try rfl)
  simp only [Act.put, List.setIfInBounds_toArray, List.set_cons_zero, List.set_cons_succ]
  refine takeInH 10 13 ?v8 rfl rfl (by kernel_rfl) (by kernel_rfl) (by kernel_rfl) (fun _ _ _ h => h) (by kernel_rfl) hS0 ?hy8 ?_
  case hy8 => (intro W hW; have e0 := bcell hW c0; have e1 := bcell hW c1; have e2 := bcell hW c2; have e3 := bcell hW c3; have e4 := bcell hW c4; have e5 := bcell hW c5; clear hW; go_simp; try rfl)
  simp only [Act.put, List.setIfInBounds_toArray, List.set_cons_zero, List.set_cons_succ]
  refine takeInH 12 15 ?v9 rfl rfl (by kernel_rfl) (by kernel_rfl) (by kernel_rfl) (fun _ _ _ h => h) (by kernel_rfl) hS0 ?hy9 ?_
  case hy9 => (intro W hW; clear hW; go_simp; try rfl)
  simp only [Act.put, List.setIfInBounds_toArray, List.set_cons_zero, List.set_cons_succ]
  refine takeInH 13 16 ?v10 rfl rfl (by kernel_rfl) (by kernel_rfl) (by kernel_rfl) (fun _ _ _ h => h) (by kernel_rfl) hS0 ?hy10 ?_
  case hy10 => (intro W hW; have e0 := bcell hW c0; have e1 := bcell hW c1; have e2 := bcell hW c2; have e3 := bcell hW c3; have e4 := bcell hW c4; have e5 := bcell hW c5; clear hW; go_simp; try rfl)
  simp only [Act.put, List.setIfInBounds_toArray, List.set_cons_zero, List.set_cons_succ]
  refine takeInH 15 18 ?v11 rfl rfl (by kernel_rfl) (by kernel_rfl) (by kernel_rfl) (fun _ _ _ h => h) (by kernel_rfl) hS0 ?hy11 ?_
  case hy11 => (intro W hW; clear hW; go_simp; try rfl)
  simp only [Act.put, List.setIfInBounds_toArray, List.set_cons_zero, List.set_cons_succ]
  refine takeInH 16 19 ?v12 rfl rfl (by kernel_rfl) (by kernel_rfl) (by kernel_rfl) (fun _ _ _ h => h) (by kernel_rfl) hS0 ?hy12 ?_
  case hy12 => (intro W hW; have e0 := bcell hW c0; have e1 := bcell hW c1; have e2 := bcell hW c2; have e3 := bcell hW c3; have e4 := bcell hW c4; have e5 := bcell hW c5; clear hW; go_simp; try rfl)
  simp only [Act.put, List.setIfInBounds_toArray, List.set_cons_zero, List.set_cons_succ]
  clear c0 c1 c2 c3 c4 c5
  refine share_intro _ _ _ _ _ _ _ _ _ (fun Z => ∀ listed : Array Bool, listed = #[true, true, true, true, true, true, true, true, true, true, true, true, true, true, true, true, true, true, false, false, false] → ∀ (p5 : Option Addr) (c5 : Nat) (p8 : Option Addr) (c8 : Nat) (p11 : Option Addr) (c11 : Nat) (p14 : Option Addr) (c14 : Nat) (g17 : Nat) (c17 : Nat) (g20 : Nat) (c20 : Nat) (W : World), Below u.heap.size u W → Hid (TX W (.slice p5 (num k).length c5) (num k)) → Hid (TX W (.slice p8 (num o).length c8) (num o)) → Hid (TX W (.slice p11 (num n).length c11) (num n)) → Hid (TX W (.slice p14 (num t).length c14) (num t)) → Hid (TX W (.slice (some ⟨g17, 0, none⟩) sk.size c17) (bytesL sk)) → Hid (TX W (.slice (some ⟨g20, 0, none⟩) sw.size c20) (bytesL sw)) → Z 3 listed ⟨#[.agg #[.int .i64 k, .int .i64 o, .string sk, .int .i64 n, .int .i64 t, .string sw], .pointer (some ⟨w.heap.size, 0, none⟩), .slice none 0 0, .pointer (some ⟨w.heap.size, 0, none⟩), .int .i64 k, .slice p5 (num k).length c5, .pointer (some ⟨w.heap.size, 1, none⟩), .int .i64 o, .slice p8 (num o).length c8, .pointer (some ⟨w.heap.size, 3, none⟩), .int .i64 n, .slice p11 (num n).length c11, .pointer (some ⟨w.heap.size, 4, none⟩), .int .i64 t, .slice p14 (num t).length c14, .pointer (some ⟨w.heap.size, 2, none⟩), .string sk, .slice (some ⟨g17, 0, none⟩) sk.size c17, .pointer (some ⟨w.heap.size, 5, none⟩), .string sw, .slice (some ⟨g20, 0, none⟩) sw.size c20, undef, undef], []⟩ W) ?_ (fun H111111 => ?_)
  · intro listed hl p5 c5 p8 c8 p11 c11 p14 c14 g17 c17 g20 c20 W hS T5 T8 T11 T14 T17 T20
    subst hl
    have hS0 := hS
    refine wpAnyH_ready (rs := [18]) (by kernel_rfl) (by simp) ?_
    refine AllReadyH.cons rfl (fun K hK => ?_) AllReadyH.nil
    go_simp
    skip
    refine hK.out _ _ ?hs13 (fun hS1 => ?_)
    case hs13 => exact bel_next hS0 (bel1 _ _)
    clear hK K
    try simp only [List.setIfInBounds_toArray, List.set_cons_zero, List.set_cons_succ]
    refine wpAnyH_ready (rs := [19]) (by kernel_rfl) (by simp) ?_
    refine AllReadyH.cons rfl (fun K hK => ?_) AllReadyH.nil
    go_simp
    refine (pack_any _ 6 _ _ _ (PC.newT W _ rfl [(_, num k), (_, num o), (_, num n), (_, num t), (_, bytesL sk), (_, bytesL sw)] _ rfl _ _ 6 rfl (by decide) ?_) (by decide) ?_).mono ?_
    · simp only [List.mem_cons, List.not_mem_nil, or_false]
      rintro q (rfl | rfl | rfl | rfl | rfl | rfl)
      · exact T5.out
      · exact T8.out
      · exact T11.out
      · exact T14.out
      · exact T17.out
      · exact T20.out
    · exact HL.out
    rintro e w' ⟨vr, rfl, hO, hb⟩
    have HO := hide hO
    clear hO
    try go_wp2_with fail
    refine hK.out _ _ ?hs14 (fun hS2 => ?_)
    case hs14 => exact bel_next hS1 hb
    clear hK K
    try simp only [List.setIfInBounds_toArray, List.set_cons_zero, List.set_cons_succ]
    refine takeInH 20 2 ?v15 rfl rfl (by kernel_rfl) (by kernel_rfl) (by kernel_rfl) (fun _ _ _ h => h) (by kernel_rfl) hS2 ?hy15 ?_
    case hy15 => (intro W hW; clear hW; go_simp; try rfl)
    simp only [Act.put, List.setIfInBounds_toArray, List.set_cons_zero, List.set_cons_succ]
    refine wpAnyH_done (by kernel_rfl) ?_ _
    go_wp2
    go_ret
    exact ⟨_, rfl, HO.out.mono (Nat.le_trans HU.out.size (hS1.size)), bel_next HU.out hS2⟩
  refine share_intro _ _ _ _ _ _ _ _ _ (fun Z => ∀ listed : Array Bool, listed = #[true, true, true, true, true, true, true, true, true, true, true, true, true, true, true, true, true, false, false, false, false] → ∀ (p5 : Option Addr) (c5 : Nat) (p8 : Option Addr) (c8 : Nat) (p11 : Option Addr) (c11 : Nat) (p14 : Option Addr) (c14 : Nat) (g17 : Nat) (c17 : Nat) (W : World), Below u.heap.size u W → Hid (TX W (.slice p5 (num k).length c5) (num k)) → Hid (TX W (.slice p8 (num o).length c8) (num o)) → Hid (TX W (.slice p11 (num n).length c11) (num n)) → Hid (TX W (.slice p14 (num t).length c14) (num t)) → Hid (TX W (.slice (some ⟨g17, 0, none⟩) sk.size c17) (bytesL sk)) → Z 4 listed ⟨#[.agg #[.int .i64 k, .int .i64 o, .string sk, .int .i64 n, .int .i64 t, .string sw], .pointer (some ⟨w.heap.size, 0, none⟩), .slice none 0 0, .pointer (some ⟨w.heap.size, 0, none⟩), .int .i64 k, .slice p5 (num k).length c5, .pointer (some ⟨w.heap.size, 1, none⟩), .int .i64 o, .slice p8 (num o).length c8, .pointer (some ⟨w.heap.size, 3, none⟩), .int .i64 n, .slice p11 (num n).length c11, .pointer (some ⟨w.heap.size, 4, none⟩), .int .i64 t, .slice p14 (num t).length c14, .pointer (some ⟨w.heap.size, 2, none⟩), .string sk, .slice (some ⟨g17, 0, none⟩) sk.size c17, .pointer (some ⟨w.heap.size, 5, none⟩), .string sw, undef, undef, undef], []⟩ W) ?_ (fun H111110 => ?_)
  · intro listed hl p5 c5 p8 c8 p11 c11 p14 c14 g17 c17 W hS T5 T8 T11 T14 T17
    subst hl
    refine wpAnyH_ready (rs := [17]) (by kernel_rfl) (by simp) ?_
    refine AllReadyH.cons rfl (fun K hK => ?_) AllReadyH.nil
    go_simp
    have T20 := hide (TX.made hS sw hsw)
    refine hK.out _ _ ?hs16 (fun hS2 => ?_)
    case hs16 => exact conv_next hS sw
    try simp only [List.setIfInBounds_toArray, List.set_cons_zero, List.set_cons_succ]
    exact H111111 _ (by kernel_rfl) p5 c5 p8 c8 p11 c11 p14 c14 g17 c17 _ _ _ hS2 (hide (T5.out.conv sw)) (hide (T8.out.conv sw)) (hide (T11.out.conv sw)) (hide (T14.out.conv sw)) (hide (T17.out.conv sw)) T20
  refine share_intro _ _ _ _ _ _ _ _ _ (fun Z => ∀ listed : Array Bool, listed = #[true, true, true, true, true, true, true, true, true, true, true, true, true, true, false, true, true, true, false, false, false] → ∀ (p5 : Option Addr) (c5 : Nat) (p8 : Option Addr) (c8 : Nat) (p11 : Option Addr) (c11 : Nat) (p14 : Option Addr) (c14 : Nat) (g20 : Nat) (c20 : Nat) (W : World), Below u.heap.size u W → Hid (TX W (.slice p5 (num k).length c5) (num k)) → Hid (TX W (.slice p8 (num o).length c8) (num o)) → Hid (TX W (.slice p11 (num n).length c11) (num n)) → Hid (TX W (.slice p14 (num t).length c14) (num t)) → Hid (TX W (.slice (some ⟨g20, 0, none⟩) sw.size c20) (bytesL sw)) → Z 4 listed ⟨#[.agg #[.int .i64 k, .int .i64 o, .string sk, .int .i64 n, .int .i64 t, .string sw], .pointer (some ⟨w.heap.size, 0, none⟩), .slice none 0 0, .pointer (some ⟨w.heap.size, 0, none⟩), .int .i64 k, .slice p5 (num k).length c5, .pointer (some ⟨w.heap.size, 1, none⟩), .int .i64 o, .slice p8 (num o).length c8, .pointer (some ⟨w.heap.size, 3, none⟩), .int .i64 n, .slice p11 (num n).length c11, .pointer (some ⟨w.heap.size, 4, none⟩), .int .i64 t, .slice p14 (num t).length c14, .pointer (some ⟨w.heap.size, 2, none⟩), .string sk, undef, .pointer (some ⟨w.heap.size, 5, none⟩), .string sw, .slice (some ⟨g20, 0, none⟩) sw.size c20, undef, undef], []⟩ W) ?_ (fun H111101 => ?_)
  · intro listed hl p5 c5 p8 c8 p11 c11 p14 c14 g20 c20 W hS T5 T8 T11 T14 T20
    subst hl
    refine wpAnyH_ready (rs := [14]) (by kernel_rfl) (by simp) ?_
    refine AllReadyH.cons rfl (fun K hK => ?_) AllReadyH.nil
    go_simp
    have T17 := hide (TX.made hS sk hsk)
    refine hK.out _ _ ?hs17 (fun hS2 => ?_)
    case hs17 => exact conv_next hS sk
    try simp only [List.setIfInBounds_toArray, List.set_cons_zero, List.set_cons_succ]
    exact H111111 _ (by kernel_rfl) p5 c5 p8 c8 p11 c11 p14 c14 _ _ g20 c20 _ hS2 (hide (T5.out.conv sk)) (hide (T8.out.conv sk)) (hide (T11.out.conv sk)) (hide (T14.out.conv sk)) T17 (hide (T20.out.conv sk))
  refine share_intro _ _ _ _ _ _ _ _ _ (fun Z => ∀ listed : Array Bool, listed = #[true, true, true, true, true, true, true, true, true, true, true, false, true, true, true, true, true, true, false, false, false] → ∀ (p5 : Option Addr) (c5 : Nat) (p8 : Option Addr) (c8 : Nat) (p11 : Option Addr) (c11 : Nat) (g17 : Nat) (c17 : Nat) (g20 : Nat) (c20 : Nat) (W : World), Below u.heap.size u W → Hid (TX W (.slice p5 (num k).length c5) (num k)) → Hid (TX W (.slice p8 (num o).length c8) (num o)) → Hid (TX W (.slice p11 (num n).length c11) (num n)) → Hid (TX W (.slice (some ⟨g17, 0, none⟩) sk.size c17) (bytesL sk)) → Hid (TX W (.slice (some ⟨g20, 0, none⟩) sw.size c20) (bytesL sw)) → Z 4 listed ⟨#[.agg #[.int .i64 k, .int .i64 o, .string sk, .int .i64 n, .int .i64 t, .string sw], .pointer (some ⟨w.heap.size, 0, none⟩), .slice none 0 0, .pointer (some ⟨w.heap.size, 0, none⟩), .int .i64 k, .slice p5 (num k).length c5, .pointer (some ⟨w.heap.size, 1, none⟩), .int .i64 o, .slice p8 (num o).length c8, .pointer (some ⟨w.heap.size, 3, none⟩), .int .i64 n, .slice p11 (num n).length c11, .pointer (some ⟨w.heap.size, 4, none⟩), .int .i64 t, undef, .pointer (some ⟨w.heap.size, 2, none⟩), .string sk, .slice (some ⟨g17, 0, none⟩) sk.size c17, .pointer (some ⟨w.heap.size, 5, none⟩), .string sw, .slice (some ⟨g20, 0, none⟩) sw.size c20, undef, undef], []⟩ W) ?_ (fun H111011 => ?_)
  · intro listed hl p5 c5 p8 c8 p11 c11 g17 c17 g20 c20 W hS T5 T8 T11 T17 T20
    subst hl
    refine wpAnyH_ready (rs := [11]) (by kernel_rfl) (by simp) ?_
    refine AllReadyH.cons rfl (fun K hK => ?_) AllReadyH.nil
    go_simp
    refine (number_any t _ ht0 ht1).mono ?_
    rintro e w' ⟨v, rfl, hO, hb⟩
    obtain ⟨p14, c14, hv, hB, hC⟩ := hO.open (num_by t)
    subst hv
    have T14 := hide (⟨_, _, _, rfl, hB, hC⟩ : TX w' (.slice p14 (num t).length c14) (num t))
    clear hO hB hC
    try go_wp2_with fail
    refine hK.out _ _ ?hs18 (fun hS2 => ?_)
    case hs18 => exact bel_next hS hb
    try simp only [List.setIfInBounds_toArray, List.set_cons_zero, List.set_cons_succ]
    exact H111111 _ (by kernel_rfl) p5 c5 p8 c8 p11 c11 p14 c14 g17 c17 g20 c20 _ hS2 (hide (T5.out.below hb)) (hide (T8.out.below hb)) (hide (T11.out.below hb)) T14 (hide (T17.out.below hb)) (hide (T20.out.below hb))
  refine share_intro _ _ _ _ _ _ _ _ _ (fun Z => ∀ listed : Array Bool, listed = #[true, true, true, true, true, true, true, true, true, true, true, true, true, true, false, true, true, false, false, false, false] → ∀ (p5 : Option Addr) (c5 : Nat) (p8 : Option Addr) (c8 : Nat) (p11 : Option Addr) (c11 : Nat) (p14 : Option Addr) (c14 : Nat) (W : World), Below u.heap.size u W → Hid (TX W (.slice p5 (num k).length c5) (num k)) → Hid (TX W (.slice p8 (num o).length c8) (num o)) → Hid (TX W (.slice p11 (num n).length c11) (num n)) → Hid (TX W (.slice p14 (num t).length c14) (num t)) → Z 5 listed ⟨#[.agg #[.int .i64 k, .int .i64 o, .string sk, .int .i64 n, .int .i64 t, .string sw], .pointer (some ⟨w.heap.size, 0, none⟩), .slice none 0 0, .pointer (some ⟨w.heap.size, 0, none⟩), .int .i64 k, .slice p5 (num k).length c5, .pointer (some ⟨w.heap.size, 1, none⟩), .int .i64 o, .slice p8 (num o).length c8, .pointer (some ⟨w.heap.size, 3, none⟩), .int .i64 n, .slice p11 (num n).length c11, .pointer (some ⟨w.heap.size, 4, none⟩), .int .i64 t, .slice p14 (num t).length c14, .pointer (some ⟨w.heap.size, 2, none⟩), .string sk, undef, .pointer (some ⟨w.heap.size, 5, none⟩), .string sw, undef, undef, undef], []⟩ W) ?_ (fun H111100 => ?_)
  · intro listed hl p5 c5 p8 c8 p11 c11 p14 c14 W hS T5 T8 T11 T14
    subst hl
    refine wpAnyH_ready (rs := [14, 17]) (by kernel_rfl) (by simp) ?_
    refine AllReadyH.cons rfl (fun K hK => ?_) (AllReadyH.cons rfl (fun K hK => ?_) AllReadyH.nil)
    · go_simp
      have T17 := hide (TX.made hS sk hsk)
      refine hK.out _ _ ?hs19 (fun hS2 => ?_)
      case hs19 => exact conv_next hS sk
      try simp only [List.setIfInBounds_toArray, List.set_cons_zero, List.set_cons_succ]
      exact H111110 _ (by kernel_rfl) p5 c5 p8 c8 p11 c11 p14 c14 _ _ _ hS2 (hide (T5.out.conv sk)) (hide (T8.out.conv sk)) (hide (T11.out.conv sk)) (hide (T14.out.conv sk)) T17
    · go_simp
      have T20 := hide (TX.made hS sw hsw)
      refine hK.out _ _ ?hs20 (fun hS2 => ?_)
      case hs20 => exact conv_next hS sw
      try simp only [List.setIfInBounds_toArray, List.set_cons_zero, List.set_cons_succ]
      exact H111101 _ (by kernel_rfl) p5 c5 p8 c8 p11 c11 p14 c14 _ _ _ hS2 (hide (T5.out.conv sw)) (hide (T8.out.conv sw)) (hide (T11.out.conv sw)) (hide (T14.out.conv sw)) T20
  refine share_intro _ _ _ _ _ _ _ _ _ (fun Z => ∀ listed : Array Bool, listed = #[true, true, true, true, true, true, true, true, true, true, true, false, true, true, true, true, true, false, false, false, false] → ∀ (p5 : Option Addr) (c5 : Nat) (p8 : Option Addr) (c8 : Nat) (p11 : Option Addr) (c11 : Nat) (g17 : Nat) (c17 : Nat) (W : World), Below u.heap.size u W → Hid (TX W (.slice p5 (num k).length c5) (num k)) → Hid (TX W (.slice p8 (num o).length c8) (num o)) → Hid (TX W (.slice p11 (num n).length c11) (num n)) → Hid (TX W (.slice (some ⟨g17, 0, none⟩) sk.size c17) (bytesL sk)) → Z 5 listed ⟨#[.agg #[.int .i64 k, .int .i64 o, .string sk, .int .i64 n, .int .i64 t, .string sw], .pointer (some ⟨w.heap.size, 0, none⟩), .slice none 0 0, .pointer (some ⟨w.heap.size, 0, none⟩), .int .i64 k, .slice p5 (num k).length c5, .pointer (some ⟨w.heap.size, 1, none⟩), .int .i64 o, .slice p8 (num o).length c8, .pointer (some ⟨w.heap.size, 3, none⟩), .int .i64 n, .slice p11 (num n).length c11, .pointer (some ⟨w.heap.size, 4, none⟩), .int .i64 t, undef, .pointer (some ⟨w.heap.size, 2, none⟩), .string sk, .slice (some ⟨g17, 0, none⟩) sk.size c17, .pointer (some ⟨w.heap.size, 5, none⟩), .string sw, undef, undef, undef], []⟩ W) ?_ (fun H111010 => ?_)
  · intro listed hl p5 c5 p8 c8 p11 c11 g17 c17 W hS T5 T8 T11 T17
    subst hl
    refine wpAnyH_ready (rs := [11, 17]) (by kernel_rfl) (by simp) ?_
    refine AllReadyH.cons rfl (fun K hK => ?_) (AllReadyH.cons rfl (fun K hK => ?_) AllReadyH.nil)
    · go_simp
      refine (number_any t _ ht0 ht1).mono ?_
      rintro e w' ⟨v, rfl, hO, hb⟩
      obtain ⟨p14, c14, hv, hB, hC⟩ := hO.open (num_by t)
      subst hv
      have T14 := hide (⟨_, _, _, rfl, hB, hC⟩ : TX w' (.slice p14 (num t).length c14) (num t))
      clear hO hB hC
      try go_wp2_with fail
      refine hK.out _ _ ?hs21 (fun hS2 => ?_)
      case hs21 => exact bel_next hS hb
      try simp only [List.setIfInBounds_toArray, List.set_cons_zero, List.set_cons_succ]
      exact H111110 _ (by kernel_rfl) p5 c5 p8 c8 p11 c11 p14 c14 g17 c17 _ hS2 (hide (T5.out.below hb)) (hide (T8.out.below hb)) (hide (T11.out.below hb)) T14 (hide (T17.out.below hb))
    · go_simp
      have T20 := hide (TX.made hS sw hsw)
      refine hK.out _ _ ?hs22 (fun hS2 => ?_)
      case hs22 => exact conv_next hS sw
      try simp only [List.setIfInBounds_toArray, List.set_cons_zero, List.set_cons_succ]
      exact H111011 _ (by kernel_rfl) p5 c5 p8 c8 p11 c11 g17 c17 _ _ _ hS2 (hide (T5.out.conv sw)) (hide (T8.out.conv sw)) (hide (T11.out.conv sw)) (hide (T17.out.conv sw)) T20
  refine share_intro _ _ _ _ _ _ _ _ _ (fun Z => ∀ listed : Array Bool, listed = #[true, true, true, true, true, true, true, true, true, true, true, false, true, true, false, true, true, true, false, false, false] → ∀ (p5 : Option Addr) (c5 : Nat) (p8 : Option Addr) (c8 : Nat) (p11 : Option Addr) (c11 : Nat) (g20 : Nat) (c20 : Nat) (W : World), Below u.heap.size u W → Hid (TX W (.slice p5 (num k).length c5) (num k)) → Hid (TX W (.slice p8 (num o).length c8) (num o)) → Hid (TX W (.slice p11 (num n).length c11) (num n)) → Hid (TX W (.slice (some ⟨g20, 0, none⟩) sw.size c20) (bytesL sw)) → Z 5 listed ⟨#[.agg #[.int .i64 k, .int .i64 o, .string sk, .int .i64 n, .int .i64 t, .string sw], .pointer (some ⟨w.heap.size, 0, none⟩), .slice none 0 0, .pointer (some ⟨w.heap.size, 0, none⟩), .int .i64 k, .slice p5 (num k).length c5, .pointer (some ⟨w.heap.size, 1, none⟩), .int .i64 o, .slice p8 (num o).length c8, .pointer (some ⟨w.heap.size, 3, none⟩), .int .i64 n, .slice p11 (num n).length c11, .pointer (some ⟨w.heap.size, 4, none⟩), .int .i64 t, undef, .pointer (some ⟨w.heap.size, 2, none⟩), .string sk, undef, .pointer (some ⟨w.heap.size, 5, none⟩), .string sw, .slice (some ⟨g20, 0, none⟩) sw.size c20, undef, undef], []⟩ W) ?_ (fun H111001 => ?_)
  · intro listed hl p5 c5 p8 c8 p11 c11 g20 c20 W hS T5 T8 T11 T20
    subst hl
    refine wpAnyH_ready (rs := [11, 14]) (by kernel_rfl) (by simp) ?_
    refine AllReadyH.cons rfl (fun K hK => ?_) (AllReadyH.cons rfl (fun K hK => ?_) AllReadyH.nil)
    · go_simp
      refine (number_any t _ ht0 ht1).mono ?_
      rintro e w' ⟨v, rfl, hO, hb⟩
      obtain ⟨p14, c14, hv, hB, hC⟩ := hO.open (num_by t)
      subst hv
      have T14 := hide (⟨_, _, _, rfl, hB, hC⟩ : TX w' (.slice p14 (num t).length c14) (num t))
      clear hO hB hC
      try go_wp2_with fail
      refine hK.out _ _ ?hs23 (fun hS2 => ?_)
      case hs23 => exact bel_next hS hb
      try simp only [List.setIfInBounds_toArray, List.set_cons_zero, List.set_cons_succ]
      exact H111101 _ (by kernel_rfl) p5 c5 p8 c8 p11 c11 p14 c14 g20 c20 _ hS2 (hide (T5.out.below hb)) (hide (T8.out.below hb)) (hide (T11.out.below hb)) T14 (hide (T20.out.below hb))
    · go_simp
      have T17 := hide (TX.made hS sk hsk)
      refine hK.out _ _ ?hs24 (fun hS2 => ?_)
      case hs24 => exact conv_next hS sk
      try simp only [List.setIfInBounds_toArray, List.set_cons_zero, List.set_cons_succ]
      exact H111011 _ (by kernel_rfl) p5 c5 p8 c8 p11 c11 _ _ g20 c20 _ hS2 (hide (T5.out.conv sk)) (hide (T8.out.conv sk)) (hide (T11.out.conv sk)) T17 (hide (T20.out.conv sk))
  refine share_intro _ _ _ _ _ _ _ _ _ (fun Z => ∀ listed : Array Bool, listed = #[true, true, true, true, true, true, true, true, false, true, true, false, true, true, true, true, true, true, false, false, false] → ∀ (p5 : Option Addr) (c5 : Nat) (p8 : Option Addr) (c8 : Nat) (g17 : Nat) (c17 : Nat) (g20 : Nat) (c20 : Nat) (W : World), Below u.heap.size u W → Hid (TX W (.slice p5 (num k).length c5) (num k)) → Hid (TX W (.slice p8 (num o).length c8) (num o)) → Hid (TX W (.slice (some ⟨g17, 0, none⟩) sk.size c17) (bytesL sk)) → Hid (TX W (.slice (some ⟨g20, 0, none⟩) sw.size c20) (bytesL sw)) → Z 5 listed ⟨#[.agg #[.int .i64 k, .int .i64 o, .string sk, .int .i64 n, .int .i64 t, .string sw], .pointer (some ⟨w.heap.size, 0, none⟩), .slice none 0 0, .pointer (some ⟨w.heap.size, 0, none⟩), .int .i64 k, .slice p5 (num k).length c5, .pointer (some ⟨w.heap.size, 1, none⟩), .int .i64 o, .slice p8 (num o).length c8, .pointer (some ⟨w.heap.size, 3, none⟩), .int .i64 n, undef, .pointer (some ⟨w.heap.size, 4, none⟩), .int .i64 t, undef, .pointer (some ⟨w.heap.size, 2, none⟩), .string sk, .slice (some ⟨g17, 0, none⟩) sk.size c17, .pointer (some ⟨w.heap.size, 5, none⟩), .string sw, .slice (some ⟨g20, 0, none⟩) sw.size c20, undef, undef], []⟩ W) ?_ (fun H110011 => ?_)
  · intro listed hl p5 c5 p8 c8 g17 c17 g20 c20 W hS T5 T8 T17 T20
    subst hl
    refine wpAnyH_ready (rs := [8]) (by kernel_rfl) (by simp) ?_
    refine AllReadyH.cons rfl (fun K hK => ?_) AllReadyH.nil
    go_simp
    refine (number_any n _ hn0 hn1).mono ?_
    rintro e w' ⟨v, rfl, hO, hb⟩
    obtain ⟨p11, c11, hv, hB, hC⟩ := hO.open (num_by n)
    subst hv
    have T11 := hide (⟨_, _, _, rfl, hB, hC⟩ : TX w' (.slice p11 (num n).length c11) (num n))
    clear hO hB hC
    try go_wp2_with fail
    refine hK.out _ _ ?hs25 (fun hS2 => ?_)
    case hs25 => exact bel_next hS hb
    try simp only [List.setIfInBounds_toArray, List.set_cons_zero, List.set_cons_succ]
    exact H111011 _ (by kernel_rfl) p5 c5 p8 c8 p11 c11 g17 c17 g20 c20 _ hS2 (hide (T5.out.below hb)) (hide (T8.out.below hb)) T11 (hide (T17.out.below hb)) (hide (T20.out.below hb))
  refine share_intro _ _ _ _ _ _ _ _ _ (fun Z => ∀ listed : Array Bool, listed = #[true, true, true, true, true, true, true, true, true, true, true, false, true, true, false, true, true, false, false, false, false] → ∀ (p5 : Option Addr) (c5 : Nat) (p8 : Option Addr) (c8 : Nat) (p11 : Option Addr) (c11 : Nat) (W : World), Below u.heap.size u W → Hid (TX W (.slice p5 (num k).length c5) (num k)) → Hid (TX W (.slice p8 (num o).length c8) (num o)) → Hid (TX W (.slice p11 (num n).length c11) (num n)) → Z 6 listed ⟨#[.agg #[.int .i64 k, .int .i64 o, .string sk, .int .i64 n, .int .i64 t, .string sw], .pointer (some ⟨w.heap.size, 0, none⟩), .slice none 0 0, .pointer (some ⟨w.heap.size, 0, none⟩), .int .i64 k, .slice p5 (num k).length c5, .pointer (some ⟨w.heap.size, 1, none⟩), .int .i64 o, .slice p8 (num o).length c8, .pointer (some ⟨w.heap.size, 3, none⟩), .int .i64 n, .slice p11 (num n).length c11, .pointer (some ⟨w.heap.size, 4, none⟩), .int .i64 t, undef, .pointer (some ⟨w.heap.size, 2, none⟩), .string sk, undef, .pointer (some ⟨w.heap.size, 5, none⟩), .string sw, undef, undef, undef], []⟩ W) ?_ (fun H111000 => ?_)
  · intro listed hl p5 c5 p8 c8 p11 c11 W hS T5 T8 T11
    subst hl
    refine wpAnyH_ready (rs := [11, 14, 17]) (by kernel_rfl) (by simp) ?_
    refine AllReadyH.cons rfl (fun K hK => ?_) (AllReadyH.cons rfl (fun K hK => ?_) (AllReadyH.cons rfl (fun K hK => ?_) AllReadyH.nil))
    · go_simp
      refine (number_any t _ ht0 ht1).mono ?_
      rintro e w' ⟨v, rfl, hO, hb⟩
      obtain ⟨p14, c14, hv, hB, hC⟩ := hO.open (num_by t)
      subst hv
      have T14 := hide (⟨_, _, _, rfl, hB, hC⟩ : TX w' (.slice p14 (num t).length c14) (num t))
      clear hO hB hC
      try go_wp2_with fail
      refine hK.out _ _ ?hs26 (fun hS2 => ?_)
      case hs26 => exact bel_next hS hb
      try simp only [List.setIfInBounds_toArray, List.set_cons_zero, List.set_cons_succ]
      exact H111100 _ (by kernel_rfl) p5 c5 p8 c8 p11 c11 p14 c14 _ hS2 (hide (T5.out.below hb)) (hide (T8.out.below hb)) (hide (T11.out.below hb)) T14
    · go_simp
      have T17 := hide (TX.made hS sk hsk)
      refine hK.out _ _ ?hs27 (fun hS2 => ?_)
      case hs27 => exact conv_next hS sk
      try simp only [List.setIfInBounds_toArray, List.set_cons_zero, List.set_cons_succ]
      exact H111010 _ (by kernel_rfl) p5 c5 p8 c8 p11 c11 _ _ _ hS2 (hide (T5.out.conv sk)) (hide (T8.out.conv sk)) (hide (T11.out.conv sk)) T17
    · go_simp
      have T20 := hide (TX.made hS sw hsw)
      refine hK.out _ _ ?hs28 (fun hS2 => ?_)
      case hs28 => exact conv_next hS sw
      try simp only [List.setIfInBounds_toArray, List.set_cons_zero, List.set_cons_succ]
      exact H111001 _ (by kernel_rfl) p5 c5 p8 c8 p11 c11 _ _ _ hS2 (hide (T5.out.conv sw)) (hide (T8.out.conv sw)) (hide (T11.out.conv sw)) T20
  refine share_intro _ _ _ _ _ _ _ _ _ (fun Z => ∀ listed : Array Bool, listed = #[true, true, true, true, true, true, true, true, false, true, true, false, true, true, true, true, true, false, false, false, false] → ∀ (p5 : Option Addr) (c5 : Nat) (p8 : Option Addr) (c8 : Nat) (g17 : Nat) (c17 : Nat) (W : World), Below u.heap.size u W → Hid (TX W (.slice p5 (num k).length c5) (num k)) → Hid (TX W (.slice p8 (num o).length c8) (num o)) → Hid (TX W (.slice (some ⟨g17, 0, none⟩) sk.size c17) (bytesL sk)) → Z 6 listed ⟨#[.agg #[.int .i64 k, .int .i64 o, .string sk, .int .i64 n, .int .i64 t, .string sw], .pointer (some ⟨w.heap.size, 0, none⟩), .slice none 0 0, .pointer (some ⟨w.heap.size, 0, none⟩), .int .i64 k, .slice p5 (num k).length c5, .pointer (some ⟨w.heap.size, 1, none⟩), .int .i64 o, .slice p8 (num o).length c8, .pointer (some ⟨w.heap.size, 3, none⟩), .int .i64 n, undef, .pointer (some ⟨w.heap.size, 4, none⟩), .int .i64 t, undef, .pointer (some ⟨w.heap.size, 2, none⟩), .string sk, .slice (some ⟨g17, 0, none⟩) sk.size c17, .pointer (some ⟨w.heap.size, 5, none⟩), .string sw, undef, undef, undef], []⟩ W) ?_ (fun H110010 => ?_)
  · intro listed hl p5 c5 p8 c8 g17 c17 W hS T5 T8 T17
    subst hl
    refine wpAnyH_ready (rs := [8, 17]) (by kernel_rfl) (by simp) ?_
    refine AllReadyH.cons rfl (fun K hK => ?_) (AllReadyH.cons rfl (fun K hK => ?_) AllReadyH.nil)
    · go_simp
      refine (number_any n _ hn0 hn1).mono ?_
      rintro e w' ⟨v, rfl, hO, hb⟩
      obtain ⟨p11, c11, hv, hB, hC⟩ := hO.open (num_by n)
      subst hv
      have T11 := hide (⟨_, _, _, rfl, hB, hC⟩ : TX w' (.slice p11 (num n).length c11) (num n))
      clear hO hB hC
      try go_wp2_with fail
      refine hK.out _ _ ?hs29 (fun hS2 => ?_)
      case hs29 => exact bel_next hS hb
      try simp only [List.setIfInBounds_toArray, List.set_cons_zero, List.set_cons_succ]
      exact H111010 _ (by kernel_rfl) p5 c5 p8 c8 p11 c11 g17 c17 _ hS2 (hide (T5.out.below hb)) (hide (T8.out.below hb)) T11 (hide (T17.out.below hb))
    · go_simp
      have T20 := hide (TX.made hS sw hsw)
      refine hK.out _ _ ?hs30 (fun hS2 => ?_)
      case hs30 => exact conv_next hS sw
      try simp only [List.setIfInBounds_toArray, List.set_cons_zero, List.set_cons_succ]
      exact H110011 _ (by kernel_rfl) p5 c5 p8 c8 g17 c17 _ _ _ hS2 (hide (T5.out.conv sw)) (hide (T8.out.conv sw)) (hide (T17.out.conv sw)) T20
  refine share_intro _ _ _ _ _ _ _ _ _ (fun Z => ∀ listed : Array Bool, listed = #[true, true, true, true, true, true, true, true, false, true, true, false, true, true, false, true, true, true, false, false, false] → ∀ (p5 : Option Addr) (c5 : Nat) (p8 : Option Addr) (c8 : Nat) (g20 : Nat) (c20 : Nat) (W : World), Below u.heap.size u W → Hid (TX W (.slice p5 (num k).length c5) (num k)) → Hid (TX W (.slice p8 (num o).length c8) (num o)) → Hid (TX W (.slice (some ⟨g20, 0, none⟩) sw.size c20) (bytesL sw)) → Z 6 listed ⟨#[.agg #[.int .i64 k, .int .i64 o, .string sk, .int .i64 n, .int .i64 t, .string sw], .pointer (some ⟨w.heap.size, 0, none⟩), .slice none 0 0, .pointer (some ⟨w.heap.size, 0, none⟩), .int .i64 k, .slice p5 (num k).length c5, .pointer (some ⟨w.heap.size, 1, none⟩), .int .i64 o, .slice p8 (num o).length c8, .pointer (some ⟨w.heap.size, 3, none⟩), .int .i64 n, undef, .pointer (some ⟨w.heap.size, 4, none⟩), .int .i64 t, undef, .pointer (some ⟨w.heap.size, 2, none⟩), .string sk, undef, .pointer (some ⟨w.heap.size, 5, none⟩), .string sw, .slice (some ⟨g20, 0, none⟩) sw.size c20, undef, undef], []⟩ W) ?_ (fun H110001 => ?_)
  · intro listed hl p5 c5 p8 c8 g20 c20 W hS T5 T8 T20
    subst hl
    refine wpAnyH_ready (rs := [8, 14]) (by kernel_rfl) (by simp) ?_
    refine AllReadyH.cons rfl (fun K hK => ?_) (AllReadyH.cons rfl (fun K hK => ?_) AllReadyH.nil)
    · go_simp
      refine (number_any n _ hn0 hn1).mono ?_
      rintro e w' ⟨v, rfl, hO, hb⟩
      obtain ⟨p11, c11, hv, hB, hC⟩ := hO.open (num_by n)
      subst hv
      have T11 := hide (⟨_, _, _, rfl, hB, hC⟩ : TX w' (.slice p11 (num n).length c11) (num n))
      clear hO hB hC
      try go_wp2_with fail
      refine hK.out _ _ ?hs31 (fun hS2 => ?_)
      case hs31 => exact bel_next hS hb
      try simp only [List.setIfInBounds_toArray, List.set_cons_zero, List.set_cons_succ]
      exact H111001 _ (by kernel_rfl) p5 c5 p8 c8 p11 c11 g20 c20 _ hS2 (hide (T5.out.below hb)) (hide (T8.out.below hb)) T11 (hide (T20.out.below hb))
    · go_simp
      have T17 := hide (TX.made hS sk hsk)
      refine hK.out _ _ ?hs32 (fun hS2 => ?_)
      case hs32 => exact conv_next hS sk
      try simp only [List.setIfInBounds_toArray, List.set_cons_zero, List.set_cons_succ]
      exact H110011 _ (by kernel_rfl) p5 c5 p8 c8 _ _ g20 c20 _ hS2 (hide (T5.out.conv sk)) (hide (T8.out.conv sk)) T17 (hide (T20.out.conv sk))
  refine share_intro _ _ _ _ _ _ _ _ _ (fun Z => ∀ listed : Array Bool, listed = #[true, true, true, true, true, false, true, true, false, true, true, false, true, true, true, true, true, true, false, false, false] → ∀ (p5 : Option Addr) (c5 : Nat) (g17 : Nat) (c17 : Nat) (g20 : Nat) (c20 : Nat) (W : World), Below u.heap.size u W → Hid (TX W (.slice p5 (num k).length c5) (num k)) → Hid (TX W (.slice (some ⟨g17, 0, none⟩) sk.size c17) (bytesL sk)) → Hid (TX W (.slice (some ⟨g20, 0, none⟩) sw.size c20) (bytesL sw)) → Z 6 listed ⟨#[.agg #[.int .i64 k, .int .i64 o, .string sk, .int .i64 n, .int .i64 t, .string sw], .pointer (some ⟨w.heap.size, 0, none⟩), .slice none 0 0, .pointer (some ⟨w.heap.size, 0, none⟩), .int .i64 k, .slice p5 (num k).length c5, .pointer (some ⟨w.heap.size, 1, none⟩), .int .i64 o, undef, .pointer (some ⟨w.heap.size, 3, none⟩), .int .i64 n, undef, .pointer (some ⟨w.heap.size, 4, none⟩), .int .i64 t, undef, .pointer (some ⟨w.heap.size, 2, none⟩), .string sk, .slice (some ⟨g17, 0, none⟩) sk.size c17, .pointer (some ⟨w.heap.size, 5, none⟩), .string sw, .slice (some ⟨g20, 0, none⟩) sw.size c20, undef, undef], []⟩ W) ?_ (fun H100011 => ?_)
  · intro listed hl p5 c5 g17 c17 g20 c20 W hS T5 T17 T20
    subst hl
    refine wpAnyH_ready (rs := [5]) (by kernel_rfl) (by simp) ?_
    refine AllReadyH.cons rfl (fun K hK => ?_) AllReadyH.nil
    go_simp
    refine (number_any o _ ho0 ho1).mono ?_
    rintro e w' ⟨v, rfl, hO, hb⟩
    obtain ⟨p8, c8, hv, hB, hC⟩ := hO.open (num_by o)
    subst hv
    have T8 := hide (⟨_, _, _, rfl, hB, hC⟩ : TX w' (.slice p8 (num o).length c8) (num o))
    clear hO hB hC
    try go_wp2_with fail
    refine hK.out _ _ ?hs33 (fun hS2 => ?_)
    case hs33 => exact bel_next hS hb
    try simp only [List.setIfInBounds_toArray, List.set_cons_zero, List.set_cons_succ]
    exact H110011 _ (by kernel_rfl) p5 c5 p8 c8 g17 c17 g20 c20 _ hS2 (hide (T5.out.below hb)) T8 (hide (T17.out.below hb)) (hide (T20.out.below hb))
  refine share_intro _ _ _ _ _ _ _ _ _ (fun Z => ∀ listed : Array Bool, listed = #[true, true, true, true, true, true, true, true, false, true, true, false, true, true, false, true, true, false, false, false, false] → ∀ (p5 : Option Addr) (c5 : Nat) (p8 : Option Addr) (c8 : Nat) (W : World), Below u.heap.size u W → Hid (TX W (.slice p5 (num k).length c5) (num k)) → Hid (TX W (.slice p8 (num o).length c8) (num o)) → Z 7 listed ⟨#[.agg #[.int .i64 k, .int .i64 o, .string sk, .int .i64 n, .int .i64 t, .string sw], .pointer (some ⟨w.heap.size, 0, none⟩), .slice none 0 0, .pointer (some ⟨w.heap.size, 0, none⟩), .int .i64 k, .slice p5 (num k).length c5, .pointer (some ⟨w.heap.size, 1, none⟩), .int .i64 o, .slice p8 (num o).length c8, .pointer (some ⟨w.heap.size, 3, none⟩), .int .i64 n, undef, .pointer (some ⟨w.heap.size, 4, none⟩), .int .i64 t, undef, .pointer (some ⟨w.heap.size, 2, none⟩), .string sk, undef, .pointer (some ⟨w.heap.size, 5, none⟩), .string sw, undef, undef, undef], []⟩ W) ?_ (fun H110000 => ?_)
  · intro listed hl p5 c5 p8 c8 W hS T5 T8
    subst hl
    refine wpAnyH_ready (rs := [8, 14, 17]) (by kernel_rfl) (by simp) ?_
    refine AllReadyH.cons rfl (fun K hK => ?_) (AllReadyH.cons rfl (fun K hK => ?_) (AllReadyH.cons rfl (fun K hK => ?_) AllReadyH.nil))
    · go_simp
      refine (number_any n _ hn0 hn1).mono ?_
      rintro e w' ⟨v, rfl, hO, hb⟩
      obtain ⟨p11, c11, hv, hB, hC⟩ := hO.open (num_by n)
      subst hv
      have T11 := hide (⟨_, _, _, rfl, hB, hC⟩ : TX w' (.slice p11 (num n).length c11) (num n))
      clear hO hB hC
      try go_wp2_with fail
      refine hK.out _ _ ?hs34 (fun hS2 => ?_)
      case hs34 => exact bel_next hS hb
      try simp only [List.setIfInBounds_toArray, List.set_cons_zero, List.set_cons_succ]
      exact H111000 _ (by kernel_rfl) p5 c5 p8 c8 p11 c11 _ hS2 (hide (T5.out.below hb)) (hide (T8.out.below hb)) T11
    · go_simp
      have T17 := hide (TX.made hS sk hsk)
      refine hK.out _ _ ?hs35 (fun hS2 => ?_)
      case hs35 => exact conv_next hS sk
      try simp only [List.setIfInBounds_toArray, List.set_cons_zero, List.set_cons_succ]
      exact H110010 _ (by kernel_rfl) p5 c5 p8 c8 _ _ _ hS2 (hide (T5.out.conv sk)) (hide (T8.out.conv sk)) T17
    · go_simp
      have T20 := hide (TX.made hS sw hsw)
      refine hK.out _ _ ?hs36 (fun hS2 => ?_)
      case hs36 => exact conv_next hS sw
      try simp only [List.setIfInBounds_toArray, List.set_cons_zero, List.set_cons_succ]
      exact H110001 _ (by kernel_rfl) p5 c5 p8 c8 _ _ _ hS2 (hide (T5.out.conv sw)) (hide (T8.out.conv sw)) T20
  refine share_intro _ _ _ _ _ _ _ _ _ (fun Z => ∀ listed : Array Bool, listed = #[true, true, true, true, true, false, true, true, false, true, true, false, true, true, true, true, true, false, false, false, false] → ∀ (p5 : Option Addr) (c5 : Nat) (g17 : Nat) (c17 : Nat) (W : World), Below u.heap.size u W → Hid (TX W (.slice p5 (num k).length c5) (num k)) → Hid (TX W (.slice (some ⟨g17, 0, none⟩) sk.size c17) (bytesL sk)) → Z 7 listed ⟨#[.agg #[.int .i64 k, .int .i64 o, .string sk, .int .i64 n, .int .i64 t, .string sw], .pointer (some ⟨w.heap.size, 0, none⟩), .slice none 0 0, .pointer (some ⟨w.heap.size, 0, none⟩), .int .i64 k, .slice p5 (num k).length c5, .pointer (some ⟨w.heap.size, 1, none⟩), .int .i64 o, undef, .pointer (some ⟨w.heap.size, 3, none⟩), .int .i64 n, undef, .pointer (some ⟨w.heap.size, 4, none⟩), .int .i64 t, undef, .pointer (some ⟨w.heap.size, 2, none⟩), .string sk, .slice (some ⟨g17, 0, none⟩) sk.size c17, .pointer (some ⟨w.heap.size, 5, none⟩), .string sw, undef, undef, undef], []⟩ W) ?_ (fun H100010 => ?_)
  · intro listed hl p5 c5 g17 c17 W hS T5 T17
    subst hl
    refine wpAnyH_ready (rs := [5, 17]) (by kernel_rfl) (by simp) ?_
    refine AllReadyH.cons rfl (fun K hK => ?_) (AllReadyH.cons rfl (fun K hK => ?_) AllReadyH.nil)
    · go_simp
      refine (number_any o _ ho0 ho1).mono ?_
      rintro e w' ⟨v, rfl, hO, hb⟩
      obtain ⟨p8, c8, hv, hB, hC⟩ := hO.open (num_by o)
      subst hv
      have T8 := hide (⟨_, _, _, rfl, hB, hC⟩ : TX w' (.slice p8 (num o).length c8) (num o))
      clear hO hB hC
      try go_wp2_with fail
      refine hK.out _ _ ?hs37 (fun hS2 => ?_)
      case hs37 => exact bel_next hS hb
      try simp only [List.setIfInBounds_toArray, List.set_cons_zero, List.set_cons_succ]
      exact H110010 _ (by kernel_rfl) p5 c5 p8 c8 g17 c17 _ hS2 (hide (T5.out.below hb)) T8 (hide (T17.out.below hb))
    · go_simp
      have T20 := hide (TX.made hS sw hsw)
      refine hK.out _ _ ?hs38 (fun hS2 => ?_)
      case hs38 => exact conv_next hS sw
      try simp only [List.setIfInBounds_toArray, List.set_cons_zero, List.set_cons_succ]
      exact H100011 _ (by kernel_rfl) p5 c5 g17 c17 _ _ _ hS2 (hide (T5.out.conv sw)) (hide (T17.out.conv sw)) T20
  refine share_intro _ _ _ _ _ _ _ _ _ (fun Z => ∀ listed : Array Bool, listed = #[true, true, true, true, true, false, true, true, false, true, true, false, true, true, false, true, true, true, false, false, false] → ∀ (p5 : Option Addr) (c5 : Nat) (g20 : Nat) (c20 : Nat) (W : World), Below u.heap.size u W → Hid (TX W (.slice p5 (num k).length c5) (num k)) → Hid (TX W (.slice (some ⟨g20, 0, none⟩) sw.size c20) (bytesL sw)) → Z 7 listed ⟨#[.agg #[.int .i64 k, .int .i64 o, .string sk, .int .i64 n, .int .i64 t, .string sw], .pointer (some ⟨w.heap.size, 0, none⟩), .slice none 0 0, .pointer (some ⟨w.heap.size, 0, none⟩), .int .i64 k, .slice p5 (num k).length c5, .pointer (some ⟨w.heap.size, 1, none⟩), .int .i64 o, undef, .pointer (some ⟨w.heap.size, 3, none⟩), .int .i64 n, undef, .pointer (some ⟨w.heap.size, 4, none⟩), .int .i64 t, undef, .pointer (some ⟨w.heap.size, 2, none⟩), .string sk, undef, .pointer (some ⟨w.heap.size, 5, none⟩), .string sw, .slice (some ⟨g20, 0, none⟩) sw.size c20, undef, undef], []⟩ W) ?_ (fun H100001 => ?_)
  · intro listed hl p5 c5 g20 c20 W hS T5 T20
    subst hl
    refine wpAnyH_ready (rs := [5, 14]) (by kernel_rfl) (by simp) ?_
    refine AllReadyH.cons rfl (fun K hK => ?_) (AllReadyH.cons rfl (fun K hK => ?_) AllReadyH.nil)
    · go_simp
      refine (number_any o _ ho0 ho1).mono ?_
      rintro e w' ⟨v, rfl, hO, hb⟩
      obtain ⟨p8, c8, hv, hB, hC⟩ := hO.open (num_by o)
      subst hv
      have T8 := hide (⟨_, _, _, rfl, hB, hC⟩ : TX w' (.slice p8 (num o).length c8) (num o))
      clear hO hB hC
      try go_wp2_with fail
      refine hK.out _ _ ?hs39 (fun hS2 => ?_)
      case hs39 => exact bel_next hS hb
      try simp only [List.setIfInBounds_toArray, List.set_cons_zero, List.set_cons_succ]
      exact H110001 _ (by kernel_rfl) p5 c5 p8 c8 g20 c20 _ hS2 (hide (T5.out.below hb)) T8 (hide (T20.out.below hb))
    · go_simp
      have T17 := hide (TX.made hS sk hsk)
      refine hK.out _ _ ?hs40 (fun hS2 => ?_)
      case hs40 => exact conv_next hS sk
      try simp only [List.setIfInBounds_toArray, List.set_cons_zero, List.set_cons_succ]
      exact H100011 _ (by kernel_rfl) p5 c5 _ _ g20 c20 _ hS2 (hide (T5.out.conv sk)) T17 (hide (T20.out.conv sk))
  refine share_intro _ _ _ _ _ _ _ _ _ (fun Z => ∀ listed : Array Bool, listed = #[true, true, false, true, true, false, true, true, false, true, true, false, true, true, true, true, true, true, false, false, false] → ∀ (g17 : Nat) (c17 : Nat) (g20 : Nat) (c20 : Nat) (W : World), Below u.heap.size u W → Hid (TX W (.slice (some ⟨g17, 0, none⟩) sk.size c17) (bytesL sk)) → Hid (TX W (.slice (some ⟨g20, 0, none⟩) sw.size c20) (bytesL sw)) → Z 7 listed ⟨#[.agg #[.int .i64 k, .int .i64 o, .string sk, .int .i64 n, .int .i64 t, .string sw], .pointer (some ⟨w.heap.size, 0, none⟩), .slice none 0 0, .pointer (some ⟨w.heap.size, 0, none⟩), .int .i64 k, undef, .pointer (some ⟨w.heap.size, 1, none⟩), .int .i64 o, undef, .pointer (some ⟨w.heap.size, 3, none⟩), .int .i64 n, undef, .pointer (some ⟨w.heap.size, 4, none⟩), .int .i64 t, undef, .pointer (some ⟨w.heap.size, 2, none⟩), .string sk, .slice (some ⟨g17, 0, none⟩) sk.size c17, .pointer (some ⟨w.heap.size, 5, none⟩), .string sw, .slice (some ⟨g20, 0, none⟩) sw.size c20, undef, undef], []⟩ W) ?_ (fun H000011 => ?_)
  · intro listed hl g17 c17 g20 c20 W hS T17 T20
    subst hl
    refine wpAnyH_ready (rs := [2]) (by kernel_rfl) (by simp) ?_
    refine AllReadyH.cons rfl (fun K hK => ?_) AllReadyH.nil
    go_simp
    refine (number_any k _ hk0 hk1).mono ?_
    rintro e w' ⟨v, rfl, hO, hb⟩
    obtain ⟨p5, c5, hv, hB, hC⟩ := hO.open (num_by k)
    subst hv
    have T5 := hide (⟨_, _, _, rfl, hB, hC⟩ : TX w' (.slice p5 (num k).length c5) (num k))
    clear hO hB hC
    try go_wp2_with fail
    refine hK.out _ _ ?hs41 (fun hS2 => ?_)
    case hs41 => exact bel_next hS hb
    try simp only [List.setIfInBounds_toArray, List.set_cons_zero, List.set_cons_succ]
    exact H100011 _ (by kernel_rfl) p5 c5 g17 c17 g20 c20 _ hS2 T5 (hide (T17.out.below hb)) (hide (T20.out.below hb))
  refine share_intro _ _ _ _ _ _ _ _ _ (fun Z => ∀ listed : Array Bool, listed = #[true, true, true, true, true, false, true, true, false, true, true, false, true, true, false, true, true, false, false, false, false] → ∀ (p5 : Option Addr) (c5 : Nat) (W : World), Below u.heap.size u W → Hid (TX W (.slice p5 (num k).length c5) (num k)) → Z 8 listed ⟨#[.agg #[.int .i64 k, .int .i64 o, .string sk, .int .i64 n, .int .i64 t, .string sw], .pointer (some ⟨w.heap.size, 0, none⟩), .slice none 0 0, .pointer (some ⟨w.heap.size, 0, none⟩), .int .i64 k, .slice p5 (num k).length c5, .pointer (some ⟨w.heap.size, 1, none⟩), .int .i64 o, undef, .pointer (some ⟨w.heap.size, 3, none⟩), .int .i64 n, undef, .pointer (some ⟨w.heap.size, 4, none⟩), .int .i64 t, undef, .pointer (some ⟨w.heap.size, 2, none⟩), .string sk, undef, .pointer (some ⟨w.heap.size, 5, none⟩), .string sw, undef, undef, undef], []⟩ W) ?_ (fun H100000 => ?_)
  · intro listed hl p5 c5 W hS T5
    subst hl
    refine wpAnyH_ready (rs := [5, 14, 17]) (by kernel_rfl) (by simp) ?_
    refine AllReadyH.cons rfl (fun K hK => ?_) (AllReadyH.cons rfl (fun K hK => ?_) (AllReadyH.cons rfl (fun K hK => ?_) AllReadyH.nil))
    · go_simp
      refine (number_any o _ ho0 ho1).mono ?_
      rintro e w' ⟨v, rfl, hO, hb⟩
      obtain ⟨p8, c8, hv, hB, hC⟩ := hO.open (num_by o)
      subst hv
      have T8 := hide (⟨_, _, _, rfl, hB, hC⟩ : TX w' (.slice p8 (num o).length c8) (num o))
      clear hO hB hC
      try go_wp2_with fail
      refine hK.out _ _ ?hs42 (fun hS2 => ?_)
      case hs42 => exact bel_next hS hb
      try simp only [List.setIfInBounds_toArray, List.set_cons_zero, List.set_cons_succ]
      exact H110000 _ (by kernel_rfl) p5 c5 p8 c8 _ hS2 (hide (T5.out.below hb)) T8
    · go_simp
      have T17 := hide (TX.made hS sk hsk)
      refine hK.out _ _ ?hs43 (fun hS2 => ?_)
      case hs43 => exact conv_next hS sk
      try simp only [List.setIfInBounds_toArray, List.set_cons_zero, List.set_cons_succ]
      exact H100010 _ (by kernel_rfl) p5 c5 _ _ _ hS2 (hide (T5.out.conv sk)) T17
    · go_simp
      have T20 := hide (TX.made hS sw hsw)
      refine hK.out _ _ ?hs44 (fun hS2 => ?_)
      case hs44 => exact conv_next hS sw
      try simp only [List.setIfInBounds_toArray, List.set_cons_zero, List.set_cons_succ]
      exact H100001 _ (by kernel_rfl) p5 c5 _ _ _ hS2 (hide (T5.out.conv sw)) T20
  refine share_intro _ _ _ _ _ _ _ _ _ (fun Z => ∀ listed : Array Bool, listed = #[true, true, false, true, true, false, true, true, false, true, true, false, true, true, true, true, true, false, false, false, false] → ∀ (g17 : Nat) (c17 : Nat) (W : World), Below u.heap.size u W → Hid (TX W (.slice (some ⟨g17, 0, none⟩) sk.size c17) (bytesL sk)) → Z 8 listed ⟨#[.agg #[.int .i64 k, .int .i64 o, .string sk, .int .i64 n, .int .i64 t, .string sw], .pointer (some ⟨w.heap.size, 0, none⟩), .slice none 0 0, .pointer (some ⟨w.heap.size, 0, none⟩), .int .i64 k, undef, .pointer (some ⟨w.heap.size, 1, none⟩), .int .i64 o, undef, .pointer (some ⟨w.heap.size, 3, none⟩), .int .i64 n, undef, .pointer (some ⟨w.heap.size, 4, none⟩), .int .i64 t, undef, .pointer (some ⟨w.heap.size, 2, none⟩), .string sk, .slice (some ⟨g17, 0, none⟩) sk.size c17, .pointer (some ⟨w.heap.size, 5, none⟩), .string sw, undef, undef, undef], []⟩ W) ?_ (fun H000010 => ?_)
  · intro listed hl g17 c17 W hS T17
    subst hl
    refine wpAnyH_ready (rs := [2, 17]) (by kernel_rfl) (by simp) ?_
    refine AllReadyH.cons rfl (fun K hK => ?_) (AllReadyH.cons rfl (fun K hK => ?_) AllReadyH.nil)
    · go_simp
      refine (number_any k _ hk0 hk1).mono ?_
      rintro e w' ⟨v, rfl, hO, hb⟩
      obtain ⟨p5, c5, hv, hB, hC⟩ := hO.open (num_by k)
      subst hv
      have T5 := hide (⟨_, _, _, rfl, hB, hC⟩ : TX w' (.slice p5 (num k).length c5) (num k))
      clear hO hB hC
      try go_wp2_with fail
      refine hK.out _ _ ?hs45 (fun hS2 => ?_)
      case hs45 => exact bel_next hS hb
      try simp only [List.setIfInBounds_toArray, List.set_cons_zero, List.set_cons_succ]
      exact H100010 _ (by kernel_rfl) p5 c5 g17 c17 _ hS2 T5 (hide (T17.out.below hb))
    · go_simp
      have T20 := hide (TX.made hS sw hsw)
      refine hK.out _ _ ?hs46 (fun hS2 => ?_)
      case hs46 => exact conv_next hS sw
      try simp only [List.setIfInBounds_toArray, List.set_cons_zero, List.set_cons_succ]
      exact H000011 _ (by kernel_rfl) g17 c17 _ _ _ hS2 (hide (T17.out.conv sw)) T20
  refine share_intro _ _ _ _ _ _ _ _ _ (fun Z => ∀ listed : Array Bool, listed = #[true, true, false, true, true, false, true, true, false, true, true, false, true, true, false, true, true, true, false, false, false] → ∀ (g20 : Nat) (c20 : Nat) (W : World), Below u.heap.size u W → Hid (TX W (.slice (some ⟨g20, 0, none⟩) sw.size c20) (bytesL sw)) → Z 8 listed ⟨#[.agg #[.int .i64 k, .int .i64 o, .string sk, .int .i64 n, .int .i64 t, .string sw], .pointer (some ⟨w.heap.size, 0, none⟩), .slice none 0 0, .pointer (some ⟨w.heap.size, 0, none⟩), .int .i64 k, undef, .pointer (some ⟨w.heap.size, 1, none⟩), .int .i64 o, undef, .pointer (some ⟨w.heap.size, 3, none⟩), .int .i64 n, undef, .pointer (some ⟨w.heap.size, 4, none⟩), .int .i64 t, undef, .pointer (some ⟨w.heap.size, 2, none⟩), .string sk, undef, .pointer (some ⟨w.heap.size, 5, none⟩), .string sw, .slice (some ⟨g20, 0, none⟩) sw.size c20, undef, undef], []⟩ W) ?_ (fun H000001 => ?_)
  · intro listed hl g20 c20 W hS T20
    subst hl
    refine wpAnyH_ready (rs := [2, 14]) (by kernel_rfl) (by simp) ?_
    refine AllReadyH.cons rfl (fun K hK => ?_) (AllReadyH.cons rfl (fun K hK => ?_) AllReadyH.nil)
    · go_simp
      refine (number_any k _ hk0 hk1).mono ?_
      rintro e w' ⟨v, rfl, hO, hb⟩
      obtain ⟨p5, c5, hv, hB, hC⟩ := hO.open (num_by k)
      subst hv
      have T5 := hide (⟨_, _, _, rfl, hB, hC⟩ : TX w' (.slice p5 (num k).length c5) (num k))
      clear hO hB hC
      try go_wp2_with fail
      refine hK.out _ _ ?hs47 (fun hS2 => ?_)
      case hs47 => exact bel_next hS hb
      try simp only [List.setIfInBounds_toArray, List.set_cons_zero, List.set_cons_succ]
      exact H100001 _ (by kernel_rfl) p5 c5 g20 c20 _ hS2 T5 (hide (T20.out.below hb))
    · go_simp
      have T17 := hide (TX.made hS sk hsk)
      refine hK.out _ _ ?hs48 (fun hS2 => ?_)
      case hs48 => exact conv_next hS sk
      try simp only [List.setIfInBounds_toArray, List.set_cons_zero, List.set_cons_succ]
      exact H000011 _ (by kernel_rfl) _ _ g20 c20 _ hS2 T17 (hide (T20.out.conv sk))
  refine share_intro _ _ _ _ _ _ _ _ _ (fun Z => ∀ listed : Array Bool, listed = #[true, true, false, true, true, false, true, true, false, true, true, false, true, true, false, true, true, false, false, false, false] → ∀ (W : World), Below u.heap.size u W → Z 9 listed ⟨#[.agg #[.int .i64 k, .int .i64 o, .string sk, .int .i64 n, .int .i64 t, .string sw], .pointer (some ⟨w.heap.size, 0, none⟩), .slice none 0 0, .pointer (some ⟨w.heap.size, 0, none⟩), .int .i64 k, undef, .pointer (some ⟨w.heap.size, 1, none⟩), .int .i64 o, undef, .pointer (some ⟨w.heap.size, 3, none⟩), .int .i64 n, undef, .pointer (some ⟨w.heap.size, 4, none⟩), .int .i64 t, undef, .pointer (some ⟨w.heap.size, 2, none⟩), .string sk, undef, .pointer (some ⟨w.heap.size, 5, none⟩), .string sw, undef, undef, undef], []⟩ W) ?_ (fun H000000 => ?_)
  · intro listed hl  W hS 
    subst hl
    refine wpAnyH_ready (rs := [2, 14, 17]) (by kernel_rfl) (by simp) ?_
    refine AllReadyH.cons rfl (fun K hK => ?_) (AllReadyH.cons rfl (fun K hK => ?_) (AllReadyH.cons rfl (fun K hK => ?_) AllReadyH.nil))
    · go_simp
      refine (number_any k _ hk0 hk1).mono ?_
      rintro e w' ⟨v, rfl, hO, hb⟩
      obtain ⟨p5, c5, hv, hB, hC⟩ := hO.open (num_by k)
      subst hv
      have T5 := hide (⟨_, _, _, rfl, hB, hC⟩ : TX w' (.slice p5 (num k).length c5) (num k))
      clear hO hB hC
      try go_wp2_with fail
      refine hK.out _ _ ?hs49 (fun hS2 => ?_)
      case hs49 => exact bel_next hS hb
      try simp only [List.setIfInBounds_toArray, List.set_cons_zero, List.set_cons_succ]
      exact H100000 _ (by kernel_rfl) p5 c5 _ hS2 T5
    · go_simp
      have T17 := hide (TX.made hS sk hsk)
      refine hK.out _ _ ?hs50 (fun hS2 => ?_)
      case hs50 => exact conv_next hS sk
      try simp only [List.setIfInBounds_toArray, List.set_cons_zero, List.set_cons_succ]
      exact H000010 _ (by kernel_rfl) _ _ _ hS2 T17
    · go_simp
      have T20 := hide (TX.made hS sw hsw)
      refine hK.out _ _ ?hs51 (fun hS2 => ?_)
      case hs51 => exact conv_next hS sw
      try simp only [List.setIfInBounds_toArray, List.set_cons_zero, List.set_cons_succ]
      exact H000001 _ (by kernel_rfl) _ _ _ hS2 T20
  exact H000000 _ (by kernel_rfl) _ hS0

theorem putEffect_any (x : Eff) (hx : mayF x = true) (hB : ByF x) (w : World) :
    Calls Try.prog 34 #[.agg #[.int .i64 x.1, .int .i64 x.2.1, .string (strOfNums x.2.2.1), .int .i64 x.2.2.2.1, .int .i64 x.2.2.2.2.1, .string (strOfNums x.2.2.2.2.2)]] w fun e w' => ∃ v, e = .returned v ∧ Own w.heap.size w' v (putF x) ∧ Below w.heap.size w w' := by
  have hb := mayF_bd hx
  have h := putEffect_raw x.1 x.2.1 x.2.2.2.1 x.2.2.2.2.1 (strOfNums x.2.2.1) (strOfNums x.2.2.2.2.2) w (by omega) (by omega) (by omega) (by omega) (by omega) (by omega) (by omega) (by omega) (by rw [str_size]; omega) (by rw [str_size]; omega)
  rw [bytes_str hB.1, bytes_str hB.2] at h
  exact h
end Go.Proofs.Ytooggheoaglbeaa

/- What 'Put' does. -/
namespace Go.Proofs.Ytooggheoaglbeaa
open Go.RowKit
set_option linter.unusedVariables false

theorem PC.two (w : World) (g : Nat) (hg : g = w.heap.size) (v1 v2 : Value) (l1 l2 : List Int) (t : TypeId) (h1 : TX w v1 l1) (h2 : TX w v2 l2) : PC (w.alloc (.cells #[v1, v2] t)) (some ⟨g, 0, none⟩) 2 [l1, l2] := by
  refine PC.newT w g hg [(v1, l1), (v2, l2)] _ rfl t _ 2 rfl (by decide) ?_
  simp only [List.mem_cons, List.not_mem_nil, or_false]
  rintro q (rfl | rfl)
  · exact h1
  · exact h2
theorem OwnP.two (w : World) (N g : Nat) (hg : g = w.heap.size) (hN : N ≤ w.heap.size) (v1 v2 : Value) (l1 l2 : List Int) (h1 : Own N w v1 l1) (h2 : Own N w v2 l2) (b1 : By l1) (b2 : By l2) :
    OwnP N (w.alloc (.cells #[v1, v2] 37)) (.slice (some ⟨g, 0, none⟩) 2 2) [(v1, l1), (v2, l2)] := by
  subst hg
  refine ⟨⟨rfl, .inr ⟨w.heap.size, 2, #[v1, v2], rfl, hN, heap_alloc_new w _, Nat.le_refl _, by decide, rfl, rfl⟩⟩, ?_⟩
  simp only [List.mem_cons, List.not_mem_nil, or_false]
  rintro q (rfl | rfl)
  · exact ⟨h1.alloc _, b1⟩
  · exact ⟨h2.alloc _, b2⟩
theorem dot_long (r s : Int) : ∀ p ∈ [num r, num s], p.length ≤ 100000 := by
  have hn : ∀ y, (num y).length ≤ 100000 := fun y => by rw [num_len]; have := nb_le y; omega
  simp only [List.mem_cons, List.not_mem_nil, or_false]
  rintro p (rfl | rfl) <;> exact hn _
/-- The texts of an event, as far as its effects are put. -/
def txE (r s : Int) (c : List Int) (l : List Eff) (k : Nat) : List (List Int) := putD2 (r, s) :: putC c :: (l.take k).map putF
theorem txE_step {r s : Int} {c : List Int} {l : List Eff} {k : Nat} {x : Eff} (hx : l[k]? = some x) : txE r s c l (k + 1) = txE r s c l k ++ [putF x] := by
  unfold txE
  rw [List.take_add_one, hx]
  simp
/-- A slice of an event's texts, of the call's own. -/
def OwnT (N : Nat) (w : World) (v : Value) (ts : List (List Int)) : Prop := ∃ qs, OwnP N w v qs ∧ qs.map (·.2) = ts
theorem OwnT.below {N : Nat} {w w' : World} {v : Value} {ts : List (List Int)} (h : OwnT N w v ts) (hb : Below w.heap.size w w') : OwnT N w' v ts := by
  obtain ⟨qs, h1, h2⟩ := h
  exact ⟨qs, h1.below hb, h2⟩
theorem OwnT.alloc {N : Nat} {w : World} {v : Value} {ts : List (List Int)} (h : OwnT N w v ts) (o : Obj) : OwnT N (w.alloc o) v ts := by
  obtain ⟨qs, h1, h2⟩ := h
  exact ⟨qs, h1.alloc o, h2⟩
theorem OwnT.open {N : Nat} {w : World} {v : Value} {ts : List (List Int)} (h : OwnT N w v ts) : ∃ p cap, v = .slice p ts.length cap ∧ PC w p ts.length ts ∧ CP p ts.length cap := by
  obtain ⟨qs, h1, rfl⟩ := h
  obtain ⟨p, cap, rfl, h2, h3⟩ := h1.open
  exact ⟨p, cap, by simp, by simpa using h2, by simpa using h3⟩
theorem append_textT {w : World} {ops : Array Oper} {rest : List Oper} {o : Oper} {a : Act} {Q : Exit → Act → World → Prop} (hgd : o.guard = none) (s x : Operand)
    (ho : o.op = .call { callee := .builtin .append, args := #[s, x], argTypes := #[58, 58] })
    (N : Nat) (v : Value) (ts : List (List Int)) (u : Value) (t : List Int) (g : Nat) (hg : g = w.heap.size) (hs : a.eval s = v) (hown : OwnT N w v ts) (hu : Own N w u t) (ht : By t) (hx : a.eval x = .slice (some ⟨g, 0, none⟩) 1 1)
    (hbig : ts.length ≤ 1000000) (hN : N ≤ w.heap.size)
    (h : ∀ v' w', OwnT N w' v' (ts ++ [t]) → (∀ w0, Below N w0 w → Below N w0 w') → wpList Try.prog ops Q rest (a.put o.dst v') w') : wpList Try.prog ops Q (o :: rest) a (w.alloc (.cells #[u] 37)) := by
  obtain ⟨qs, h1, rfl⟩ := hown
  refine append_text hgd s x ho N v qs u t g hg hs h1 hu ht hx (by simpa using hbig) hN (fun v' w' q1 q2 => h v' w' ⟨_, q1, by simp⟩ q2)

set_option maxHeartbeats 1000000 in
theorem PutE_bad (r s : Int) (pa : Option Addr) (na ca : Nat) (pe : Option Addr) (ne ce : Nat) (c : List Int) (l : List Eff) (w : World) (hN : NS w pa na c) (hE : ES w pe ne l) (hm : mayE ((r, s), c, l) = false) :
    Calls Try.prog 12 #[.agg #[.int .i64 r, .int .i64 s, .slice pa na ca, .slice pe ne ce]] w fun e w' => e = .returned (.tuple #[.slice none 0 0, .int .i64 1]) ∧ Below w.heap.size w w' := by
  have c0 : (w.alloc (bxE r s pa na ca pe ne ce)).cell? ⟨w.heap.size, 0, none⟩ = some (.int .i64 r) := cell_new w _ _ _ rfl 0 _ rfl
  have c1 : (w.alloc (bxE r s pa na ca pe ne ce)).cell? ⟨w.heap.size, 1, none⟩ = some (.int .i64 s) := cell_new w _ _ _ rfl 1 _ rfl
  have c2 : (w.alloc (bxE r s pa na ca pe ne ce)).cell? ⟨w.heap.size, 2, none⟩ = some (.slice pa na ca) := cell_new w _ _ _ rfl 2 _ rfl
  have c3 : (w.alloc (bxE r s pa na ca pe ne ce)).cell? ⟨w.heap.size, 3, none⟩ = some (.slice pe ne ce) := cell_new w _ _ _ rfl 3 _ rfl
  have HU := hide (bel1 w (bxE r s pa na ca pe ne ce))
  have NU := hide (hN.alloc (bxE r s pa na ca pe ne ce))
  have EU := hide (hE.alloc (bxE r s pa na ca pe ne ce))
  have EV := hide hE
  clear hN hE
  have HK := hide (fun W (h1 : NS W pa na c) (h2 : ES W pe ne l) => CheckE_any r s pa na ca pe ne ce c l W h1 h2)
  rw [hm] at HK
  have e1 : errB false = 1 := rfl
  rw [e1] at HK
  clear hm e1
  go_enter Try.func12, Try.ntmps12
  go_wp2_with (go_at_call 16; refine (HK.out _ NU.out EU.out).mono ?_; rintro e w' ⟨rfl, hb⟩)
  go_ret2
  exact ⟨rfl, bel_next HU.out hb⟩

set_option maxHeartbeats 4000000 in
theorem PutE_any (r s : Int) (pa : Option Addr) (na ca : Nat) (pe : Option Addr) (ne ce : Nat) (c : List Int) (l : List Eff) (w : World) (hN : NS w pa na c) (hE : ES w pe ne l) (hm : mayE ((r, s), c, l) = true) :
    Calls Try.prog 12 #[.agg #[.int .i64 r, .int .i64 s, .slice pa na ca, .slice pe ne ce]] w fun e w' => ∃ v, e = .returned (.tuple #[v, .int .i64 0]) ∧ Own w.heap.size w' v (putE ((r, s), c, l)) ∧ Below w.heap.size w w' := by
  have c0 : (w.alloc (bxE r s pa na ca pe ne ce)).cell? ⟨w.heap.size, 0, none⟩ = some (.int .i64 r) := cell_new w _ _ _ rfl 0 _ rfl
  have c1 : (w.alloc (bxE r s pa na ca pe ne ce)).cell? ⟨w.heap.size, 1, none⟩ = some (.int .i64 s) := cell_new w _ _ _ rfl 1 _ rfl
  have c2 : (w.alloc (bxE r s pa na ca pe ne ce)).cell? ⟨w.heap.size, 2, none⟩ = some (.slice pa na ca) := cell_new w _ _ _ rfl 2 _ rfl
  have c3 : (w.alloc (bxE r s pa na ca pe ne ce)).cell? ⟨w.heap.size, 3, none⟩ = some (.slice pe ne ce) := cell_new w _ _ _ rfl 3 _ rfl
  have HU := hide (bel1 w (bxE r s pa na ca pe ne ce))
  have NU := hide (hN.alloc (bxE r s pa na ca pe ne ce))
  have EU := hide (hE.alloc (bxE r s pa na ca pe ne ce))
  have EV := hide hE
  clear hN hE
  have HK := hide (fun W (h1 : NS W pa na c) (h2 : ES W pe ne l) => CheckE_any r s pa na ca pe ne ce c l W h1 h2)
  have HX := hide (mayE_iff.1 hm)
  have HTX : Hid (∀ p ∈ putD2 (r, s) :: putC c :: l.map putF, p.length ≤ 100000) := fun p hp => Nat.le_trans (putE_texts hm p hp) (by decide)
  rw [hm] at HK
  have e1 : errB true = 0 := rfl
  rw [e1] at HK
  clear hm e1
  obtain ⟨d1, d2, d3, d4⟩ := mayD_iff.1 (headB_iff.1 HX.out.1).1
  have hln := hide EU.out.1.1
  have hn16 : ne ≤ 16 := by have h1 := HX.out.2.1; have h2 := hln.out; simp at h1; omega
  have hr0 : 0 ≤ r := by simp at d1; omega
  have hr1 : r ≤ 1048576 := by simp at d2; omega
  have hs0 : 0 ≤ s := by simp at d3; omega
  have hs1 : s ≤ 1048576 := by simp at d4; omega
  have hUx := HU.out.size
  clear d1 d2 d3 d4
  go_enter Try.func12, Try.ntmps12
  go_wp2_with (go_at_call 16; refine (HK.out _ NU.out EU.out).mono ?_; rintro e u ⟨rfl, hb⟩; replace c0 := bcell hb c0; replace c1 := bcell hb c1; replace c2 := bcell hb c2; replace c3 := bcell hb c3; replace HU := hide (bel_next HU.out hb); replace NU := hide (NU.out.below hb); replace EU := hide (EU.out.below hb); replace hUx := HU.out.size; clear hb; refine Stop.at ?_)
  unfold Stop
  go_wp2_with fail
  refine wp_region_held_drew (S := fun W => Below u.heap.size u W) (by kernel_rfl) ((Below.refl _ u).drew) (fun hS0 => ?_)
  refine takeInH 0 10 ?v1 rfl rfl (by kernel_rfl) (by kernel_rfl) (by kernel_rfl) (fun _ _ _ h => h) (by kernel_rfl) hS0 ?hy1 ?_
  case hy1 => (intro W hW; clear hW; go_simp; try rfl)
  simp only [Act.put, List.setIfInBounds_toArray, List.set_cons_zero, List.set_cons_succ]
  refine takeInH 1 11 ?v2 rfl rfl (by kernel_rfl) (by kernel_rfl) (by kernel_rfl) (fun _ _ _ h => h) (by kernel_rfl) hS0 ?hy2 ?_
  case hy2 => (intro W hW; clear hW; go_simp; try rfl)
  simp only [Act.put, List.setIfInBounds_toArray, List.set_cons_zero, List.set_cons_succ]
  refine takeInH 2 12 ?v3 rfl rfl (by kernel_rfl) (by kernel_rfl) (by kernel_rfl) (fun _ _ _ h => h) (by kernel_rfl) hS0 ?hy3 ?_
  case hy3 => (intro W hW; have e0 := bcell hW c0; have e1 := bcell hW c1; have e2 := bcell hW c2; clear hW; go_simp; try rfl)
  simp only [Act.put, List.setIfInBounds_toArray, List.set_cons_zero, List.set_cons_succ]
  refine takeInH 4 14 ?v4 rfl rfl (by kernel_rfl) (by kernel_rfl) (by kernel_rfl) (fun _ _ _ h => h) (by kernel_rfl) hS0 ?hy4 ?_
  case hy4 => (intro W hW; clear hW; go_simp; try rfl)
  simp only [Act.put, List.setIfInBounds_toArray, List.set_cons_zero, List.set_cons_succ]
  refine takeInH 5 15 ?v5 rfl rfl (by kernel_rfl) (by kernel_rfl) (by kernel_rfl) (fun _ _ _ h => h) (by kernel_rfl) hS0 ?hy5 ?_
  case hy5 => (intro W hW; clear hW; go_simp; try rfl)
  simp only [Act.put, List.setIfInBounds_toArray, List.set_cons_zero, List.set_cons_succ]
  refine takeInH 6 16 ?v6 rfl rfl (by kernel_rfl) (by kernel_rfl) (by kernel_rfl) (fun _ _ _ h => h) (by kernel_rfl) hS0 ?hy6 ?_
  case hy6 => (intro W hW; have e0 := bcell hW c0; have e1 := bcell hW c1; have e2 := bcell hW c2; clear hW; go_simp; try rfl)
  simp only [Act.put, List.setIfInBounds_toArray, List.set_cons_zero, List.set_cons_succ]
  refine takeInH 10 20 ?v7 rfl rfl (by kernel_rfl) (by kernel_rfl) (by kernel_rfl) (fun _ _ _ h => h) (by kernel_rfl) hS0 ?hy7 ?_
  case hy7 => (intro W hW; clear hW; go_simp; try rfl)
  simp only [Act.put, List.setIfInBounds_toArray, List.set_cons_zero, List.set_cons_succ]
  refine takeInH 11 21 ?v8 rfl rfl (by kernel_rfl) (by kernel_rfl) (by kernel_rfl) (fun _ _ _ h => h) (by kernel_rfl) hS0 ?hy8 ?_
  case hy8 => (intro W hW; have e0 := bcell hW c0; have e1 := bcell hW c1; have e2 := bcell hW c2; clear hW; go_simp; try rfl)
  simp only [Act.put, List.setIfInBounds_toArray, List.set_cons_zero, List.set_cons_succ]
  refine wpAnyH_ready (rs := [3]) (by kernel_rfl) (by simp) ?_
  refine AllReadyH.cons rfl (fun K hK => ?_) AllReadyH.nil
  go_simp
  refine (number_any r _ hr0 hr1).mono ?_
  rintro e w' ⟨v, rfl, hO, hb⟩
  obtain ⟨p13, q13, hv, hB, hC⟩ := hO.open (num_by r)
  subst hv
  have T13 : Hid (TX w' (.slice p13 (num r).length q13) (num r)) := hide ⟨_, _, _, rfl, hB, hC⟩
  clear hO hB hC
  try go_wp2_with fail
  refine hK.out _ _ ?hs9 (fun hS1 => ?_)
  case hs9 => exact bel_next hS0 hb
  clear hK K
  try simp only [Act.put, List.setIfInBounds_toArray, List.set_cons_zero, List.set_cons_succ]
  refine wpAnyH_ready (rs := [7]) (by kernel_rfl) (by simp) ?_
  refine AllReadyH.cons rfl (fun K hK => ?_) AllReadyH.nil
  go_simp
  refine (number_any s _ hs0 hs1).mono ?_
  rintro e w' ⟨v, rfl, hO, hb⟩
  obtain ⟨p17, q17, hv, hB, hC⟩ := hO.open (num_by s)
  subst hv
  have T17 : Hid (TX w' (.slice p17 (num s).length q17) (num s)) := hide ⟨_, _, _, rfl, hB, hC⟩
  clear hO hB hC
  replace T13 := hide (T13.out.below hb)
  try go_wp2_with fail
  refine hK.out _ _ ?hs10 (fun hS2 => ?_)
  case hs10 => exact bel_next hS1 hb
  clear hK K
  try simp only [Act.put, List.setIfInBounds_toArray, List.set_cons_zero, List.set_cons_succ]
  refine wpAnyH_ready (rs := [8]) (by kernel_rfl) (by simp) ?_
  refine AllReadyH.cons rfl (fun K hK => ?_) AllReadyH.nil
  go_simp
  skip
  refine hK.out _ _ ?hs11 (fun hS3 => ?_)
  case hs11 => exact bel_next hS2 (bel1 _ _)
  clear hK K
  try simp only [Act.put, List.setIfInBounds_toArray, List.set_cons_zero, List.set_cons_succ]
  refine wpAnyH_ready (rs := [9]) (by kernel_rfl) (by simp) ?_
  refine AllReadyH.cons rfl (fun K hK => ?_) AllReadyH.nil
  go_simp
  refine (pack_any _ 2 _ _ _ (PC.two w' _ rfl _ _ _ _ _ T13.out T17.out) (by decide) (dot_long r s)).mono ?_
  rintro e w2 ⟨v, rfl, hO, hb⟩
  have O19 := hide (hO.mono (Nat.le_trans hUx (Nat.le_trans hS3.size (Nat.le_refl _))))
  obtain ⟨p19, q19, hv, hB, hC⟩ := hO.open (pack_by (by simp only [List.mem_cons, List.not_mem_nil, or_false]; rintro t (rfl | rfl) <;> exact num_by _))
  subst hv
  clear hO hB hC T13 T17
  try go_wp2_with fail
  refine hK.out _ _ ?hs12 (fun hS4 => ?_)
  case hs12 => exact bel_next hS3 hb
  clear hK K
  try simp only [Act.put, List.setIfInBounds_toArray, List.set_cons_zero, List.set_cons_succ]
  refine wpAnyH_ready (rs := [12]) (by kernel_rfl) (by simp) ?_
  refine AllReadyH.cons rfl (fun K hK => ?_) AllReadyH.nil
  go_simp
  refine (Put_any pa na ca c _ (NU.out.below hS4)).mono ?_
  rintro e w3 ⟨v, rfl, hO, hb⟩
  replace O19 := hide (O19.out.below hb)
  have O22 := hide (hO.mono (Nat.le_trans hUx hS4.size))
  obtain ⟨p22, q22, hv, hB, hC⟩ := hO.open (putC_by c)
  subst hv
  clear hO hB hC
  try go_wp2_with fail
  refine hK.out _ _ ?hs13 (fun hS5 => ?_)
  case hs13 => exact bel_next hS4 hb
  clear hK K
  try simp only [Act.put, List.setIfInBounds_toArray, List.set_cons_zero, List.set_cons_succ]
  refine wpAnyH_ready (rs := [13]) (by kernel_rfl) (by simp) ?_
  refine AllReadyH.cons rfl (fun K hK => ?_) AllReadyH.nil
  go_simp
  skip
  refine hK.out _ _ ?hs14 (fun hS6 => ?_)
  case hs14 => exact bel_next hS5 (bel1 _ _)
  clear hK K
  try simp only [Act.put, List.setIfInBounds_toArray, List.set_cons_zero, List.set_cons_succ]
  refine takeInH 14 4 ?v15 rfl rfl (by kernel_rfl) (by kernel_rfl) (by kernel_rfl) (fun _ _ _ h => h) (by kernel_rfl) hS6 ?hy15 ?_
  case hy15 => (intro W hW; clear hW; go_simp; try rfl)
  simp only [Act.put, List.setIfInBounds_toArray, List.set_cons_zero, List.set_cons_succ]
  refine wpAnyH_done (by kernel_rfl) ?_ _
  have OT : Hid (OwnT w.heap.size _ _ (txE r s c l 0)) := hide ⟨_, OwnP.two w3 w.heap.size _ rfl (Nat.le_trans hUx hS5.size) _ _ _ _ O19.out O22.out (putD2_by (r, s)) (putC_by c), rfl⟩
  have c3 := bcell hS6 c3
  have HV := hide (bel_next HU.out hS6)
  have hsz := Nat.le_trans hUx hS6.size
  clear O19 O22 c0 c1 c2 HU NU EU hUx
  clear hS0 hS1 hS2 hS3 hS4 hS5 hS6
  generalize Value.slice (some ⟨w3.heap.size, 0, none⟩) 2 2 = vt at *
  generalize hW : w3.alloc _ = W at *
  clear hW
  go_wp2
  go_loopw [4, 27] (fun v i wr => ∃ k : Nat, k ≤ ne ∧ i = .int .i64 k ∧ Hid (OwnT w.heap.size wr v (txE r s c l k)) ∧ Hid (Below w.heap.size w wr)) (fun _ i _ => ne - (intOf i).toNat)
  case atStart => exact ⟨0, by omega, rfl, OT, HV⟩
  case round =>
    obtain ⟨k, hk, rfl, hO, hB⟩ := hrel
    have hlk : Hid ((txE r s c l k).length ≤ 18) := by unfold Hid txE; simp; omega
    by_cases hlt : k < ne
    · have hxx : ∃ x, l[k]? = some x := ⟨_, List.getElem?_eq_getElem (by rw [hln.out]; exact hlt)⟩
      obtain ⟨x, hx⟩ := hxx
      rcases EV.out.1.2.2 with h0 | ⟨bb, off, rfl, _⟩
      · omega
      · obtain ⟨x0, x1, x2, x3, x4, x5⟩ := EV.out.at k x hx
        replace x0 := bcell hB.out x0
        replace x1 := bcell hB.out x1
        replace x2 := bcell hB.out x2
        replace x3 := bcell hB.out x3
        replace x4 := bcell hB.out x4
        replace x5 := bcell hB.out x5
        have hxm := HX.out.2.2 x (List.mem_of_getElem? hx)
        have hxb := EV.out.2 x (List.mem_of_getElem? hx)
        have HP := hide (fun W => putEffect_any x hxm hxb W)
        have HT := hide (txE_step (r := r) (s := s) (c := c) hx)
        have HBY := hide (putF_by hxb)
        have hsz2 : w.heap.size ≤ wr.heap.size := hB.out.size
        clear hx hxm hxb
        obtain ⟨xk, xo, xky, xn, xt, xw⟩ := x
        generalize strOfNums xky = sk at *
        generalize strOfNums xw = sw at *
        have HO := hide (hO.out.alloc (bxF xk xo xn xt sk sw))
        have HBX := hide (bel_next hB.out (bel1 wr (bxF xk xo xn xt sk sw)))
        have hsz3 : w.heap.size ≤ (wr.alloc (bxF xk xo xn xt sk sw)).heap.size := by simp; omega
        have hsz4 := hide hsz3
        clear hsz3
        go_wp2_with (first
          | (go_at_call 34; refine (HP.out _).mono ?_; rintro e w4 ⟨v4, rfl, g1, g2⟩; have G1 := hide (g1.mono hsz4.out); replace HO := hide (HO.out.below g2); replace HBX := hide (bel_next HBX.out g2); have hsz5 := Nat.le_trans hsz4.out g2.size; obtain ⟨p4, q4, hv4, _, _⟩ := g1.open HBY.out; clear g1 g2; subst hv4)
          | (at_builtin; refine Stop.at ?_))
        unfold Stop
        refine append_textT rfl _ _ rfl w.heap.size u4 (txE r s c l k) _ (putF (xk, xo, xky, xn, xt, xw)) _ rfl rfl HO.out G1.out HBY.out rfl (Nat.le_trans hlk.out (by decide)) hsz5 ?_
        intro v' w5 g1 g2
        have G5 : Hid (OwnT w.heap.size w5 v' (txE r s c l (k + 1))) := by unfold Hid; rw [HT.out]; exact g1
        have G6 := hide (g2 w HBX.out)
        clear g1 g2
        go_wp2
        go_roundw
        case rel => exact ⟨k + 1, by omega, by go_num, G5, G6⟩
        case measure => simp [intOf]; omega
    · have hkl : k = ne := by omega
      subst hkl
      have hall : txE r s c l k = putD2 (r, s) :: putC c :: l.map putF := by
        unfold txE
        rw [List.take_of_length_le (by rw [hln.out]; exact Nat.le_refl _)]
      rw [hall] at hO hlk
      obtain ⟨pt, ct, hvt, hpc, _⟩ := hO.out.open
      subst hvt
      have HPK := hide (pack_any pt _ ct _ wr hpc (Nat.le_trans hlk.out (by decide)) HTX.out)
      have HL := hide hlk.out
      have hsz6 := hB.out.size
      clear hpc hO hall
      generalize (putD2 (r, s) :: putC c :: l.map putF).length = tl at *
      go_wp2_with (go_at_call 31; refine HPK.out.mono ?_; rintro e w4 ⟨v4, rfl, g1, g2⟩)
      go_ret2
      exact ⟨_, rfl, g1.mono hsz6, bel_next hB.out g2⟩
end Go.Proofs.Ytooggheoaglbeaa

