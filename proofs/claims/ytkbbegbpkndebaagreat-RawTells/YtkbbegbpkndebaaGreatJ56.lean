/- Texts of this claim, joined: HP10, HQ7. -/
import Derived.Test.YtkbbegbpkndebaaGreatJ51
import Derived.Test.YtkbbegbpkndebaaGreatJ55
/- Bytes of layer 13 (the program). -/
namespace Go.Proofs.YtkbbegbpkndebaaGreat
open Go.RowKit Go.Lib
set_option linter.unusedVariables false
set_option maxHeartbeats 4000000 in
theorem Bytes13_bad (ps : Option Addr) (ns cs : Nat) (pc : Option Addr) (nc cc : Nat) (k : Kd) (g : Int) (p1 : Option Addr) (n1 c1 : Nat) (p2 : Option Addr) (n2 c2 : Nat) (p3 : Option Addr) (n3 c3 : Nat) (p4 : Option Addr) (n4 c4 : Nat) (r : Rw) (w : World) (hg : k.2.2 = g) (hK : KM w ps ns cs pc nc cc k) (hR : RM w p1 n1 c1 p2 n2 c2 p3 n3 c3 p4 n4 c4 r) (hm : mayW k r = false) : Calls Tryz.prog 24 #[.agg #[.slice ps ns cs, .slice pc nc cc, .int .i64 g], .agg #[.slice p1 n1 c1, .slice p2 n2 c2, .slice p3 n3 c3, .slice p4 n4 c4]] w fun e w' => e = .returned (.tuple #[.slice none 0 0, .int .i64 1]) ∧ Below w.heap.size w w' := by
 have HM := hide hm
 clear hm
 have HB0 : Hid (Below w.heap.size w ((w.alloc (.cells #[.slice ps ns cs, .slice pc nc cc, .int .i64 g] 25)).alloc (.cells #[.slice p1 n1 c1, .slice p2 n2 c2, .slice p3 n3 c3, .slice p4 n4 c4] 31))) := bel2 w _ _
 have HK := hide hK
 have HR := hide hR
 have HBK : Hid (BX ((w.alloc (.cells #[.slice ps ns cs, .slice pc nc cc, .int .i64 g] 25)).alloc (.cells #[.slice p1 n1 c1, .slice p2 n2 c2, .slice p3 n3 c3, .slice p4 n4 c4] 31)) w.heap.size #[.slice ps ns cs, .slice pc nc cc, .int .i64 g] 25) := (BX.new w _ rfl _ _).alloc _
 have HBS : Hid (BX ((w.alloc (.cells #[.slice ps ns cs, .slice pc nc cc, .int .i64 g] 25)).alloc (.cells #[.slice p1 n1 c1, .slice p2 n2 c2, .slice p3 n3 c3, .slice p4 n4 c4] 31)) (w.heap.size + 1) #[.slice p1 n1 c1, .slice p2 n2 c2, .slice p3 n3 c3, .slice p4 n4 c4] 31) := BX.new (w.alloc (.cells #[.slice ps ns cs, .slice pc nc cc, .int .i64 g] 25)) _ (by simp) _ _
 clear hK hR
 go_enter Tryz.func24, Tryz.ntmps24
 go_upto_region 1 with fail
 generalize ((w.alloc (.cells #[.slice ps ns cs, .slice pc nc cc, .int .i64 g] 25)).alloc (.cells #[.slice p1 n1 c1, .slice p2 n2 c2, .slice p3 n3 c3, .slice p4 n4 c4] 31)) = u at *
 have a0 := HBK.out.cell 0 _ rfl
 have a1 := HBK.out.cell 1 _ rfl
 have a2 := HBK.out.cell 2 _ rfl
 have b0 := HBS.out.cell 0 _ rfl
 have b1 := HBS.out.cell 1 _ rfl
 have b2 := HBS.out.cell 2 _ rfl
 have b3 := HBS.out.cell 3 _ rfl
 go_wp2_with (go_at_call 22; refine (Plain13_bad _ _ _ _ _ _ k _ _ _ _ _ _ _ _ _ _ _ _ _ r _ hg (HK.out.below HB0.out) (HR.out.below HB0.out) HM.out).mono ?_; rintro e w1 ⟨rfl, hb⟩; replace HB0 := hide (bel_next HB0.out hb); clear hb a0 a1 a2 b0 b1 b2 b3)
 go_ret2
 exact ⟨rfl, bel_next HB0.out (bel1 _ _)⟩
set_option maxHeartbeats 8000000 in
theorem Bytes13_good (ps : Option Addr) (cs : Nat) (pc : Option Addr) (nc cc : Nat) (k : Kd) (g : Int) (p1 : Option Addr) (n1 c1 : Nat) (p2 : Option Addr) (n2 c2 : Nat) (p3 : Option Addr) (n3 c3 : Nat) (p4 : Option Addr) (n4 c4 : Nat) (r : Rw) (w : World) (hg : k.2.2 = g) (hK : KM w ps n1 cs pc nc cc k) (hR : RM w p1 n1 c1 p2 n2 c2 p3 n3 c3 p4 n4 c4 r) (hm : mayW k r = true) (hz : SzW r) (hs : OkP5 r) (hn : n1 ≤ 100 ∧ n2 ≤ 100 ∧ n3 ≤ 100 ∧ n4 ≤ 100) {N L : Nat} (hS : SmW N L (plainW k r)) (hNL : 9 + N * (59 + 36 * L) ≤ 100000) (hN : N ≤ 900) (hL : L ≤ 400) : Calls Tryz.prog 24 #[.agg #[.slice ps n1 cs, .slice pc nc cc, .int .i64 g], .agg #[.slice p1 n1 c1, .slice p2 n2 c2, .slice p3 n3 c3, .slice p4 n4 c4]] w fun e w' => ∃ v, e = .returned (.tuple #[v, .int .i64 0]) ∧ Own w.heap.size w' v (bytRw (plainW k r)) ∧ Below w.heap.size w w' := by
 have HPL := hide (fun W h1 h2 => Plain13_good ps cs pc nc cc k g p1 n1 c1 p2 n2 c2 p3 n3 c3 p4 n4 c4 r W hg h1 h2 hm hz hs (by omega))
 have HSM := hide hS
 have HTX := hide (hS.texts hNL)
 have hn1 := hn.1
 have hn2 := hn.2.1
 have hn3 := hn.2.2.1
 have hn4 := hn.2.2.2
 clear hm hz hs hS hNL hn
 have HB0 : Hid (Below w.heap.size w ((w.alloc (.cells #[.slice ps n1 cs, .slice pc nc cc, .int .i64 g] 25)).alloc (.cells #[.slice p1 n1 c1, .slice p2 n2 c2, .slice p3 n3 c3, .slice p4 n4 c4] 31))) := bel2 w _ _
 have HK := hide hK
 have HR := hide hR
 have HBK : Hid (BX ((w.alloc (.cells #[.slice ps n1 cs, .slice pc nc cc, .int .i64 g] 25)).alloc (.cells #[.slice p1 n1 c1, .slice p2 n2 c2, .slice p3 n3 c3, .slice p4 n4 c4] 31)) w.heap.size #[.slice ps n1 cs, .slice pc nc cc, .int .i64 g] 25) := (BX.new w _ rfl _ _).alloc _
 have HBS : Hid (BX ((w.alloc (.cells #[.slice ps n1 cs, .slice pc nc cc, .int .i64 g] 25)).alloc (.cells #[.slice p1 n1 c1, .slice p2 n2 c2, .slice p3 n3 c3, .slice p4 n4 c4] 31)) (w.heap.size + 1) #[.slice p1 n1 c1, .slice p2 n2 c2, .slice p3 n3 c3, .slice p4 n4 c4] 31) := BX.new (w.alloc (.cells #[.slice ps n1 cs, .slice pc nc cc, .int .i64 g] 25)) _ (by simp) _ _
 clear hK hR
 go_enter Tryz.func24, Tryz.ntmps24
 go_upto_region 1 with fail
 generalize ((w.alloc (.cells #[.slice ps n1 cs, .slice pc nc cc, .int .i64 g] 25)).alloc (.cells #[.slice p1 n1 c1, .slice p2 n2 c2, .slice p3 n3 c3, .slice p4 n4 c4] 31)) = u at *
 have a0 := HBK.out.cell 0 _ rfl
 have a1 := HBK.out.cell 1 _ rfl
 have a2 := HBK.out.cell 2 _ rfl
 have b0 := HBS.out.cell 0 _ rfl
 have b1 := HBS.out.cell 1 _ rfl
 have b2 := HBS.out.cell 2 _ rfl
 have b3 := HBS.out.cell 3 _ rfl
 go_upto_region 2 with (go_at_call 22; refine (HPL.out _ (HK.out.below HB0.out) (HR.out.below HB0.out)).mono ?_; rintro e w1 ⟨q1, d1, q2, d2, q3, d3, q4, d4, rfl, ho, hb⟩; have HO := hide (show OO _ _ _ _ _ _ _ _ _ _ _ _ _ _ (plainW k r) from ho); replace HB0 := hide (bel_next HB0.out hb); clear ho hb a0 a1 a2 b0 b1 b2 b3)
 have HFB := hide (bel1 w1 (.cells #[.slice q1 n1 d1, .slice q2 n2 d2, .slice q3 n3 d3, .slice q4 n4 d4] 31))
 replace HB0 := hide (bel_next HB0.out HFB.out)
 have HXP : Hid (BX (w1.alloc (.cells #[.slice q1 n1 d1, .slice q2 n2 d2, .slice q3 n3 d3, .slice q4 n4 d4] 31)) w1.heap.size #[.slice q1 n1 d1, .slice q2 n2 d2, .slice q3 n3 d3, .slice q4 n4 d4] 31) := BX.new w1 _ rfl _ _
 have HRM := hide ((HO.out.below HFB.out).rm)
 have HL1 := hide (LS.len HRM.out.s)
 have HL2 := hide (LS.len HRM.out.t)
 have HL3 := hide (LS.len HRM.out.a)
 have HL4 := hide (LS.len HRM.out.g)
 clear HO HFB HBK HBS HK HR HPL
 generalize hgP : w1.heap.size = gP at *
 clear hgP
 generalize w1.alloc (.cells #[.slice q1 n1 d1, .slice q2 n2 d2, .slice q3 n3 d3, .slice q4 n4 d4] 31) = w3 at *
 have HV0 := hide (OV.nil w3.heap.size w3)
 have HC0 := hide (Below.refl w3.heap.size w3)
 go_upto_region 4 with fail
 have b0 := (HXP.out.below HC0.out).cell 0 _ rfl
 have HS1 := hide (packsE _ [] q1 n1 d1 (plainW k r).1 w3 _ HC0.out HV0.out HRM.out.s hn1 (by simp) (fun s hs => ⟨Nat.le_trans (HSM.out.sets s hs).1 hN, fun x hx => ⟨((HSM.out.sets s hs).2 x hx).key, ((HSM.out.sets s hs).2 x hx).dots, Nat.le_trans ((HSM.out.sets s hs).2 x hx).few hL⟩⟩))
 go_upto_region 5 with (go_at_call 80; refine HS1.out.mono ?_; rintro e wp1 ⟨vp1, rfl, ho, hb⟩; have HV1 := hide ho; have HC1 := hide hb; clear ho hb)
 clear b0 HS1 HV0
 have b1 := (HXP.out.below HC1.out).cell 1 _ rfl
 have HS2 := hide (packsC _ ([] ++ (plainW k r).1.map (fun s => pack (s.map entB))) q2 n2 d2 (plainW k r).2.1 w3 _ HC1.out HV1.out HRM.out.t hn2 (by (simp only [List.length_append, List.length_map, List.length_nil]); (have h1 := HL1.out); (have h2 := HL2.out); (have h3 := HL3.out); omega) (fun s hs => ⟨Nat.le_trans (HSM.out.tal s hs).1 (by decide), (HSM.out.tal s hs).2⟩))
 go_upto_region 6 with (go_at_call 82; refine HS2.out.mono ?_; rintro e wp2 ⟨vp2, rfl, ho, hb⟩; have HV2 := hide ho; have HC2 := hide hb; clear ho hb)
 clear b1 HS2 HV1
 have b2 := (HXP.out.below HC2.out).cell 2 _ rfl
 have HS3 := hide (packsA _ (([] ++ (plainW k r).1.map (fun s => pack (s.map entB))) ++ (plainW k r).2.1.map (fun s => pack (s.map celB))) q3 n3 d3 (plainW k r).2.2.1 w3 _ HC2.out HV2.out HRM.out.a hn3 (by (simp only [List.length_append, List.length_map, List.length_nil]); (have h1 := HL1.out); (have h2 := HL2.out); (have h3 := HL3.out); omega) (fun s hs => ⟨Nat.le_trans (HSM.out.acc s hs).1 (by decide), (HSM.out.acc s hs).2⟩))
 go_upto_region 7 with (go_at_call 84; refine HS3.out.mono ?_; rintro e wp3 ⟨vp3, rfl, ho, hb⟩; have HV3 := hide ho; have HC3 := hide hb; clear ho hb)
 clear b2 HS3 HV2
 have b3 := (HXP.out.below HC3.out).cell 3 _ rfl
 have HS4 := hide (packsN _ ((([] ++ (plainW k r).1.map (fun s => pack (s.map entB))) ++ (plainW k r).2.1.map (fun s => pack (s.map celB))) ++ (plainW k r).2.2.1.map (fun s => pack (s.map accB))) q4 n4 d4 (plainW k r).2.2.2 w3 _ HC3.out HV3.out HRM.out.g hn4 (by (simp only [List.length_append, List.length_map, List.length_nil]); (have h1 := HL1.out); (have h2 := HL2.out); (have h3 := HL3.out); omega) (fun s hs => ⟨Nat.le_trans (HSM.out.reg s hs).1 (by decide), (HSM.out.reg s hs).2⟩))
 go_upto_region 8 with (go_at_call 86; refine HS4.out.mono ?_; rintro e wp4 ⟨vp4, rfl, ho, hb⟩; have HV4 := hide ho; have HC4 := hide hb; clear ho hb)
 clear b3 HS4 HV3
 have HAB : Hid ((((([] ++ (plainW k r).1.map (fun s => pack (s.map entB))) ++ (plainW k r).2.1.map (fun s => pack (s.map celB))) ++ (plainW k r).2.2.1.map (fun s => pack (s.map accB))) ++ (plainW k r).2.2.2.map (fun s => pack (s.map notB))) = allB (plainW k r)) := by unfold Hid allB; simp
 rw [HAB.out] at HV4
 have HLA : Hid ((allB (plainW k r)).length ≤ 1000) := by
  unfold Hid allB
  (simp only [List.length_append, List.length_map])
  have h1 := HL1.out
  have h2 := HL2.out
  have h3 := HL3.out
  have h4 := HL4.out
  omega
 obtain ⟨p9, c9, hv9, hpc, _⟩ := HV4.out.open
 subst hv9
 have HPC := hide hpc
 have HRS : Hid (pack (allB (plainW k r)) = bytRw (plainW k r)) := rfl
 clear hpc HV4 HAB HSM
 generalize allB (plainW k r) = TS at *
 have hNN : TS.length ≤ 1000 := HLA.out
 generalize TS.length = nL at *
 have HB4 := hide (bel_next HB0.out HC4.out)
 go_wp2_with (go_at_call 88; refine (pack_any p9 _ c9 _ _ HPC.out hNN HTX.out).mono ?_; rintro e w9 ⟨v, rfl, ho, hb⟩; have HOW := hide (ho.mono HB4.out.size); replace HB4 := hide (bel_next HB4.out hb); clear ho hb)
 go_ret2
 exact ⟨_, rfl, (by rw [← HRS.out]; exact HOW.out), HB4.out⟩
end Go.Proofs.YtkbbegbpkndebaaGreat

/- layer 13's awake. -/
namespace Go.Proofs.YtkbbegbpkndebaaGreat
open Go.RowKit Go.Lib
set_option linter.unusedVariables false
def kk13 : ByteArray := ⟨#[107]⟩
theorem encBo_len (b : Bool) : (encBo b).length = 1 := rfl
theorem km13 (w : World) : KM (w.alloc (.cells #[.bool false] 4)) (some ⟨w.heap.size, 0, none⟩) 1 1 none 0 0 ([false], [], 0) :=
 ⟨RS.new encBo_len w _ rfl [false] _ rfl 4 _ 1 rfl (by unfold maxLen; omega), RS.nil _ _, by simp [CP, maxLen], by simp [CP, maxLen]⟩
theorem es13 (w : World) : ES (w.alloc (.cells #[.int .i64 1, .int .i64 0, .string ⟨#[107]⟩, .int .i64 0, .int .i64 0, .string ⟨#[]⟩] 82)) (some ⟨w.heap.size, 0, none⟩) 1 [(1, 0, [107], 0, 0, [])] := by
 refine ⟨RS.new (enc := encF) (k := 6) (fun x => rfl) w _ rfl [(1, 0, [107], 0, 0, [])] _ (by kernel_rfl) 82 _ 1 rfl (by unfold maxLen; omega), fun x hx => ?_⟩
 rw [List.mem_singleton] at hx
 subst hx
 refine ⟨fun y hy => ?_, fun y hy => ?_⟩
 ·simp only [List.mem_cons, List.not_mem_nil, or_false] at hy
  subst hy
  decide
 ·cases hy
theorem app13 : applyW ([false], [], 0) (newW ([false], [], 0)) ((1, 1), [], [(1, 0, [107], 0, 0, [])]) = some ([[(kk13, [(1, 1)], [])]], [], [], []) := by kernel_rfl
theorem pla13 : plainW ([false], [], 0) ([[(kk13, [(1, 1)], [])]], [], [], []) = ([[(kk13, [(1, 1)], [])]], [], [], []) := by kernel_rfl
theorem byt13 : (bytRw ([[(kk13, [(1, 1)], [])]], [], [], [])).length = 21 := by kernel_rfl
theorem byt_by (w : Rw) : By (bytRw w) := pack_by (fun p hp => by
 unfold allB at hp
 simp only [List.mem_append, List.mem_map] at hp
 rcases hp with ((⟨s, hs, rfl⟩ | ⟨s, hs, rfl⟩) | ⟨s, hs, rfl⟩) | ⟨s, hs, rfl⟩
 ·exact pack_by (fun q hq => by obtain ⟨x, _, rfl⟩ := List.mem_map.1 hq; exact entB_by x)
 ·exact pack_by (fun q hq => by obtain ⟨x, _, rfl⟩ := List.mem_map.1 hq; exact celB_by x)
 ·exact pack_by (fun q hq => by obtain ⟨x, _, rfl⟩ := List.mem_map.1 hq; exact accB_by x)
 ·exact pack_by (fun q hq => by obtain ⟨x, _, rfl⟩ := List.mem_map.1 hq; exact notB_by x))
theorem new13 : newW ([false], [], 0) = ([[]], [], [], []) := by kernel_rfl
theorem smV13 : SmW 1 1 ([[(kk13, [(1, 1)], [])]], [], [], []) := by
 refine ⟨fun s hs => ?_, fun s hs => (by cases hs), fun s hs => (by cases hs), fun s hs => (by cases hs)⟩
 rw [List.mem_singleton] at hs
 subst hs
 refine ⟨Nat.le_refl _, fun x hx => ?_⟩
 rw [List.mem_singleton] at hx
 subst hx
 refine ⟨by decide, fun d hd => ?_, Nat.le_refl _, rfl⟩
 rw [List.mem_singleton] at hd
 subst hd
 decide
theorem szV13 : SzW ([[(kk13, [(1, 1)], [])]], [], [], []) := by
 refine ⟨fun s hs => ?_, fun s hs => (by cases hs), fun s hs => (by cases hs), fun s hs => (by cases hs)⟩
 rw [List.mem_singleton] at hs
 subst hs
 refine ⟨by decide, fun x hx => ?_⟩
 rw [List.mem_singleton] at hx
 subst hx
 decide
theorem okV13 : OkP5 ([[(kk13, [(1, 1)], [])]], [], [], []) := by
 intro s hs x hx
 rw [List.mem_singleton] at hs
 subst hs
 rw [List.mem_singleton] at hx
 subst hx
 decide
theorem szN13 : SzW ([[]], [], [], []) := by
 refine ⟨fun s hs => ?_, fun s hs => (by cases hs), fun s hs => (by cases hs), fun s hs => (by cases hs)⟩
 rw [List.mem_singleton] at hs
 subst hs
 exact ⟨by decide, fun x hx => (by cases hx)⟩
end Go.Proofs.YtkbbegbpkndebaaGreat

