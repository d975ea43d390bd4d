/- Texts of this claim, joined: NR5. -/
import Derived.Test.YtomppblgalepjaaGreatDoorJ11
/- The program's reader of lines: a line (layer 15). -/
namespace Go.Proofs.YtomppblgalepjaaGreatDoor
open Go.RowKit Go.Lib
set_option linter.unusedVariables false
set_option maxHeartbeats 2000000 in
theorem line_set_ok {D : Nat} {l : List Tk} {i q : Nat} {kd : Int} {tx : ByteArray} {nn ln : Int} (q0 : (tx.toList == [115, 101, 116]) = true) {k1 : Int} {st : Bool} {nm ot : ByteArray} {n1 l0 : Int} {ds : List Dd} (hn : GvD 93 [.int .i64 1] D l i q ((k1, st, nm, ot, n1, ds, l0) : Dc)) : GvD 86 [.agg #[.int .i64 kd, .string tx, .int .i64 nn, .int .i64 ln]] D l i q ((k1, st, nm, ot, n1, ds, l0) : Dc) := by
 have HN := hide hn
 clear hn
 intro w hr
 have bq0 := bel1 w (.cells #[.int .i64 kd, .string tx, .int .i64 nn, .int .i64 ln] 129)
 have bq1 := bel1 (w.alloc (.cells #[.int .i64 kd, .string tx, .int .i64 nn, .int .i64 ln] 129)) (.cells #[.int .i64 0, .bool false, .string ⟨#[]⟩, .string ⟨#[]⟩, .int .i64 0, .slice none 0 0, .int .i64 0] 38)
 have hsz : (w.alloc (.cells #[.int .i64 kd, .string tx, .int .i64 nn, .int .i64 ln] 129)).heap.size = w.heap.size + 1 := by first | rfl | simp
 have HT : Hid (BX ((w.alloc (.cells #[.int .i64 kd, .string tx, .int .i64 nn, .int .i64 ln] 129)).alloc (.cells #[.int .i64 0, .bool false, .string ⟨#[]⟩, .string ⟨#[]⟩, .int .i64 0, .slice none 0 0, .int .i64 0] 38)) w.heap.size #[.int .i64 kd, .string tx, .int .i64 nn, .int .i64 ln] 129) := (BX.new w _ rfl _ _).below bq1
 have HG : Hid (BX ((w.alloc (.cells #[.int .i64 kd, .string tx, .int .i64 nn, .int .i64 ln] 129)).alloc (.cells #[.int .i64 0, .bool false, .string ⟨#[]⟩, .string ⟨#[]⟩, .int .i64 0, .slice none 0 0, .int .i64 0] 38)) (w.heap.size + 1) #[.int .i64 0, .bool false, .string ⟨#[]⟩, .string ⟨#[]⟩, .int .i64 0, .slice none 0 0, .int .i64 0] 38) := BX.new (w.alloc (.cells #[.int .i64 kd, .string tx, .int .i64 nn, .int .i64 ln] 129)) _ hsz.symm _ _
 have HB : Hid (GB D w ((w.alloc (.cells #[.int .i64 kd, .string tx, .int .i64 nn, .int .i64 ln] 129)).alloc (.cells #[.int .i64 0, .bool false, .string ⟨#[]⟩, .string ⟨#[]⟩, .int .i64 0, .slice none 0 0, .int .i64 0] 38))) := (GB.below D bq0).next bq1
 have HR := hide ((hr.below bq0).below bq1)
 have hD := hr.size
 clear hr
 clear bq0 bq1 hsz
 obtain ⟨g2, hg2⟩ : ∃ g, w.heap.size = g := ⟨_, rfl⟩
 obtain ⟨g, hg⟩ : ∃ g, g2 + 1 = g := ⟨_, rfl⟩
 have hgD : D < g := by omega
 have hne : g ≠ D := by omega
 have hne2 : g2 ≠ D := by omega
 go_enter Tryz.func86, Tryz.ntmps86
 go_upto_region 1 with fail
 rw [hg2, hg] at HG
 rw [hg2] at HT
 try rw [hg]
 have hg1 : w.heap.size ≤ g := by omega
 generalize (w.alloc (.cells #[.int .i64 kd, .string tx, .int .i64 nn, .int .i64 ln] 129)).alloc (.cells #[.int .i64 0, .bool false, .string ⟨#[]⟩, .string ⟨#[]⟩, .int .i64 0, .slice none 0 0, .int .i64 0] 38) = w1 at *
 have t1 := HT.out.cell 1 _ rfl
 have t3 := HT.out.cell 3 _ rfl
 have hw1 := HB.out.1
 go_wp2_with (go_at_call 93; refine (HN.out _ HR.out).mono ?_; rintro e w2 ⟨p, c, rfl, ho2, hr2, hb2⟩; replace HR := hide hr2; have HO := hide (OwnR.mono ho2 hw1); replace HB := hide (HB.out.trans hb2); replace HG := hide (HG.out.gb hb2 hne); clear hr2 hb2 ho2; unfold decV; have z0 := HG.out.cell 0 _ rfl; have y0 := HG.out.free 0; have z1 := HG.out.cell 1 _ rfl; have y1 := HG.out.free 1; have z2 := HG.out.cell 2 _ rfl; have y2 := HG.out.free 2; have z3 := HG.out.cell 3 _ rfl; have y3 := HG.out.free 3; have z4 := HG.out.cell 4 _ rfl; have y4 := HG.out.free 4; have z5 := HG.out.cell 5 _ rfl; have y5 := HG.out.free 5; have z6 := HG.out.cell 6 _ rfl; have y6 := HG.out.free 6)
 have hog := HO.out.off HG.out tyDE
 refine bodyPost_ret (results_cell_row rfl _ _ _ _ _ _ _ rfl (HG.out.put7 _ _ _ _ _ _ _).1 Tryz.underlying38 rfl Tryz.sizeDc) rfl ?_
 exact ⟨p, c, rfl, HO.out.set7 hog _ _ _ _ _ _ _, HR.out.put7 hgD _ _ _ _ _ _ _, HB.out.put7 hg1 _ _ _ _ _ _ _⟩
set_option maxHeartbeats 2000000 in
theorem line_set_no {D : Nat} {l : List Tk} {i q : Nat} {kd : Int} {tx : ByteArray} {nn ln : Int} (q0 : (tx.toList == [115, 101, 116]) = true) (hn : Up 93 [.int .i64 1] D l i q) : Up 86 [.agg #[.int .i64 kd, .string tx, .int .i64 nn, .int .i64 ln]] D l i q := by
 have HN := hide hn
 generalize lnU l q = y at *
 clear hn
 intro w hr
 have bq0 := bel1 w (.cells #[.int .i64 kd, .string tx, .int .i64 nn, .int .i64 ln] 129)
 have bq1 := bel1 (w.alloc (.cells #[.int .i64 kd, .string tx, .int .i64 nn, .int .i64 ln] 129)) (.cells #[.int .i64 0, .bool false, .string ⟨#[]⟩, .string ⟨#[]⟩, .int .i64 0, .slice none 0 0, .int .i64 0] 38)
 have hsz : (w.alloc (.cells #[.int .i64 kd, .string tx, .int .i64 nn, .int .i64 ln] 129)).heap.size = w.heap.size + 1 := by first | rfl | simp
 have HT : Hid (BX ((w.alloc (.cells #[.int .i64 kd, .string tx, .int .i64 nn, .int .i64 ln] 129)).alloc (.cells #[.int .i64 0, .bool false, .string ⟨#[]⟩, .string ⟨#[]⟩, .int .i64 0, .slice none 0 0, .int .i64 0] 38)) w.heap.size #[.int .i64 kd, .string tx, .int .i64 nn, .int .i64 ln] 129) := (BX.new w _ rfl _ _).below bq1
 have HG : Hid (BX ((w.alloc (.cells #[.int .i64 kd, .string tx, .int .i64 nn, .int .i64 ln] 129)).alloc (.cells #[.int .i64 0, .bool false, .string ⟨#[]⟩, .string ⟨#[]⟩, .int .i64 0, .slice none 0 0, .int .i64 0] 38)) (w.heap.size + 1) #[.int .i64 0, .bool false, .string ⟨#[]⟩, .string ⟨#[]⟩, .int .i64 0, .slice none 0 0, .int .i64 0] 38) := BX.new (w.alloc (.cells #[.int .i64 kd, .string tx, .int .i64 nn, .int .i64 ln] 129)) _ hsz.symm _ _
 have HB : Hid (GB D w ((w.alloc (.cells #[.int .i64 kd, .string tx, .int .i64 nn, .int .i64 ln] 129)).alloc (.cells #[.int .i64 0, .bool false, .string ⟨#[]⟩, .string ⟨#[]⟩, .int .i64 0, .slice none 0 0, .int .i64 0] 38))) := (GB.below D bq0).next bq1
 have HR := hide ((hr.below bq0).below bq1)
 have hD := hr.size
 clear hr
 clear bq0 bq1 hsz
 obtain ⟨g2, hg2⟩ : ∃ g, w.heap.size = g := ⟨_, rfl⟩
 obtain ⟨g, hg⟩ : ∃ g, g2 + 1 = g := ⟨_, rfl⟩
 have hgD : D < g := by omega
 have hne : g ≠ D := by omega
 have hne2 : g2 ≠ D := by omega
 go_enter Tryz.func86, Tryz.ntmps86
 go_upto_region 1 with fail
 rw [hg2, hg] at HG
 rw [hg2] at HT
 try rw [hg]
 have hg1 : w.heap.size ≤ g := by omega
 generalize (w.alloc (.cells #[.int .i64 kd, .string tx, .int .i64 nn, .int .i64 ln] 129)).alloc (.cells #[.int .i64 0, .bool false, .string ⟨#[]⟩, .string ⟨#[]⟩, .int .i64 0, .slice none 0 0, .int .i64 0] 38) = w1 at *
 have t1 := HT.out.cell 1 _ rfl
 have t3 := HT.out.cell 3 _ rfl
 go_wp2_with (go_at_call 93; refine (HN.out _ HR.out).mono ?_; rintro e w2 ⟨rfl, hb2⟩; replace HB := hide (HB.out.trans hb2); clear hb2)
 exact ⟨rfl, rfl, HB.out⟩
set_option maxHeartbeats 2000000 in
theorem line_count_ok {D : Nat} {l : List Tk} {i q : Nat} {kd : Int} {tx : ByteArray} {nn ln : Int} (q0 : (tx.toList == [115, 101, 116]) = false) (q1 : (tx.toList == [99, 111, 117, 110, 116]) = true) {k1 : Int} {st : Bool} {nm ot : ByteArray} {n1 l0 : Int} {ds : List Dd} (hn : GvD 93 [.int .i64 2] D l i q ((k1, st, nm, ot, n1, ds, l0) : Dc)) : GvD 86 [.agg #[.int .i64 kd, .string tx, .int .i64 nn, .int .i64 ln]] D l i q ((k1, st, nm, ot, n1, ds, l0) : Dc) := by
 have HN := hide hn
 clear hn
 intro w hr
 have bq0 := bel1 w (.cells #[.int .i64 kd, .string tx, .int .i64 nn, .int .i64 ln] 129)
 have bq1 := bel1 (w.alloc (.cells #[.int .i64 kd, .string tx, .int .i64 nn, .int .i64 ln] 129)) (.cells #[.int .i64 0, .bool false, .string ⟨#[]⟩, .string ⟨#[]⟩, .int .i64 0, .slice none 0 0, .int .i64 0] 38)
 have hsz : (w.alloc (.cells #[.int .i64 kd, .string tx, .int .i64 nn, .int .i64 ln] 129)).heap.size = w.heap.size + 1 := by first | rfl | simp
 have HT : Hid (BX ((w.alloc (.cells #[.int .i64 kd, .string tx, .int .i64 nn, .int .i64 ln] 129)).alloc (.cells #[.int .i64 0, .bool false, .string ⟨#[]⟩, .string ⟨#[]⟩, .int .i64 0, .slice none 0 0, .int .i64 0] 38)) w.heap.size #[.int .i64 kd, .string tx, .int .i64 nn, .int .i64 ln] 129) := (BX.new w _ rfl _ _).below bq1
 have HG : Hid (BX ((w.alloc (.cells #[.int .i64 kd, .string tx, .int .i64 nn, .int .i64 ln] 129)).alloc (.cells #[.int .i64 0, .bool false, .string ⟨#[]⟩, .string ⟨#[]⟩, .int .i64 0, .slice none 0 0, .int .i64 0] 38)) (w.heap.size + 1) #[.int .i64 0, .bool false, .string ⟨#[]⟩, .string ⟨#[]⟩, .int .i64 0, .slice none 0 0, .int .i64 0] 38) := BX.new (w.alloc (.cells #[.int .i64 kd, .string tx, .int .i64 nn, .int .i64 ln] 129)) _ hsz.symm _ _
 have HB : Hid (GB D w ((w.alloc (.cells #[.int .i64 kd, .string tx, .int .i64 nn, .int .i64 ln] 129)).alloc (.cells #[.int .i64 0, .bool false, .string ⟨#[]⟩, .string ⟨#[]⟩, .int .i64 0, .slice none 0 0, .int .i64 0] 38))) := (GB.below D bq0).next bq1
 have HR := hide ((hr.below bq0).below bq1)
 have hD := hr.size
 clear hr
 clear bq0 bq1 hsz
 obtain ⟨g2, hg2⟩ : ∃ g, w.heap.size = g := ⟨_, rfl⟩
 obtain ⟨g, hg⟩ : ∃ g, g2 + 1 = g := ⟨_, rfl⟩
 have hgD : D < g := by omega
 have hne : g ≠ D := by omega
 have hne2 : g2 ≠ D := by omega
 go_enter Tryz.func86, Tryz.ntmps86
 go_upto_region 1 with fail
 rw [hg2, hg] at HG
 rw [hg2] at HT
 try rw [hg]
 have hg1 : w.heap.size ≤ g := by omega
 generalize (w.alloc (.cells #[.int .i64 kd, .string tx, .int .i64 nn, .int .i64 ln] 129)).alloc (.cells #[.int .i64 0, .bool false, .string ⟨#[]⟩, .string ⟨#[]⟩, .int .i64 0, .slice none 0 0, .int .i64 0] 38) = w1 at *
 have t1 := HT.out.cell 1 _ rfl
 have t3 := HT.out.cell 3 _ rfl
 have hw1 := HB.out.1
 go_wp2_with (go_at_call 93; refine (HN.out _ HR.out).mono ?_; rintro e w2 ⟨p, c, rfl, ho2, hr2, hb2⟩; replace HR := hide hr2; have HO := hide (OwnR.mono ho2 hw1); replace HB := hide (HB.out.trans hb2); replace HG := hide (HG.out.gb hb2 hne); clear hr2 hb2 ho2; unfold decV; have z0 := HG.out.cell 0 _ rfl; have y0 := HG.out.free 0; have z1 := HG.out.cell 1 _ rfl; have y1 := HG.out.free 1; have z2 := HG.out.cell 2 _ rfl; have y2 := HG.out.free 2; have z3 := HG.out.cell 3 _ rfl; have y3 := HG.out.free 3; have z4 := HG.out.cell 4 _ rfl; have y4 := HG.out.free 4; have z5 := HG.out.cell 5 _ rfl; have y5 := HG.out.free 5; have z6 := HG.out.cell 6 _ rfl; have y6 := HG.out.free 6)
 have hog := HO.out.off HG.out tyDE
 refine bodyPost_ret (results_cell_row rfl _ _ _ _ _ _ _ rfl (HG.out.put7 _ _ _ _ _ _ _).1 Tryz.underlying38 rfl Tryz.sizeDc) rfl ?_
 exact ⟨p, c, rfl, HO.out.set7 hog _ _ _ _ _ _ _, HR.out.put7 hgD _ _ _ _ _ _ _, HB.out.put7 hg1 _ _ _ _ _ _ _⟩
set_option maxHeartbeats 2000000 in
theorem line_count_no {D : Nat} {l : List Tk} {i q : Nat} {kd : Int} {tx : ByteArray} {nn ln : Int} (q0 : (tx.toList == [115, 101, 116]) = false) (q1 : (tx.toList == [99, 111, 117, 110, 116]) = true) (hn : Up 93 [.int .i64 2] D l i q) : Up 86 [.agg #[.int .i64 kd, .string tx, .int .i64 nn, .int .i64 ln]] D l i q := by
 have HN := hide hn
 generalize lnU l q = y at *
 clear hn
 intro w hr
 have bq0 := bel1 w (.cells #[.int .i64 kd, .string tx, .int .i64 nn, .int .i64 ln] 129)
 have bq1 := bel1 (w.alloc (.cells #[.int .i64 kd, .string tx, .int .i64 nn, .int .i64 ln] 129)) (.cells #[.int .i64 0, .bool false, .string ⟨#[]⟩, .string ⟨#[]⟩, .int .i64 0, .slice none 0 0, .int .i64 0] 38)
 have hsz : (w.alloc (.cells #[.int .i64 kd, .string tx, .int .i64 nn, .int .i64 ln] 129)).heap.size = w.heap.size + 1 := by first | rfl | simp
 have HT : Hid (BX ((w.alloc (.cells #[.int .i64 kd, .string tx, .int .i64 nn, .int .i64 ln] 129)).alloc (.cells #[.int .i64 0, .bool false, .string ⟨#[]⟩, .string ⟨#[]⟩, .int .i64 0, .slice none 0 0, .int .i64 0] 38)) w.heap.size #[.int .i64 kd, .string tx, .int .i64 nn, .int .i64 ln] 129) := (BX.new w _ rfl _ _).below bq1
 have HG : Hid (BX ((w.alloc (.cells #[.int .i64 kd, .string tx, .int .i64 nn, .int .i64 ln] 129)).alloc (.cells #[.int .i64 0, .bool false, .string ⟨#[]⟩, .string ⟨#[]⟩, .int .i64 0, .slice none 0 0, .int .i64 0] 38)) (w.heap.size + 1) #[.int .i64 0, .bool false, .string ⟨#[]⟩, .string ⟨#[]⟩, .int .i64 0, .slice none 0 0, .int .i64 0] 38) := BX.new (w.alloc (.cells #[.int .i64 kd, .string tx, .int .i64 nn, .int .i64 ln] 129)) _ hsz.symm _ _
 have HB : Hid (GB D w ((w.alloc (.cells #[.int .i64 kd, .string tx, .int .i64 nn, .int .i64 ln] 129)).alloc (.cells #[.int .i64 0, .bool false, .string ⟨#[]⟩, .string ⟨#[]⟩, .int .i64 0, .slice none 0 0, .int .i64 0] 38))) := (GB.below D bq0).next bq1
 have HR := hide ((hr.below bq0).below bq1)
 have hD := hr.size
 clear hr
 clear bq0 bq1 hsz
 obtain ⟨g2, hg2⟩ : ∃ g, w.heap.size = g := ⟨_, rfl⟩
 obtain ⟨g, hg⟩ : ∃ g, g2 + 1 = g := ⟨_, rfl⟩
 have hgD : D < g := by omega
 have hne : g ≠ D := by omega
 have hne2 : g2 ≠ D := by omega
 go_enter Tryz.func86, Tryz.ntmps86
 go_upto_region 1 with fail
 rw [hg2, hg] at HG
 rw [hg2] at HT
 try rw [hg]
 have hg1 : w.heap.size ≤ g := by omega
 generalize (w.alloc (.cells #[.int .i64 kd, .string tx, .int .i64 nn, .int .i64 ln] 129)).alloc (.cells #[.int .i64 0, .bool false, .string ⟨#[]⟩, .string ⟨#[]⟩, .int .i64 0, .slice none 0 0, .int .i64 0] 38) = w1 at *
 have t1 := HT.out.cell 1 _ rfl
 have t3 := HT.out.cell 3 _ rfl
 go_wp2_with (go_at_call 93; refine (HN.out _ HR.out).mono ?_; rintro e w2 ⟨rfl, hb2⟩; replace HB := hide (HB.out.trans hb2); clear hb2)
 exact ⟨rfl, rfl, HB.out⟩
set_option maxHeartbeats 2000000 in
theorem line_note_ok {D : Nat} {l : List Tk} {i q : Nat} {kd : Int} {tx : ByteArray} {nn ln : Int} (q0 : (tx.toList == [115, 101, 116]) = false) (q1 : (tx.toList == [99, 111, 117, 110, 116]) = false) (q2 : (tx.toList == [110, 111, 116, 101]) = true) {k1 : Int} {st : Bool} {nm ot : ByteArray} {n1 l0 : Int} {ds : List Dd} (hn : GvD 93 [.int .i64 3] D l i q ((k1, st, nm, ot, n1, ds, l0) : Dc)) : GvD 86 [.agg #[.int .i64 kd, .string tx, .int .i64 nn, .int .i64 ln]] D l i q ((k1, st, nm, ot, n1, ds, l0) : Dc) := by
 have HN := hide hn
 clear hn
 intro w hr
 have bq0 := bel1 w (.cells #[.int .i64 kd, .string tx, .int .i64 nn, .int .i64 ln] 129)
 have bq1 := bel1 (w.alloc (.cells #[.int .i64 kd, .string tx, .int .i64 nn, .int .i64 ln] 129)) (.cells #[.int .i64 0, .bool false, .string ⟨#[]⟩, .string ⟨#[]⟩, .int .i64 0, .slice none 0 0, .int .i64 0] 38)
 have hsz : (w.alloc (.cells #[.int .i64 kd, .string tx, .int .i64 nn, .int .i64 ln] 129)).heap.size = w.heap.size + 1 := by first | rfl | simp
 have HT : Hid (BX ((w.alloc (.cells #[.int .i64 kd, .string tx, .int .i64 nn, .int .i64 ln] 129)).alloc (.cells #[.int .i64 0, .bool false, .string ⟨#[]⟩, .string ⟨#[]⟩, .int .i64 0, .slice none 0 0, .int .i64 0] 38)) w.heap.size #[.int .i64 kd, .string tx, .int .i64 nn, .int .i64 ln] 129) := (BX.new w _ rfl _ _).below bq1
 have HG : Hid (BX ((w.alloc (.cells #[.int .i64 kd, .string tx, .int .i64 nn, .int .i64 ln] 129)).alloc (.cells #[.int .i64 0, .bool false, .string ⟨#[]⟩, .string ⟨#[]⟩, .int .i64 0, .slice none 0 0, .int .i64 0] 38)) (w.heap.size + 1) #[.int .i64 0, .bool false, .string ⟨#[]⟩, .string ⟨#[]⟩, .int .i64 0, .slice none 0 0, .int .i64 0] 38) := BX.new (w.alloc (.cells #[.int .i64 kd, .string tx, .int .i64 nn, .int .i64 ln] 129)) _ hsz.symm _ _
 have HB : Hid (GB D w ((w.alloc (.cells #[.int .i64 kd, .string tx, .int .i64 nn, .int .i64 ln] 129)).alloc (.cells #[.int .i64 0, .bool false, .string ⟨#[]⟩, .string ⟨#[]⟩, .int .i64 0, .slice none 0 0, .int .i64 0] 38))) := (GB.below D bq0).next bq1
 have HR := hide ((hr.below bq0).below bq1)
 have hD := hr.size
 clear hr
 clear bq0 bq1 hsz
 obtain ⟨g2, hg2⟩ : ∃ g, w.heap.size = g := ⟨_, rfl⟩
 obtain ⟨g, hg⟩ : ∃ g, g2 + 1 = g := ⟨_, rfl⟩
 have hgD : D < g := by omega
 have hne : g ≠ D := by omega
 have hne2 : g2 ≠ D := by omega
 go_enter Tryz.func86, Tryz.ntmps86
 go_upto_region 1 with fail
 rw [hg2, hg] at HG
 rw [hg2] at HT
 try rw [hg]
 have hg1 : w.heap.size ≤ g := by omega
 generalize (w.alloc (.cells #[.int .i64 kd, .string tx, .int .i64 nn, .int .i64 ln] 129)).alloc (.cells #[.int .i64 0, .bool false, .string ⟨#[]⟩, .string ⟨#[]⟩, .int .i64 0, .slice none 0 0, .int .i64 0] 38) = w1 at *
 have t1 := HT.out.cell 1 _ rfl
 have t3 := HT.out.cell 3 _ rfl
 have hw1 := HB.out.1
 go_wp2_with (go_at_call 93; refine (HN.out _ HR.out).mono ?_; rintro e w2 ⟨p, c, rfl, ho2, hr2, hb2⟩; replace HR := hide hr2; have HO := hide (OwnR.mono ho2 hw1); replace HB := hide (HB.out.trans hb2); replace HG := hide (HG.out.gb hb2 hne); clear hr2 hb2 ho2; unfold decV; have z0 := HG.out.cell 0 _ rfl; have y0 := HG.out.free 0; have z1 := HG.out.cell 1 _ rfl; have y1 := HG.out.free 1; have z2 := HG.out.cell 2 _ rfl; have y2 := HG.out.free 2; have z3 := HG.out.cell 3 _ rfl; have y3 := HG.out.free 3; have z4 := HG.out.cell 4 _ rfl; have y4 := HG.out.free 4; have z5 := HG.out.cell 5 _ rfl; have y5 := HG.out.free 5; have z6 := HG.out.cell 6 _ rfl; have y6 := HG.out.free 6)
 have hog := HO.out.off HG.out tyDE
 refine bodyPost_ret (results_cell_row rfl _ _ _ _ _ _ _ rfl (HG.out.put7 _ _ _ _ _ _ _).1 Tryz.underlying38 rfl Tryz.sizeDc) rfl ?_
 exact ⟨p, c, rfl, HO.out.set7 hog _ _ _ _ _ _ _, HR.out.put7 hgD _ _ _ _ _ _ _, HB.out.put7 hg1 _ _ _ _ _ _ _⟩
set_option maxHeartbeats 2000000 in
theorem line_note_no {D : Nat} {l : List Tk} {i q : Nat} {kd : Int} {tx : ByteArray} {nn ln : Int} (q0 : (tx.toList == [115, 101, 116]) = false) (q1 : (tx.toList == [99, 111, 117, 110, 116]) = false) (q2 : (tx.toList == [110, 111, 116, 101]) = true) (hn : Up 93 [.int .i64 3] D l i q) : Up 86 [.agg #[.int .i64 kd, .string tx, .int .i64 nn, .int .i64 ln]] D l i q := by
 have HN := hide hn
 generalize lnU l q = y at *
 clear hn
 intro w hr
 have bq0 := bel1 w (.cells #[.int .i64 kd, .string tx, .int .i64 nn, .int .i64 ln] 129)
 have bq1 := bel1 (w.alloc (.cells #[.int .i64 kd, .string tx, .int .i64 nn, .int .i64 ln] 129)) (.cells #[.int .i64 0, .bool false, .string ⟨#[]⟩, .string ⟨#[]⟩, .int .i64 0, .slice none 0 0, .int .i64 0] 38)
 have hsz : (w.alloc (.cells #[.int .i64 kd, .string tx, .int .i64 nn, .int .i64 ln] 129)).heap.size = w.heap.size + 1 := by first | rfl | simp
 have HT : Hid (BX ((w.alloc (.cells #[.int .i64 kd, .string tx, .int .i64 nn, .int .i64 ln] 129)).alloc (.cells #[.int .i64 0, .bool false, .string ⟨#[]⟩, .string ⟨#[]⟩, .int .i64 0, .slice none 0 0, .int .i64 0] 38)) w.heap.size #[.int .i64 kd, .string tx, .int .i64 nn, .int .i64 ln] 129) := (BX.new w _ rfl _ _).below bq1
 have HG : Hid (BX ((w.alloc (.cells #[.int .i64 kd, .string tx, .int .i64 nn, .int .i64 ln] 129)).alloc (.cells #[.int .i64 0, .bool false, .string ⟨#[]⟩, .string ⟨#[]⟩, .int .i64 0, .slice none 0 0, .int .i64 0] 38)) (w.heap.size + 1) #[.int .i64 0, .bool false, .string ⟨#[]⟩, .string ⟨#[]⟩, .int .i64 0, .slice none 0 0, .int .i64 0] 38) := BX.new (w.alloc (.cells #[.int .i64 kd, .string tx, .int .i64 nn, .int .i64 ln] 129)) _ hsz.symm _ _
 have HB : Hid (GB D w ((w.alloc (.cells #[.int .i64 kd, .string tx, .int .i64 nn, .int .i64 ln] 129)).alloc (.cells #[.int .i64 0, .bool false, .string ⟨#[]⟩, .string ⟨#[]⟩, .int .i64 0, .slice none 0 0, .int .i64 0] 38))) := (GB.below D bq0).next bq1
 have HR := hide ((hr.below bq0).below bq1)
 have hD := hr.size
 clear hr
 clear bq0 bq1 hsz
 obtain ⟨g2, hg2⟩ : ∃ g, w.heap.size = g := ⟨_, rfl⟩
 obtain ⟨g, hg⟩ : ∃ g, g2 + 1 = g := ⟨_, rfl⟩
 have hgD : D < g := by omega
 have hne : g ≠ D := by omega
 have hne2 : g2 ≠ D := by omega
 go_enter Tryz.func86, Tryz.ntmps86
 go_upto_region 1 with fail
 rw [hg2, hg] at HG
 rw [hg2] at HT
 try rw [hg]
 have hg1 : w.heap.size ≤ g := by omega
 generalize (w.alloc (.cells #[.int .i64 kd, .string tx, .int .i64 nn, .int .i64 ln] 129)).alloc (.cells #[.int .i64 0, .bool false, .string ⟨#[]⟩, .string ⟨#[]⟩, .int .i64 0, .slice none 0 0, .int .i64 0] 38) = w1 at *
 have t1 := HT.out.cell 1 _ rfl
 have t3 := HT.out.cell 3 _ rfl
 go_wp2_with (go_at_call 93; refine (HN.out _ HR.out).mono ?_; rintro e w2 ⟨rfl, hb2⟩; replace HB := hide (HB.out.trans hb2); clear hb2)
 exact ⟨rfl, rfl, HB.out⟩
set_option maxHeartbeats 2000000 in
theorem line_rule_ok {D : Nat} {l : List Tk} {i q : Nat} {kd : Int} {tx : ByteArray} {nn ln : Int} (q0 : (tx.toList == [115, 101, 116]) = false) (q1 : (tx.toList == [99, 111, 117, 110, 116]) = false) (q2 : (tx.toList == [110, 111, 116, 101]) = false) (q3 : (tx.toList == [114, 117, 108, 101]) = true) {k1 : Int} {st : Bool} {nm ot : ByteArray} {n1 l0 : Int} {ds : List Dd} (hn : GvD 94 [] D l i q ((k1, st, nm, ot, n1, ds, l0) : Dc)) : GvD 86 [.agg #[.int .i64 kd, .string tx, .int .i64 nn, .int .i64 ln]] D l i q ((k1, st, nm, ot, n1, ds, l0) : Dc) := by
 have HN := hide hn
 clear hn
 intro w hr
 have bq0 := bel1 w (.cells #[.int .i64 kd, .string tx, .int .i64 nn, .int .i64 ln] 129)
 have bq1 := bel1 (w.alloc (.cells #[.int .i64 kd, .string tx, .int .i64 nn, .int .i64 ln] 129)) (.cells #[.int .i64 0, .bool false, .string ⟨#[]⟩, .string ⟨#[]⟩, .int .i64 0, .slice none 0 0, .int .i64 0] 38)
 have hsz : (w.alloc (.cells #[.int .i64 kd, .string tx, .int .i64 nn, .int .i64 ln] 129)).heap.size = w.heap.size + 1 := by first | rfl | simp
 have HT : Hid (BX ((w.alloc (.cells #[.int .i64 kd, .string tx, .int .i64 nn, .int .i64 ln] 129)).alloc (.cells #[.int .i64 0, .bool false, .string ⟨#[]⟩, .string ⟨#[]⟩, .int .i64 0, .slice none 0 0, .int .i64 0] 38)) w.heap.size #[.int .i64 kd, .string tx, .int .i64 nn, .int .i64 ln] 129) := (BX.new w _ rfl _ _).below bq1
 have HG : Hid (BX ((w.alloc (.cells #[.int .i64 kd, .string tx, .int .i64 nn, .int .i64 ln] 129)).alloc (.cells #[.int .i64 0, .bool false, .string ⟨#[]⟩, .string ⟨#[]⟩, .int .i64 0, .slice none 0 0, .int .i64 0] 38)) (w.heap.size + 1) #[.int .i64 0, .bool false, .string ⟨#[]⟩, .string ⟨#[]⟩, .int .i64 0, .slice none 0 0, .int .i64 0] 38) := BX.new (w.alloc (.cells #[.int .i64 kd, .string tx, .int .i64 nn, .int .i64 ln] 129)) _ hsz.symm _ _
 have HB : Hid (GB D w ((w.alloc (.cells #[.int .i64 kd, .string tx, .int .i64 nn, .int .i64 ln] 129)).alloc (.cells #[.int .i64 0, .bool false, .string ⟨#[]⟩, .string ⟨#[]⟩, .int .i64 0, .slice none 0 0, .int .i64 0] 38))) := (GB.below D bq0).next bq1
 have HR := hide ((hr.below bq0).below bq1)
 have hD := hr.size
 clear hr
 clear bq0 bq1 hsz
 obtain ⟨g2, hg2⟩ : ∃ g, w.heap.size = g := ⟨_, rfl⟩
 obtain ⟨g, hg⟩ : ∃ g, g2 + 1 = g := ⟨_, rfl⟩
 have hgD : D < g := by omega
 have hne : g ≠ D := by omega
 have hne2 : g2 ≠ D := by omega
 go_enter Tryz.func86, Tryz.ntmps86
 go_upto_region 1 with fail
 rw [hg2, hg] at HG
 rw [hg2] at HT
 try rw [hg]
 have hg1 : w.heap.size ≤ g := by omega
 generalize (w.alloc (.cells #[.int .i64 kd, .string tx, .int .i64 nn, .int .i64 ln] 129)).alloc (.cells #[.int .i64 0, .bool false, .string ⟨#[]⟩, .string ⟨#[]⟩, .int .i64 0, .slice none 0 0, .int .i64 0] 38) = w1 at *
 have t1 := HT.out.cell 1 _ rfl
 have t3 := HT.out.cell 3 _ rfl
 have hw1 := HB.out.1
 go_wp2_with (go_at_call 94; refine (HN.out _ HR.out).mono ?_; rintro e w2 ⟨p, c, rfl, ho2, hr2, hb2⟩; replace HR := hide hr2; have HO := hide (OwnR.mono ho2 hw1); replace HB := hide (HB.out.trans hb2); replace HG := hide (HG.out.gb hb2 hne); clear hr2 hb2 ho2; unfold decV; have z0 := HG.out.cell 0 _ rfl; have y0 := HG.out.free 0; have z1 := HG.out.cell 1 _ rfl; have y1 := HG.out.free 1; have z2 := HG.out.cell 2 _ rfl; have y2 := HG.out.free 2; have z3 := HG.out.cell 3 _ rfl; have y3 := HG.out.free 3; have z4 := HG.out.cell 4 _ rfl; have y4 := HG.out.free 4; have z5 := HG.out.cell 5 _ rfl; have y5 := HG.out.free 5; have z6 := HG.out.cell 6 _ rfl; have y6 := HG.out.free 6)
 have hog := HO.out.off HG.out tyDE
 refine bodyPost_ret (results_cell_row rfl _ _ _ _ _ _ _ rfl (HG.out.put7 _ _ _ _ _ _ _).1 Tryz.underlying38 rfl Tryz.sizeDc) rfl ?_
 exact ⟨p, c, rfl, HO.out.set7 hog _ _ _ _ _ _ _, HR.out.put7 hgD _ _ _ _ _ _ _, HB.out.put7 hg1 _ _ _ _ _ _ _⟩
set_option maxHeartbeats 2000000 in
theorem line_rule_no {D : Nat} {l : List Tk} {i q : Nat} {kd : Int} {tx : ByteArray} {nn ln : Int} (q0 : (tx.toList == [115, 101, 116]) = false) (q1 : (tx.toList == [99, 111, 117, 110, 116]) = false) (q2 : (tx.toList == [110, 111, 116, 101]) = false) (q3 : (tx.toList == [114, 117, 108, 101]) = true) (hn : Up 94 [] D l i q) : Up 86 [.agg #[.int .i64 kd, .string tx, .int .i64 nn, .int .i64 ln]] D l i q := by
 have HN := hide hn
 generalize lnU l q = y at *
 clear hn
 intro w hr
 have bq0 := bel1 w (.cells #[.int .i64 kd, .string tx, .int .i64 nn, .int .i64 ln] 129)
 have bq1 := bel1 (w.alloc (.cells #[.int .i64 kd, .string tx, .int .i64 nn, .int .i64 ln] 129)) (.cells #[.int .i64 0, .bool false, .string ⟨#[]⟩, .string ⟨#[]⟩, .int .i64 0, .slice none 0 0, .int .i64 0] 38)
 have hsz : (w.alloc (.cells #[.int .i64 kd, .string tx, .int .i64 nn, .int .i64 ln] 129)).heap.size = w.heap.size + 1 := by first | rfl | simp
 have HT : Hid (BX ((w.alloc (.cells #[.int .i64 kd, .string tx, .int .i64 nn, .int .i64 ln] 129)).alloc (.cells #[.int .i64 0, .bool false, .string ⟨#[]⟩, .string ⟨#[]⟩, .int .i64 0, .slice none 0 0, .int .i64 0] 38)) w.heap.size #[.int .i64 kd, .string tx, .int .i64 nn, .int .i64 ln] 129) := (BX.new w _ rfl _ _).below bq1
 have HG : Hid (BX ((w.alloc (.cells #[.int .i64 kd, .string tx, .int .i64 nn, .int .i64 ln] 129)).alloc (.cells #[.int .i64 0, .bool false, .string ⟨#[]⟩, .string ⟨#[]⟩, .int .i64 0, .slice none 0 0, .int .i64 0] 38)) (w.heap.size + 1) #[.int .i64 0, .bool false, .string ⟨#[]⟩, .string ⟨#[]⟩, .int .i64 0, .slice none 0 0, .int .i64 0] 38) := BX.new (w.alloc (.cells #[.int .i64 kd, .string tx, .int .i64 nn, .int .i64 ln] 129)) _ hsz.symm _ _
 have HB : Hid (GB D w ((w.alloc (.cells #[.int .i64 kd, .string tx, .int .i64 nn, .int .i64 ln] 129)).alloc (.cells #[.int .i64 0, .bool false, .string ⟨#[]⟩, .string ⟨#[]⟩, .int .i64 0, .slice none 0 0, .int .i64 0] 38))) := (GB.below D bq0).next bq1
 have HR := hide ((hr.below bq0).below bq1)
 have hD := hr.size
 clear hr
 clear bq0 bq1 hsz
 obtain ⟨g2, hg2⟩ : ∃ g, w.heap.size = g := ⟨_, rfl⟩
 obtain ⟨g, hg⟩ : ∃ g, g2 + 1 = g := ⟨_, rfl⟩
 have hgD : D < g := by omega
 have hne : g ≠ D := by omega
 have hne2 : g2 ≠ D := by omega
 go_enter Tryz.func86, Tryz.ntmps86
 go_upto_region 1 with fail
 rw [hg2, hg] at HG
 rw [hg2] at HT
 try rw [hg]
 have hg1 : w.heap.size ≤ g := by omega
 generalize (w.alloc (.cells #[.int .i64 kd, .string tx, .int .i64 nn, .int .i64 ln] 129)).alloc (.cells #[.int .i64 0, .bool false, .string ⟨#[]⟩, .string ⟨#[]⟩, .int .i64 0, .slice none 0 0, .int .i64 0] 38) = w1 at *
 have t1 := HT.out.cell 1 _ rfl
 have t3 := HT.out.cell 3 _ rfl
 go_wp2_with (go_at_call 94; refine (HN.out _ HR.out).mono ?_; rintro e w2 ⟨rfl, hb2⟩; replace HB := hide (HB.out.trans hb2); clear hb2)
 exact ⟨rfl, rfl, HB.out⟩
set_option maxHeartbeats 2000000 in
theorem line_op_ok {D : Nat} {l : List Tk} {i q : Nat} {kd : Int} {tx : ByteArray} {nn ln : Int} (q0 : (tx.toList == [115, 101, 116]) = false) (q1 : (tx.toList == [99, 111, 117, 110, 116]) = false) (q2 : (tx.toList == [110, 111, 116, 101]) = false) (q3 : (tx.toList == [114, 117, 108, 101]) = false) (q4 : (tx.toList == [111, 112]) = true) {k1 : Int} {st : Bool} {nm ot : ByteArray} {n1 l0 : Int} {ds : List Dd} (hn : GvD 95 [] D l i q ((k1, st, nm, ot, n1, ds, l0) : Dc)) : GvD 86 [.agg #[.int .i64 kd, .string tx, .int .i64 nn, .int .i64 ln]] D l i q ((k1, st, nm, ot, n1, ds, l0) : Dc) := by
 have HN := hide hn
 clear hn
 intro w hr
 have bq0 := bel1 w (.cells #[.int .i64 kd, .string tx, .int .i64 nn, .int .i64 ln] 129)
 have bq1 := bel1 (w.alloc (.cells #[.int .i64 kd, .string tx, .int .i64 nn, .int .i64 ln] 129)) (.cells #[.int .i64 0, .bool false, .string ⟨#[]⟩, .string ⟨#[]⟩, .int .i64 0, .slice none 0 0, .int .i64 0] 38)
 have hsz : (w.alloc (.cells #[.int .i64 kd, .string tx, .int .i64 nn, .int .i64 ln] 129)).heap.size = w.heap.size + 1 := by first | rfl | simp
 have HT : Hid (BX ((w.alloc (.cells #[.int .i64 kd, .string tx, .int .i64 nn, .int .i64 ln] 129)).alloc (.cells #[.int .i64 0, .bool false, .string ⟨#[]⟩, .string ⟨#[]⟩, .int .i64 0, .slice none 0 0, .int .i64 0] 38)) w.heap.size #[.int .i64 kd, .string tx, .int .i64 nn, .int .i64 ln] 129) := (BX.new w _ rfl _ _).below bq1
 have HG : Hid (BX ((w.alloc (.cells #[.int .i64 kd, .string tx, .int .i64 nn, .int .i64 ln] 129)).alloc (.cells #[.int .i64 0, .bool false, .string ⟨#[]⟩, .string ⟨#[]⟩, .int .i64 0, .slice none 0 0, .int .i64 0] 38)) (w.heap.size + 1) #[.int .i64 0, .bool false, .string ⟨#[]⟩, .string ⟨#[]⟩, .int .i64 0, .slice none 0 0, .int .i64 0] 38) := BX.new (w.alloc (.cells #[.int .i64 kd, .string tx, .int .i64 nn, .int .i64 ln] 129)) _ hsz.symm _ _
 have HB : Hid (GB D w ((w.alloc (.cells #[.int .i64 kd, .string tx, .int .i64 nn, .int .i64 ln] 129)).alloc (.cells #[.int .i64 0, .bool false, .string ⟨#[]⟩, .string ⟨#[]⟩, .int .i64 0, .slice none 0 0, .int .i64 0] 38))) := (GB.below D bq0).next bq1
 have HR := hide ((hr.below bq0).below bq1)
 have hD := hr.size
 clear hr
 clear bq0 bq1 hsz
 obtain ⟨g2, hg2⟩ : ∃ g, w.heap.size = g := ⟨_, rfl⟩
 obtain ⟨g, hg⟩ : ∃ g, g2 + 1 = g := ⟨_, rfl⟩
 have hgD : D < g := by omega
 have hne : g ≠ D := by omega
 have hne2 : g2 ≠ D := by omega
 go_enter Tryz.func86, Tryz.ntmps86
 go_upto_region 1 with fail
 rw [hg2, hg] at HG
 rw [hg2] at HT
 try rw [hg]
 have hg1 : w.heap.size ≤ g := by omega
 generalize (w.alloc (.cells #[.int .i64 kd, .string tx, .int .i64 nn, .int .i64 ln] 129)).alloc (.cells #[.int .i64 0, .bool false, .string ⟨#[]⟩, .string ⟨#[]⟩, .int .i64 0, .slice none 0 0, .int .i64 0] 38) = w1 at *
 have t1 := HT.out.cell 1 _ rfl
 have t3 := HT.out.cell 3 _ rfl
 have hw1 := HB.out.1
 go_wp2_with (go_at_call 95; refine (HN.out _ HR.out).mono ?_; rintro e w2 ⟨p, c, rfl, ho2, hr2, hb2⟩; replace HR := hide hr2; have HO := hide (OwnR.mono ho2 hw1); replace HB := hide (HB.out.trans hb2); replace HG := hide (HG.out.gb hb2 hne); clear hr2 hb2 ho2; unfold decV; have z0 := HG.out.cell 0 _ rfl; have y0 := HG.out.free 0; have z1 := HG.out.cell 1 _ rfl; have y1 := HG.out.free 1; have z2 := HG.out.cell 2 _ rfl; have y2 := HG.out.free 2; have z3 := HG.out.cell 3 _ rfl; have y3 := HG.out.free 3; have z4 := HG.out.cell 4 _ rfl; have y4 := HG.out.free 4; have z5 := HG.out.cell 5 _ rfl; have y5 := HG.out.free 5; have z6 := HG.out.cell 6 _ rfl; have y6 := HG.out.free 6)
 have hog := HO.out.off HG.out tyDE
 refine bodyPost_ret (results_cell_row rfl _ _ _ _ _ _ _ rfl (HG.out.put7 _ _ _ _ _ _ _).1 Tryz.underlying38 rfl Tryz.sizeDc) rfl ?_
 exact ⟨p, c, rfl, HO.out.set7 hog _ _ _ _ _ _ _, HR.out.put7 hgD _ _ _ _ _ _ _, HB.out.put7 hg1 _ _ _ _ _ _ _⟩
set_option maxHeartbeats 2000000 in
theorem line_op_no {D : Nat} {l : List Tk} {i q : Nat} {kd : Int} {tx : ByteArray} {nn ln : Int} (q0 : (tx.toList == [115, 101, 116]) = false) (q1 : (tx.toList == [99, 111, 117, 110, 116]) = false) (q2 : (tx.toList == [110, 111, 116, 101]) = false) (q3 : (tx.toList == [114, 117, 108, 101]) = false) (q4 : (tx.toList == [111, 112]) = true) (hn : Up 95 [] D l i q) : Up 86 [.agg #[.int .i64 kd, .string tx, .int .i64 nn, .int .i64 ln]] D l i q := by
 have HN := hide hn
 generalize lnU l q = y at *
 clear hn
 intro w hr
 have bq0 := bel1 w (.cells #[.int .i64 kd, .string tx, .int .i64 nn, .int .i64 ln] 129)
 have bq1 := bel1 (w.alloc (.cells #[.int .i64 kd, .string tx, .int .i64 nn, .int .i64 ln] 129)) (.cells #[.int .i64 0, .bool false, .string ⟨#[]⟩, .string ⟨#[]⟩, .int .i64 0, .slice none 0 0, .int .i64 0] 38)
 have hsz : (w.alloc (.cells #[.int .i64 kd, .string tx, .int .i64 nn, .int .i64 ln] 129)).heap.size = w.heap.size + 1 := by first | rfl | simp
 have HT : Hid (BX ((w.alloc (.cells #[.int .i64 kd, .string tx, .int .i64 nn, .int .i64 ln] 129)).alloc (.cells #[.int .i64 0, .bool false, .string ⟨#[]⟩, .string ⟨#[]⟩, .int .i64 0, .slice none 0 0, .int .i64 0] 38)) w.heap.size #[.int .i64 kd, .string tx, .int .i64 nn, .int .i64 ln] 129) := (BX.new w _ rfl _ _).below bq1
 have HG : Hid (BX ((w.alloc (.cells #[.int .i64 kd, .string tx, .int .i64 nn, .int .i64 ln] 129)).alloc (.cells #[.int .i64 0, .bool false, .string ⟨#[]⟩, .string ⟨#[]⟩, .int .i64 0, .slice none 0 0, .int .i64 0] 38)) (w.heap.size + 1) #[.int .i64 0, .bool false, .string ⟨#[]⟩, .string ⟨#[]⟩, .int .i64 0, .slice none 0 0, .int .i64 0] 38) := BX.new (w.alloc (.cells #[.int .i64 kd, .string tx, .int .i64 nn, .int .i64 ln] 129)) _ hsz.symm _ _
 have HB : Hid (GB D w ((w.alloc (.cells #[.int .i64 kd, .string tx, .int .i64 nn, .int .i64 ln] 129)).alloc (.cells #[.int .i64 0, .bool false, .string ⟨#[]⟩, .string ⟨#[]⟩, .int .i64 0, .slice none 0 0, .int .i64 0] 38))) := (GB.below D bq0).next bq1
 have HR := hide ((hr.below bq0).below bq1)
 have hD := hr.size
 clear hr
 clear bq0 bq1 hsz
 obtain ⟨g2, hg2⟩ : ∃ g, w.heap.size = g := ⟨_, rfl⟩
 obtain ⟨g, hg⟩ : ∃ g, g2 + 1 = g := ⟨_, rfl⟩
 have hgD : D < g := by omega
 have hne : g ≠ D := by omega
 have hne2 : g2 ≠ D := by omega
 go_enter Tryz.func86, Tryz.ntmps86
 go_upto_region 1 with fail
 rw [hg2, hg] at HG
 rw [hg2] at HT
 try rw [hg]
 have hg1 : w.heap.size ≤ g := by omega
 generalize (w.alloc (.cells #[.int .i64 kd, .string tx, .int .i64 nn, .int .i64 ln] 129)).alloc (.cells #[.int .i64 0, .bool false, .string ⟨#[]⟩, .string ⟨#[]⟩, .int .i64 0, .slice none 0 0, .int .i64 0] 38) = w1 at *
 have t1 := HT.out.cell 1 _ rfl
 have t3 := HT.out.cell 3 _ rfl
 go_wp2_with (go_at_call 95; refine (HN.out _ HR.out).mono ?_; rintro e w2 ⟨rfl, hb2⟩; replace HB := hide (HB.out.trans hb2); clear hb2)
 exact ⟨rfl, rfl, HB.out⟩
set_option maxHeartbeats 2000000 in
theorem line_none {D : Nat} {l : List Tk} {kd : Int} {tx : ByteArray} {nn ln : Int} (ht : l[0]? = some (kd, tx, nn, ln)) (q0 : (tx.toList == [115, 101, 116]) = false) (q1 : (tx.toList == [99, 111, 117, 110, 116]) = false) (q2 : (tx.toList == [110, 111, 116, 101]) = false) (q3 : (tx.toList == [114, 117, 108, 101]) = false) (q4 : (tx.toList == [111, 112]) = false) : Up 86 [.agg #[.int .i64 kd, .string tx, .int .i64 nn, .int .i64 ln]] D l 1 0 := by
 have HL : Hid (lnU l 0 = ln) := lnU_at ht
 clear ht
 intro w hr
 rw [HL.out]
 have bq0 := bel1 w (.cells #[.int .i64 kd, .string tx, .int .i64 nn, .int .i64 ln] 129)
 have bq1 := bel1 (w.alloc (.cells #[.int .i64 kd, .string tx, .int .i64 nn, .int .i64 ln] 129)) (.cells #[.int .i64 0, .bool false, .string ⟨#[]⟩, .string ⟨#[]⟩, .int .i64 0, .slice none 0 0, .int .i64 0] 38)
 have hsz : (w.alloc (.cells #[.int .i64 kd, .string tx, .int .i64 nn, .int .i64 ln] 129)).heap.size = w.heap.size + 1 := by first | rfl | simp
 have HT : Hid (BX ((w.alloc (.cells #[.int .i64 kd, .string tx, .int .i64 nn, .int .i64 ln] 129)).alloc (.cells #[.int .i64 0, .bool false, .string ⟨#[]⟩, .string ⟨#[]⟩, .int .i64 0, .slice none 0 0, .int .i64 0] 38)) w.heap.size #[.int .i64 kd, .string tx, .int .i64 nn, .int .i64 ln] 129) := (BX.new w _ rfl _ _).below bq1
 have HG : Hid (BX ((w.alloc (.cells #[.int .i64 kd, .string tx, .int .i64 nn, .int .i64 ln] 129)).alloc (.cells #[.int .i64 0, .bool false, .string ⟨#[]⟩, .string ⟨#[]⟩, .int .i64 0, .slice none 0 0, .int .i64 0] 38)) (w.heap.size + 1) #[.int .i64 0, .bool false, .string ⟨#[]⟩, .string ⟨#[]⟩, .int .i64 0, .slice none 0 0, .int .i64 0] 38) := BX.new (w.alloc (.cells #[.int .i64 kd, .string tx, .int .i64 nn, .int .i64 ln] 129)) _ hsz.symm _ _
 have HB : Hid (GB D w ((w.alloc (.cells #[.int .i64 kd, .string tx, .int .i64 nn, .int .i64 ln] 129)).alloc (.cells #[.int .i64 0, .bool false, .string ⟨#[]⟩, .string ⟨#[]⟩, .int .i64 0, .slice none 0 0, .int .i64 0] 38))) := (GB.below D bq0).next bq1
 have HR := hide ((hr.below bq0).below bq1)
 have hD := hr.size
 clear hr
 clear bq0 bq1 hsz
 obtain ⟨g2, hg2⟩ : ∃ g, w.heap.size = g := ⟨_, rfl⟩
 obtain ⟨g, hg⟩ : ∃ g, g2 + 1 = g := ⟨_, rfl⟩
 have hgD : D < g := by omega
 have hne : g ≠ D := by omega
 have hne2 : g2 ≠ D := by omega
 go_enter Tryz.func86, Tryz.ntmps86
 go_upto_region 1 with fail
 rw [hg2, hg] at HG
 rw [hg2] at HT
 try rw [hg]
 have hg1 : w.heap.size ≤ g := by omega
 generalize (w.alloc (.cells #[.int .i64 kd, .string tx, .int .i64 nn, .int .i64 ln] 129)).alloc (.cells #[.int .i64 0, .bool false, .string ⟨#[]⟩, .string ⟨#[]⟩, .int .i64 0, .slice none 0 0, .int .i64 0] 38) = w1 at *
 have t1 := HT.out.cell 1 _ rfl
 have t3 := HT.out.cell 3 _ rfl
 go_wp2
 exact ⟨rfl, rfl, HB.out⟩
theorem line15P {D : Nat} {l : List Tk} {m : Nat} (hL : Ln l m) (h1 : 1 ≤ m) {kd : Int} {tx : ByteArray} {nn ln : Int} (ht : l[0]? = some (kd, tx, nn, ln)) {d : Dc} {at' : Nat} {ok : Bool} (hr : dclU l = (d, at', ok)) : (ok = true ∧ GvD 86 [.agg #[.int .i64 kd, .string tx, .int .i64 nn, .int .i64 ln]] D l 1 at' d) ∨ ((ok = false ∨ at' ≠ m) ∧ Up 86 [.agg #[.int .i64 kd, .string tx, .int .i64 nn, .int .i64 ln]] D l 1 at') := by
 obtain ⟨kd', tx', nn', ln', ht', e0⟩ := hL.get (Nat.zero_le m)
 rw [ht] at ht'
 cases ht'
 obtain ⟨u1, hu1⟩ := hL.1 1 h1
 obtain ⟨k1, st, nm, ot, n1, ds, l0⟩ := d
 have q0 : (tx.toList == [115, 101, 116]) = decide (tx = ⟨#[115, 101, 116]⟩) := by
  have q := eqK tx ⟨#[115, 101, 116]⟩
  rw [ByteArray.toList_eq ⟨#[115, 101, 116]⟩] at q
  exact q
 by_cases h0 : tx = ⟨#[115, 101, 116]⟩
 ·rw [decide_eq_true h0] at q0
  have e1 : thL[0]? = some (txtU l 0) := by rw [e0, h0]; decide
  rcases hn : namU l 1 with _ | _
  ·rw [dcl_th0 (th_mem e1).1 hn] at hr
   cases hr
   exact .inr ⟨.inl rfl, line_set_no q0 (thing_no (D := D) 1 hu1 hn)⟩
  ·rw [dcl_th1 e1 hn] at hr
   cases hr
   exact .inl ⟨rfl, line_set_ok q0 (Gv.flat rfl (thing_ok (D := D) 1 hn))⟩
 rw [decide_eq_false h0] at q0
 have q1 : (tx.toList == [99, 111, 117, 110, 116]) = decide (tx = ⟨#[99, 111, 117, 110, 116]⟩) := by
  have q := eqK tx ⟨#[99, 111, 117, 110, 116]⟩
  rw [ByteArray.toList_eq ⟨#[99, 111, 117, 110, 116]⟩] at q
  exact q
 by_cases h1' : tx = ⟨#[99, 111, 117, 110, 116]⟩
 ·rw [decide_eq_true h1'] at q1
  have e1 : thL[1]? = some (txtU l 0) := by rw [e0, h1']; decide
  rcases hn : namU l 1 with _ | _
  ·rw [dcl_th0 (th_mem e1).1 hn] at hr
   cases hr
   exact .inr ⟨.inl rfl, line_count_no q0 q1 (thing_no (D := D) 2 hu1 hn)⟩
  ·rw [dcl_th1 e1 hn] at hr
   cases hr
   exact .inl ⟨rfl, line_count_ok q0 q1 (Gv.flat rfl (thing_ok (D := D) 2 hn))⟩
 rw [decide_eq_false h1'] at q1
 have q2 : (tx.toList == [110, 111, 116, 101]) = decide (tx = ⟨#[110, 111, 116, 101]⟩) := by
  have q := eqK tx ⟨#[110, 111, 116, 101]⟩
  rw [ByteArray.toList_eq ⟨#[110, 111, 116, 101]⟩] at q
  exact q
 by_cases h2 : tx = ⟨#[110, 111, 116, 101]⟩
 ·rw [decide_eq_true h2] at q2
  have e1 : thL[2]? = some (txtU l 0) := by rw [e0, h2]; decide
  rcases hn : namU l 1 with _ | _
  ·rw [dcl_th0 (th_mem e1).1 hn] at hr
   cases hr
   exact .inr ⟨.inl rfl, line_note_no q0 q1 q2 (thing_no (D := D) 3 hu1 hn)⟩
  ·rw [dcl_th1 e1 hn] at hr
   cases hr
   exact .inl ⟨rfl, line_note_ok q0 q1 q2 (Gv.flat rfl (thing_ok (D := D) 3 hn))⟩
 rw [decide_eq_false h2] at q2
 have q3 : (tx.toList == [114, 117, 108, 101]) = decide (tx = ⟨#[114, 117, 108, 101]⟩) := by
  have q := eqK tx ⟨#[114, 117, 108, 101]⟩
  rw [ByteArray.toList_eq ⟨#[114, 117, 108, 101]⟩] at q
  exact q
 by_cases h3 : tx = ⟨#[114, 117, 108, 101]⟩
 ·rw [decide_eq_true h3] at q3
  rcases hst : decide (txtU l 1 = ⟨#[115, 116, 114, 105, 99, 116]⟩) with _ | _
  all_goals
   rw [dcl_rl (by rw [e0, h3]) _ hst] at hr
   rcases rule15P (D := D) hL h1 _ hst hr with ⟨rfl, hd, hn⟩ | ⟨rfl, hn⟩
   ·exact .inl ⟨rfl, line_rule_ok q0 q1 q2 q3 (Gv.flat hd hn)⟩
   ·exact .inr ⟨.inl rfl, line_rule_no q0 q1 q2 q3 hn⟩
 rw [decide_eq_false h3] at q3
 have q4 : (tx.toList == [111, 112]) = decide (tx = ⟨#[111, 112]⟩) := by
  have q := eqK tx ⟨#[111, 112]⟩
  rw [ByteArray.toList_eq ⟨#[111, 112]⟩] at q
  exact q
 by_cases h4 : tx = ⟨#[111, 112]⟩
 ·rw [decide_eq_true h4] at q4
  rw [dcl_op (by rw [e0, h4])] at hr
  rcases oper15P (D := D) hL h1 hr with ⟨rfl, hn⟩ | ⟨hq, hn⟩
  ·exact .inl ⟨rfl, line_op_ok q0 q1 q2 q3 q4 hn⟩
  ·exact .inr ⟨hq, line_op_no q0 q1 q2 q3 q4 hn⟩
 rw [decide_eq_false h4] at q4
 rw [dcl_no (by rw [e0]; rintro (h | h | h); exact h0 h; exact h1' h; exact h2 h) (by rw [e0]; exact h4) (by rw [e0]; exact h3)] at hr
 cases hr
 exact .inr ⟨.inl rfl, line_none ht q0 q1 q2 q3 q4⟩
theorem ends15 (kd : Int) (tx : ByteArray) (nn ln : Int) (w : World) : Calls Tryz.prog 85 #[.agg #[.int .i64 kd, .string tx, .int .i64 nn, .int .i64 ln]] w fun e w' => e = .returned (.bool (decide (kd = 5 ∨ kd = 0))) ∧ Below w.heap.size w w' := by
 have HB := hide (bel1 w (.cells #[.int .i64 kd, .string tx, .int .i64 nn, .int .i64 ln] 129))
 have HT : Hid (BX (w.alloc (.cells #[.int .i64 kd, .string tx, .int .i64 nn, .int .i64 ln] 129)) w.heap.size #[.int .i64 kd, .string tx, .int .i64 nn, .int .i64 ln] 129) := BX.new w _ rfl _ _
 by_cases h5 : kd = 5
 ·have e : decide (kd = 5 ∨ kd = 0) = true := by rw [h5]; decide
  rw [e]
  subst h5
  clear e
  go_enter Tryz.func85, Tryz.ntmps85
  go_upto_region 1 with fail
  have t0 := HT.out.cell 0 _ rfl
  go_wp2
  go_ret
  exact ⟨rfl, HB.out⟩
 by_cases h0 : kd = 0
 ·have e : decide (kd = 5 ∨ kd = 0) = true := by rw [h0]; decide
  rw [e]
  have b5 : (kd == 5) = false := by simpa using h5
  subst h0
  clear e h5
  go_enter Tryz.func85, Tryz.ntmps85
  go_upto_region 1 with fail
  have t0 := HT.out.cell 0 _ rfl
  go_wp2
  go_ret
  exact ⟨rfl, HB.out⟩
 have e : decide (kd = 5 ∨ kd = 0) = false := by rw [decide_eq_false_iff_not]; rintro (h | h); exact h5 h; exact h0 h
 rw [e]
 have b5 : (kd == 5) = false := by simpa using h5
 have b0 : (kd == 0) = false := by simpa using h0
 clear e h5 h0
 go_enter Tryz.func85, Tryz.ntmps85
 go_upto_region 1 with fail
 have t0 := HT.out.cell 0 _ rfl
 go_wp2
 go_ret
 exact ⟨rfl, HB.out⟩
end Go.Proofs.YtomppblgalepjaaGreatDoor

