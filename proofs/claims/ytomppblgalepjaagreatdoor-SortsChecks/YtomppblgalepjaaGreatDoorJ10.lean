/- Texts of this claim, joined: NR3. -/
import Derived.Test.YtomppblgalepjaaGreatDoorJ9
/- The program's reader of lines: what a clause's word, and a deed's, is followed by (layer 15). -/
namespace Go.Proofs.YtomppblgalepjaaGreatDoor
open Go.RowKit Go.Lib
set_option linter.unusedVariables false
set_option maxHeartbeats 2000000 in
theorem clause_ref_ok {D : Nat} {l : List Tk} {i p : Nat} {kd : Int} {tx : ByteArray} {nn ln : Int} (q0 : (tx.toList == [114, 101, 102]) = true) {nm ot : ByteArray} {n2 : Int} (hn : Gv 107 [.int .i64 4] D l i p (.agg #[.int .i64 4, .bool false, .string nm, .string ot, .int .i64 n2, .slice none 0 0, .int .i64 0])) : Gv 102 [.agg #[.int .i64 kd, .string tx, .int .i64 nn, .int .i64 ln]] D l i p (.agg #[.int .i64 4, .bool false, .string nm, .string ot, .int .i64 n2, .slice none 0 0, .int .i64 0]) := by
 have HN := hide hn
 clear hn
 intro w hr
 have bq0 := bel1 w (.cells #[.int .i64 kd, .string tx, .int .i64 nn, .int .i64 ln] 129)
 have bq1 := bel1 (w.alloc (.cells #[.int .i64 kd, .string tx, .int .i64 nn, .int .i64 ln] 129)) (.cells #[.int .i64 0, .bool false, .string ⟨#[]⟩, .string ⟨#[]⟩, .int .i64 0, .slice none 0 0, .int .i64 0] 38)
 have hsz : (w.alloc (.cells #[.int .i64 kd, .string tx, .int .i64 nn, .int .i64 ln] 129)).heap.size = w.heap.size + 1 := by first | rfl | simp
 have HT : Hid (BX ((w.alloc (.cells #[.int .i64 kd, .string tx, .int .i64 nn, .int .i64 ln] 129)).alloc (.cells #[.int .i64 0, .bool false, .string ⟨#[]⟩, .string ⟨#[]⟩, .int .i64 0, .slice none 0 0, .int .i64 0] 38)) w.heap.size #[.int .i64 kd, .string tx, .int .i64 nn, .int .i64 ln] 129) := (BX.new w _ rfl _ _).below bq1
 have HG : Hid (BX ((w.alloc (.cells #[.int .i64 kd, .string tx, .int .i64 nn, .int .i64 ln] 129)).alloc (.cells #[.int .i64 0, .bool false, .string ⟨#[]⟩, .string ⟨#[]⟩, .int .i64 0, .slice none 0 0, .int .i64 0] 38)) (w.heap.size + 1) #[.int .i64 0, .bool false, .string ⟨#[]⟩, .string ⟨#[]⟩, .int .i64 0, .slice none 0 0, .int .i64 0] 38) := BX.new (w.alloc (.cells #[.int .i64 kd, .string tx, .int .i64 nn, .int .i64 ln] 129)) _ hsz.symm _ _
 have HB : Hid (GB D w ((w.alloc (.cells #[.int .i64 kd, .string tx, .int .i64 nn, .int .i64 ln] 129)).alloc (.cells #[.int .i64 0, .bool false, .string ⟨#[]⟩, .string ⟨#[]⟩, .int .i64 0, .slice none 0 0, .int .i64 0] 38))) := (GB.below D bq0).next bq1
 have HR := hide ((hr.below bq0).below bq1)
 have hD := hr.size
 clear hr
 clear bq0 bq1 hsz
 obtain ⟨g2, hg2⟩ : ∃ g, w.heap.size = g := ⟨_, rfl⟩
 obtain ⟨g, hg⟩ : ∃ g, g2 + 1 = g := ⟨_, rfl⟩
 have hgD : D < g := by omega
 have hne : g ≠ D := by omega
 have hne2 : g2 ≠ D := by omega
 go_enter Tryz.func102, Tryz.ntmps102
 go_upto_region 1 with fail
 rw [hg2, hg] at HG
 rw [hg2] at HT
 try rw [hg]
 have hg1 : w.heap.size ≤ g := by omega
 generalize (w.alloc (.cells #[.int .i64 kd, .string tx, .int .i64 nn, .int .i64 ln] 129)).alloc (.cells #[.int .i64 0, .bool false, .string ⟨#[]⟩, .string ⟨#[]⟩, .int .i64 0, .slice none 0 0, .int .i64 0] 38) = w1 at *
 have t1 := HT.out.cell 1 _ rfl
 have t3 := HT.out.cell 3 _ rfl
 go_wp2_with (go_at_call 107; refine (HN.out _ HR.out).mono ?_; rintro e w2 ⟨rfl, hr2, hb2⟩; replace HR := hide hr2; replace HB := hide (HB.out.trans hb2); replace HG := hide (HG.out.gb hb2 hne); clear hr2 hb2; have z0 := HG.out.cell 0 _ rfl; have y0 := HG.out.free 0; have z1 := HG.out.cell 1 _ rfl; have y1 := HG.out.free 1; have z2 := HG.out.cell 2 _ rfl; have y2 := HG.out.free 2; have z3 := HG.out.cell 3 _ rfl; have y3 := HG.out.free 3; have z4 := HG.out.cell 4 _ rfl; have y4 := HG.out.free 4; have z5 := HG.out.cell 5 _ rfl; have y5 := HG.out.free 5; have z6 := HG.out.cell 6 _ rfl; have y6 := HG.out.free 6)
 refine bodyPost_ret (results_cell_row rfl _ _ _ _ _ _ _ rfl (HG.out.put7 _ _ _ _ _ _ _).1 Tryz.underlying38 rfl Tryz.sizeDc) rfl ?_
 exact ⟨rfl, HR.out.put7 hgD _ _ _ _ _ _ _, HB.out.put7 hg1 _ _ _ _ _ _ _⟩
set_option maxHeartbeats 2000000 in
theorem clause_ref_no {D : Nat} {l : List Tk} {i p : Nat} {kd : Int} {tx : ByteArray} {nn ln : Int} (q0 : (tx.toList == [114, 101, 102]) = true) (hn : Up 107 [.int .i64 4] D l i p) : Up 102 [.agg #[.int .i64 kd, .string tx, .int .i64 nn, .int .i64 ln]] D l i p := by
 have HN := hide hn
 generalize lnU l p = y at *
 clear hn
 intro w hr
 have bq0 := bel1 w (.cells #[.int .i64 kd, .string tx, .int .i64 nn, .int .i64 ln] 129)
 have bq1 := bel1 (w.alloc (.cells #[.int .i64 kd, .string tx, .int .i64 nn, .int .i64 ln] 129)) (.cells #[.int .i64 0, .bool false, .string ⟨#[]⟩, .string ⟨#[]⟩, .int .i64 0, .slice none 0 0, .int .i64 0] 38)
 have hsz : (w.alloc (.cells #[.int .i64 kd, .string tx, .int .i64 nn, .int .i64 ln] 129)).heap.size = w.heap.size + 1 := by first | rfl | simp
 have HT : Hid (BX ((w.alloc (.cells #[.int .i64 kd, .string tx, .int .i64 nn, .int .i64 ln] 129)).alloc (.cells #[.int .i64 0, .bool false, .string ⟨#[]⟩, .string ⟨#[]⟩, .int .i64 0, .slice none 0 0, .int .i64 0] 38)) w.heap.size #[.int .i64 kd, .string tx, .int .i64 nn, .int .i64 ln] 129) := (BX.new w _ rfl _ _).below bq1
 have HG : Hid (BX ((w.alloc (.cells #[.int .i64 kd, .string tx, .int .i64 nn, .int .i64 ln] 129)).alloc (.cells #[.int .i64 0, .bool false, .string ⟨#[]⟩, .string ⟨#[]⟩, .int .i64 0, .slice none 0 0, .int .i64 0] 38)) (w.heap.size + 1) #[.int .i64 0, .bool false, .string ⟨#[]⟩, .string ⟨#[]⟩, .int .i64 0, .slice none 0 0, .int .i64 0] 38) := BX.new (w.alloc (.cells #[.int .i64 kd, .string tx, .int .i64 nn, .int .i64 ln] 129)) _ hsz.symm _ _
 have HB : Hid (GB D w ((w.alloc (.cells #[.int .i64 kd, .string tx, .int .i64 nn, .int .i64 ln] 129)).alloc (.cells #[.int .i64 0, .bool false, .string ⟨#[]⟩, .string ⟨#[]⟩, .int .i64 0, .slice none 0 0, .int .i64 0] 38))) := (GB.below D bq0).next bq1
 have HR := hide ((hr.below bq0).below bq1)
 have hD := hr.size
 clear hr
 clear bq0 bq1 hsz
 obtain ⟨g2, hg2⟩ : ∃ g, w.heap.size = g := ⟨_, rfl⟩
 obtain ⟨g, hg⟩ : ∃ g, g2 + 1 = g := ⟨_, rfl⟩
 have hgD : D < g := by omega
 have hne : g ≠ D := by omega
 have hne2 : g2 ≠ D := by omega
 go_enter Tryz.func102, Tryz.ntmps102
 go_upto_region 1 with fail
 rw [hg2, hg] at HG
 rw [hg2] at HT
 try rw [hg]
 have hg1 : w.heap.size ≤ g := by omega
 generalize (w.alloc (.cells #[.int .i64 kd, .string tx, .int .i64 nn, .int .i64 ln] 129)).alloc (.cells #[.int .i64 0, .bool false, .string ⟨#[]⟩, .string ⟨#[]⟩, .int .i64 0, .slice none 0 0, .int .i64 0] 38) = w1 at *
 have t1 := HT.out.cell 1 _ rfl
 have t3 := HT.out.cell 3 _ rfl
 go_wp2_with (go_at_call 107; refine (HN.out _ HR.out).mono ?_; rintro e w2 ⟨rfl, hb2⟩; replace HB := hide (HB.out.trans hb2); clear hb2)
 exact ⟨rfl, rfl, HB.out⟩
set_option maxHeartbeats 2000000 in
theorem clause_both_ok {D : Nat} {l : List Tk} {i p : Nat} {kd : Int} {tx : ByteArray} {nn ln : Int} (q0 : (tx.toList == [114, 101, 102]) = false) (q1 : (tx.toList == [98, 111, 116, 104]) = true) {nm ot : ByteArray} {n2 : Int} (hn : Gv 107 [.int .i64 5] D l i p (.agg #[.int .i64 5, .bool false, .string nm, .string ot, .int .i64 n2, .slice none 0 0, .int .i64 0])) : Gv 102 [.agg #[.int .i64 kd, .string tx, .int .i64 nn, .int .i64 ln]] D l i p (.agg #[.int .i64 5, .bool false, .string nm, .string ot, .int .i64 n2, .slice none 0 0, .int .i64 0]) := by
 have HN := hide hn
 clear hn
 intro w hr
 have bq0 := bel1 w (.cells #[.int .i64 kd, .string tx, .int .i64 nn, .int .i64 ln] 129)
 have bq1 := bel1 (w.alloc (.cells #[.int .i64 kd, .string tx, .int .i64 nn, .int .i64 ln] 129)) (.cells #[.int .i64 0, .bool false, .string ⟨#[]⟩, .string ⟨#[]⟩, .int .i64 0, .slice none 0 0, .int .i64 0] 38)
 have hsz : (w.alloc (.cells #[.int .i64 kd, .string tx, .int .i64 nn, .int .i64 ln] 129)).heap.size = w.heap.size + 1 := by first | rfl | simp
 have HT : Hid (BX ((w.alloc (.cells #[.int .i64 kd, .string tx, .int .i64 nn, .int .i64 ln] 129)).alloc (.cells #[.int .i64 0, .bool false, .string ⟨#[]⟩, .string ⟨#[]⟩, .int .i64 0, .slice none 0 0, .int .i64 0] 38)) w.heap.size #[.int .i64 kd, .string tx, .int .i64 nn, .int .i64 ln] 129) := (BX.new w _ rfl _ _).below bq1
 have HG : Hid (BX ((w.alloc (.cells #[.int .i64 kd, .string tx, .int .i64 nn, .int .i64 ln] 129)).alloc (.cells #[.int .i64 0, .bool false, .string ⟨#[]⟩, .string ⟨#[]⟩, .int .i64 0, .slice none 0 0, .int .i64 0] 38)) (w.heap.size + 1) #[.int .i64 0, .bool false, .string ⟨#[]⟩, .string ⟨#[]⟩, .int .i64 0, .slice none 0 0, .int .i64 0] 38) := BX.new (w.alloc (.cells #[.int .i64 kd, .string tx, .int .i64 nn, .int .i64 ln] 129)) _ hsz.symm _ _
 have HB : Hid (GB D w ((w.alloc (.cells #[.int .i64 kd, .string tx, .int .i64 nn, .int .i64 ln] 129)).alloc (.cells #[.int .i64 0, .bool false, .string ⟨#[]⟩, .string ⟨#[]⟩, .int .i64 0, .slice none 0 0, .int .i64 0] 38))) := (GB.below D bq0).next bq1
 have HR := hide ((hr.below bq0).below bq1)
 have hD := hr.size
 clear hr
 clear bq0 bq1 hsz
 obtain ⟨g2, hg2⟩ : ∃ g, w.heap.size = g := ⟨_, rfl⟩
 obtain ⟨g, hg⟩ : ∃ g, g2 + 1 = g := ⟨_, rfl⟩
 have hgD : D < g := by omega
 have hne : g ≠ D := by omega
 have hne2 : g2 ≠ D := by omega
 go_enter Tryz.func102, Tryz.ntmps102
 go_upto_region 1 with fail
 rw [hg2, hg] at HG
 rw [hg2] at HT
 try rw [hg]
 have hg1 : w.heap.size ≤ g := by omega
 generalize (w.alloc (.cells #[.int .i64 kd, .string tx, .int .i64 nn, .int .i64 ln] 129)).alloc (.cells #[.int .i64 0, .bool false, .string ⟨#[]⟩, .string ⟨#[]⟩, .int .i64 0, .slice none 0 0, .int .i64 0] 38) = w1 at *
 have t1 := HT.out.cell 1 _ rfl
 have t3 := HT.out.cell 3 _ rfl
 go_wp2_with (go_at_call 107; refine (HN.out _ HR.out).mono ?_; rintro e w2 ⟨rfl, hr2, hb2⟩; replace HR := hide hr2; replace HB := hide (HB.out.trans hb2); replace HG := hide (HG.out.gb hb2 hne); clear hr2 hb2; have z0 := HG.out.cell 0 _ rfl; have y0 := HG.out.free 0; have z1 := HG.out.cell 1 _ rfl; have y1 := HG.out.free 1; have z2 := HG.out.cell 2 _ rfl; have y2 := HG.out.free 2; have z3 := HG.out.cell 3 _ rfl; have y3 := HG.out.free 3; have z4 := HG.out.cell 4 _ rfl; have y4 := HG.out.free 4; have z5 := HG.out.cell 5 _ rfl; have y5 := HG.out.free 5; have z6 := HG.out.cell 6 _ rfl; have y6 := HG.out.free 6)
 refine bodyPost_ret (results_cell_row rfl _ _ _ _ _ _ _ rfl (HG.out.put7 _ _ _ _ _ _ _).1 Tryz.underlying38 rfl Tryz.sizeDc) rfl ?_
 exact ⟨rfl, HR.out.put7 hgD _ _ _ _ _ _ _, HB.out.put7 hg1 _ _ _ _ _ _ _⟩
set_option maxHeartbeats 2000000 in
theorem clause_both_no {D : Nat} {l : List Tk} {i p : Nat} {kd : Int} {tx : ByteArray} {nn ln : Int} (q0 : (tx.toList == [114, 101, 102]) = false) (q1 : (tx.toList == [98, 111, 116, 104]) = true) (hn : Up 107 [.int .i64 5] D l i p) : Up 102 [.agg #[.int .i64 kd, .string tx, .int .i64 nn, .int .i64 ln]] D l i p := by
 have HN := hide hn
 generalize lnU l p = y at *
 clear hn
 intro w hr
 have bq0 := bel1 w (.cells #[.int .i64 kd, .string tx, .int .i64 nn, .int .i64 ln] 129)
 have bq1 := bel1 (w.alloc (.cells #[.int .i64 kd, .string tx, .int .i64 nn, .int .i64 ln] 129)) (.cells #[.int .i64 0, .bool false, .string ⟨#[]⟩, .string ⟨#[]⟩, .int .i64 0, .slice none 0 0, .int .i64 0] 38)
 have hsz : (w.alloc (.cells #[.int .i64 kd, .string tx, .int .i64 nn, .int .i64 ln] 129)).heap.size = w.heap.size + 1 := by first | rfl | simp
 have HT : Hid (BX ((w.alloc (.cells #[.int .i64 kd, .string tx, .int .i64 nn, .int .i64 ln] 129)).alloc (.cells #[.int .i64 0, .bool false, .string ⟨#[]⟩, .string ⟨#[]⟩, .int .i64 0, .slice none 0 0, .int .i64 0] 38)) w.heap.size #[.int .i64 kd, .string tx, .int .i64 nn, .int .i64 ln] 129) := (BX.new w _ rfl _ _).below bq1
 have HG : Hid (BX ((w.alloc (.cells #[.int .i64 kd, .string tx, .int .i64 nn, .int .i64 ln] 129)).alloc (.cells #[.int .i64 0, .bool false, .string ⟨#[]⟩, .string ⟨#[]⟩, .int .i64 0, .slice none 0 0, .int .i64 0] 38)) (w.heap.size + 1) #[.int .i64 0, .bool false, .string ⟨#[]⟩, .string ⟨#[]⟩, .int .i64 0, .slice none 0 0, .int .i64 0] 38) := BX.new (w.alloc (.cells #[.int .i64 kd, .string tx, .int .i64 nn, .int .i64 ln] 129)) _ hsz.symm _ _
 have HB : Hid (GB D w ((w.alloc (.cells #[.int .i64 kd, .string tx, .int .i64 nn, .int .i64 ln] 129)).alloc (.cells #[.int .i64 0, .bool false, .string ⟨#[]⟩, .string ⟨#[]⟩, .int .i64 0, .slice none 0 0, .int .i64 0] 38))) := (GB.below D bq0).next bq1
 have HR := hide ((hr.below bq0).below bq1)
 have hD := hr.size
 clear hr
 clear bq0 bq1 hsz
 obtain ⟨g2, hg2⟩ : ∃ g, w.heap.size = g := ⟨_, rfl⟩
 obtain ⟨g, hg⟩ : ∃ g, g2 + 1 = g := ⟨_, rfl⟩
 have hgD : D < g := by omega
 have hne : g ≠ D := by omega
 have hne2 : g2 ≠ D := by omega
 go_enter Tryz.func102, Tryz.ntmps102
 go_upto_region 1 with fail
 rw [hg2, hg] at HG
 rw [hg2] at HT
 try rw [hg]
 have hg1 : w.heap.size ≤ g := by omega
 generalize (w.alloc (.cells #[.int .i64 kd, .string tx, .int .i64 nn, .int .i64 ln] 129)).alloc (.cells #[.int .i64 0, .bool false, .string ⟨#[]⟩, .string ⟨#[]⟩, .int .i64 0, .slice none 0 0, .int .i64 0] 38) = w1 at *
 have t1 := HT.out.cell 1 _ rfl
 have t3 := HT.out.cell 3 _ rfl
 go_wp2_with (go_at_call 107; refine (HN.out _ HR.out).mono ?_; rintro e w2 ⟨rfl, hb2⟩; replace HB := hide (HB.out.trans hb2); clear hb2)
 exact ⟨rfl, rfl, HB.out⟩
set_option maxHeartbeats 2000000 in
theorem clause_needs_ok {D : Nat} {l : List Tk} {i p : Nat} {kd : Int} {tx : ByteArray} {nn ln : Int} (q0 : (tx.toList == [114, 101, 102]) = false) (q1 : (tx.toList == [98, 111, 116, 104]) = false) (q2 : (tx.toList == [110, 101, 101, 100, 115]) = true) {nm ot : ByteArray} {n2 : Int} (hn : Gv 107 [.int .i64 9] D l i p (.agg #[.int .i64 9, .bool false, .string nm, .string ot, .int .i64 n2, .slice none 0 0, .int .i64 0])) : Gv 102 [.agg #[.int .i64 kd, .string tx, .int .i64 nn, .int .i64 ln]] D l i p (.agg #[.int .i64 9, .bool false, .string nm, .string ot, .int .i64 n2, .slice none 0 0, .int .i64 0]) := by
 have HN := hide hn
 clear hn
 intro w hr
 have bq0 := bel1 w (.cells #[.int .i64 kd, .string tx, .int .i64 nn, .int .i64 ln] 129)
 have bq1 := bel1 (w.alloc (.cells #[.int .i64 kd, .string tx, .int .i64 nn, .int .i64 ln] 129)) (.cells #[.int .i64 0, .bool false, .string ⟨#[]⟩, .string ⟨#[]⟩, .int .i64 0, .slice none 0 0, .int .i64 0] 38)
 have hsz : (w.alloc (.cells #[.int .i64 kd, .string tx, .int .i64 nn, .int .i64 ln] 129)).heap.size = w.heap.size + 1 := by first | rfl | simp
 have HT : Hid (BX ((w.alloc (.cells #[.int .i64 kd, .string tx, .int .i64 nn, .int .i64 ln] 129)).alloc (.cells #[.int .i64 0, .bool false, .string ⟨#[]⟩, .string ⟨#[]⟩, .int .i64 0, .slice none 0 0, .int .i64 0] 38)) w.heap.size #[.int .i64 kd, .string tx, .int .i64 nn, .int .i64 ln] 129) := (BX.new w _ rfl _ _).below bq1
 have HG : Hid (BX ((w.alloc (.cells #[.int .i64 kd, .string tx, .int .i64 nn, .int .i64 ln] 129)).alloc (.cells #[.int .i64 0, .bool false, .string ⟨#[]⟩, .string ⟨#[]⟩, .int .i64 0, .slice none 0 0, .int .i64 0] 38)) (w.heap.size + 1) #[.int .i64 0, .bool false, .string ⟨#[]⟩, .string ⟨#[]⟩, .int .i64 0, .slice none 0 0, .int .i64 0] 38) := BX.new (w.alloc (.cells #[.int .i64 kd, .string tx, .int .i64 nn, .int .i64 ln] 129)) _ hsz.symm _ _
 have HB : Hid (GB D w ((w.alloc (.cells #[.int .i64 kd, .string tx, .int .i64 nn, .int .i64 ln] 129)).alloc (.cells #[.int .i64 0, .bool false, .string ⟨#[]⟩, .string ⟨#[]⟩, .int .i64 0, .slice none 0 0, .int .i64 0] 38))) := (GB.below D bq0).next bq1
 have HR := hide ((hr.below bq0).below bq1)
 have hD := hr.size
 clear hr
 clear bq0 bq1 hsz
 obtain ⟨g2, hg2⟩ : ∃ g, w.heap.size = g := ⟨_, rfl⟩
 obtain ⟨g, hg⟩ : ∃ g, g2 + 1 = g := ⟨_, rfl⟩
 have hgD : D < g := by omega
 have hne : g ≠ D := by omega
 have hne2 : g2 ≠ D := by omega
 go_enter Tryz.func102, Tryz.ntmps102
 go_upto_region 1 with fail
 rw [hg2, hg] at HG
 rw [hg2] at HT
 try rw [hg]
 have hg1 : w.heap.size ≤ g := by omega
 generalize (w.alloc (.cells #[.int .i64 kd, .string tx, .int .i64 nn, .int .i64 ln] 129)).alloc (.cells #[.int .i64 0, .bool false, .string ⟨#[]⟩, .string ⟨#[]⟩, .int .i64 0, .slice none 0 0, .int .i64 0] 38) = w1 at *
 have t1 := HT.out.cell 1 _ rfl
 have t3 := HT.out.cell 3 _ rfl
 go_wp2_with (go_at_call 107; refine (HN.out _ HR.out).mono ?_; rintro e w2 ⟨rfl, hr2, hb2⟩; replace HR := hide hr2; replace HB := hide (HB.out.trans hb2); replace HG := hide (HG.out.gb hb2 hne); clear hr2 hb2; have z0 := HG.out.cell 0 _ rfl; have y0 := HG.out.free 0; have z1 := HG.out.cell 1 _ rfl; have y1 := HG.out.free 1; have z2 := HG.out.cell 2 _ rfl; have y2 := HG.out.free 2; have z3 := HG.out.cell 3 _ rfl; have y3 := HG.out.free 3; have z4 := HG.out.cell 4 _ rfl; have y4 := HG.out.free 4; have z5 := HG.out.cell 5 _ rfl; have y5 := HG.out.free 5; have z6 := HG.out.cell 6 _ rfl; have y6 := HG.out.free 6)
 refine bodyPost_ret (results_cell_row rfl _ _ _ _ _ _ _ rfl (HG.out.put7 _ _ _ _ _ _ _).1 Tryz.underlying38 rfl Tryz.sizeDc) rfl ?_
 exact ⟨rfl, HR.out.put7 hgD _ _ _ _ _ _ _, HB.out.put7 hg1 _ _ _ _ _ _ _⟩
set_option maxHeartbeats 2000000 in
theorem clause_needs_no {D : Nat} {l : List Tk} {i p : Nat} {kd : Int} {tx : ByteArray} {nn ln : Int} (q0 : (tx.toList == [114, 101, 102]) = false) (q1 : (tx.toList == [98, 111, 116, 104]) = false) (q2 : (tx.toList == [110, 101, 101, 100, 115]) = true) (hn : Up 107 [.int .i64 9] D l i p) : Up 102 [.agg #[.int .i64 kd, .string tx, .int .i64 nn, .int .i64 ln]] D l i p := by
 have HN := hide hn
 generalize lnU l p = y at *
 clear hn
 intro w hr
 have bq0 := bel1 w (.cells #[.int .i64 kd, .string tx, .int .i64 nn, .int .i64 ln] 129)
 have bq1 := bel1 (w.alloc (.cells #[.int .i64 kd, .string tx, .int .i64 nn, .int .i64 ln] 129)) (.cells #[.int .i64 0, .bool false, .string ⟨#[]⟩, .string ⟨#[]⟩, .int .i64 0, .slice none 0 0, .int .i64 0] 38)
 have hsz : (w.alloc (.cells #[.int .i64 kd, .string tx, .int .i64 nn, .int .i64 ln] 129)).heap.size = w.heap.size + 1 := by first | rfl | simp
 have HT : Hid (BX ((w.alloc (.cells #[.int .i64 kd, .string tx, .int .i64 nn, .int .i64 ln] 129)).alloc (.cells #[.int .i64 0, .bool false, .string ⟨#[]⟩, .string ⟨#[]⟩, .int .i64 0, .slice none 0 0, .int .i64 0] 38)) w.heap.size #[.int .i64 kd, .string tx, .int .i64 nn, .int .i64 ln] 129) := (BX.new w _ rfl _ _).below bq1
 have HG : Hid (BX ((w.alloc (.cells #[.int .i64 kd, .string tx, .int .i64 nn, .int .i64 ln] 129)).alloc (.cells #[.int .i64 0, .bool false, .string ⟨#[]⟩, .string ⟨#[]⟩, .int .i64 0, .slice none 0 0, .int .i64 0] 38)) (w.heap.size + 1) #[.int .i64 0, .bool false, .string ⟨#[]⟩, .string ⟨#[]⟩, .int .i64 0, .slice none 0 0, .int .i64 0] 38) := BX.new (w.alloc (.cells #[.int .i64 kd, .string tx, .int .i64 nn, .int .i64 ln] 129)) _ hsz.symm _ _
 have HB : Hid (GB D w ((w.alloc (.cells #[.int .i64 kd, .string tx, .int .i64 nn, .int .i64 ln] 129)).alloc (.cells #[.int .i64 0, .bool false, .string ⟨#[]⟩, .string ⟨#[]⟩, .int .i64 0, .slice none 0 0, .int .i64 0] 38))) := (GB.below D bq0).next bq1
 have HR := hide ((hr.below bq0).below bq1)
 have hD := hr.size
 clear hr
 clear bq0 bq1 hsz
 obtain ⟨g2, hg2⟩ : ∃ g, w.heap.size = g := ⟨_, rfl⟩
 obtain ⟨g, hg⟩ : ∃ g, g2 + 1 = g := ⟨_, rfl⟩
 have hgD : D < g := by omega
 have hne : g ≠ D := by omega
 have hne2 : g2 ≠ D := by omega
 go_enter Tryz.func102, Tryz.ntmps102
 go_upto_region 1 with fail
 rw [hg2, hg] at HG
 rw [hg2] at HT
 try rw [hg]
 have hg1 : w.heap.size ≤ g := by omega
 generalize (w.alloc (.cells #[.int .i64 kd, .string tx, .int .i64 nn, .int .i64 ln] 129)).alloc (.cells #[.int .i64 0, .bool false, .string ⟨#[]⟩, .string ⟨#[]⟩, .int .i64 0, .slice none 0 0, .int .i64 0] 38) = w1 at *
 have t1 := HT.out.cell 1 _ rfl
 have t3 := HT.out.cell 3 _ rfl
 go_wp2_with (go_at_call 107; refine (HN.out _ HR.out).mono ?_; rintro e w2 ⟨rfl, hb2⟩; replace HB := hide (HB.out.trans hb2); clear hb2)
 exact ⟨rfl, rfl, HB.out⟩
set_option maxHeartbeats 2000000 in
theorem clause_limit_ok {D : Nat} {l : List Tk} {i p : Nat} {kd : Int} {tx : ByteArray} {nn ln : Int} (q0 : (tx.toList == [114, 101, 102]) = false) (q1 : (tx.toList == [98, 111, 116, 104]) = false) (q2 : (tx.toList == [110, 101, 101, 100, 115]) = false) (q3 : (tx.toList == [108, 105, 109, 105, 116]) = true) {nm ot : ByteArray} {n2 : Int} (hn : Gv 108 [.int .i64 6] D l i p (.agg #[.int .i64 6, .bool false, .string nm, .string ot, .int .i64 n2, .slice none 0 0, .int .i64 0])) : Gv 102 [.agg #[.int .i64 kd, .string tx, .int .i64 nn, .int .i64 ln]] D l i p (.agg #[.int .i64 6, .bool false, .string nm, .string ot, .int .i64 n2, .slice none 0 0, .int .i64 0]) := by
 have HN := hide hn
 clear hn
 intro w hr
 have bq0 := bel1 w (.cells #[.int .i64 kd, .string tx, .int .i64 nn, .int .i64 ln] 129)
 have bq1 := bel1 (w.alloc (.cells #[.int .i64 kd, .string tx, .int .i64 nn, .int .i64 ln] 129)) (.cells #[.int .i64 0, .bool false, .string ⟨#[]⟩, .string ⟨#[]⟩, .int .i64 0, .slice none 0 0, .int .i64 0] 38)
 have hsz : (w.alloc (.cells #[.int .i64 kd, .string tx, .int .i64 nn, .int .i64 ln] 129)).heap.size = w.heap.size + 1 := by first | rfl | simp
 have HT : Hid (BX ((w.alloc (.cells #[.int .i64 kd, .string tx, .int .i64 nn, .int .i64 ln] 129)).alloc (.cells #[.int .i64 0, .bool false, .string ⟨#[]⟩, .string ⟨#[]⟩, .int .i64 0, .slice none 0 0, .int .i64 0] 38)) w.heap.size #[.int .i64 kd, .string tx, .int .i64 nn, .int .i64 ln] 129) := (BX.new w _ rfl _ _).below bq1
 have HG : Hid (BX ((w.alloc (.cells #[.int .i64 kd, .string tx, .int .i64 nn, .int .i64 ln] 129)).alloc (.cells #[.int .i64 0, .bool false, .string ⟨#[]⟩, .string ⟨#[]⟩, .int .i64 0, .slice none 0 0, .int .i64 0] 38)) (w.heap.size + 1) #[.int .i64 0, .bool false, .string ⟨#[]⟩, .string ⟨#[]⟩, .int .i64 0, .slice none 0 0, .int .i64 0] 38) := BX.new (w.alloc (.cells #[.int .i64 kd, .string tx, .int .i64 nn, .int .i64 ln] 129)) _ hsz.symm _ _
 have HB : Hid (GB D w ((w.alloc (.cells #[.int .i64 kd, .string tx, .int .i64 nn, .int .i64 ln] 129)).alloc (.cells #[.int .i64 0, .bool false, .string ⟨#[]⟩, .string ⟨#[]⟩, .int .i64 0, .slice none 0 0, .int .i64 0] 38))) := (GB.below D bq0).next bq1
 have HR := hide ((hr.below bq0).below bq1)
 have hD := hr.size
 clear hr
 clear bq0 bq1 hsz
 obtain ⟨g2, hg2⟩ : ∃ g, w.heap.size = g := ⟨_, rfl⟩
 obtain ⟨g, hg⟩ : ∃ g, g2 + 1 = g := ⟨_, rfl⟩
 have hgD : D < g := by omega
 have hne : g ≠ D := by omega
 have hne2 : g2 ≠ D := by omega
 go_enter Tryz.func102, Tryz.ntmps102
 go_upto_region 1 with fail
 rw [hg2, hg] at HG
 rw [hg2] at HT
 try rw [hg]
 have hg1 : w.heap.size ≤ g := by omega
 generalize (w.alloc (.cells #[.int .i64 kd, .string tx, .int .i64 nn, .int .i64 ln] 129)).alloc (.cells #[.int .i64 0, .bool false, .string ⟨#[]⟩, .string ⟨#[]⟩, .int .i64 0, .slice none 0 0, .int .i64 0] 38) = w1 at *
 have t1 := HT.out.cell 1 _ rfl
 have t3 := HT.out.cell 3 _ rfl
 go_wp2_with (go_at_call 108; refine (HN.out _ HR.out).mono ?_; rintro e w2 ⟨rfl, hr2, hb2⟩; replace HR := hide hr2; replace HB := hide (HB.out.trans hb2); replace HG := hide (HG.out.gb hb2 hne); clear hr2 hb2; have z0 := HG.out.cell 0 _ rfl; have y0 := HG.out.free 0; have z1 := HG.out.cell 1 _ rfl; have y1 := HG.out.free 1; have z2 := HG.out.cell 2 _ rfl; have y2 := HG.out.free 2; have z3 := HG.out.cell 3 _ rfl; have y3 := HG.out.free 3; have z4 := HG.out.cell 4 _ rfl; have y4 := HG.out.free 4; have z5 := HG.out.cell 5 _ rfl; have y5 := HG.out.free 5; have z6 := HG.out.cell 6 _ rfl; have y6 := HG.out.free 6)
 refine bodyPost_ret (results_cell_row rfl _ _ _ _ _ _ _ rfl (HG.out.put7 _ _ _ _ _ _ _).1 Tryz.underlying38 rfl Tryz.sizeDc) rfl ?_
 exact ⟨rfl, HR.out.put7 hgD _ _ _ _ _ _ _, HB.out.put7 hg1 _ _ _ _ _ _ _⟩
set_option maxHeartbeats 2000000 in
theorem clause_limit_no {D : Nat} {l : List Tk} {i p : Nat} {kd : Int} {tx : ByteArray} {nn ln : Int} (q0 : (tx.toList == [114, 101, 102]) = false) (q1 : (tx.toList == [98, 111, 116, 104]) = false) (q2 : (tx.toList == [110, 101, 101, 100, 115]) = false) (q3 : (tx.toList == [108, 105, 109, 105, 116]) = true) (hn : Up 108 [.int .i64 6] D l i p) : Up 102 [.agg #[.int .i64 kd, .string tx, .int .i64 nn, .int .i64 ln]] D l i p := by
 have HN := hide hn
 generalize lnU l p = y at *
 clear hn
 intro w hr
 have bq0 := bel1 w (.cells #[.int .i64 kd, .string tx, .int .i64 nn, .int .i64 ln] 129)
 have bq1 := bel1 (w.alloc (.cells #[.int .i64 kd, .string tx, .int .i64 nn, .int .i64 ln] 129)) (.cells #[.int .i64 0, .bool false, .string ⟨#[]⟩, .string ⟨#[]⟩, .int .i64 0, .slice none 0 0, .int .i64 0] 38)
 have hsz : (w.alloc (.cells #[.int .i64 kd, .string tx, .int .i64 nn, .int .i64 ln] 129)).heap.size = w.heap.size + 1 := by first | rfl | simp
 have HT : Hid (BX ((w.alloc (.cells #[.int .i64 kd, .string tx, .int .i64 nn, .int .i64 ln] 129)).alloc (.cells #[.int .i64 0, .bool false, .string ⟨#[]⟩, .string ⟨#[]⟩, .int .i64 0, .slice none 0 0, .int .i64 0] 38)) w.heap.size #[.int .i64 kd, .string tx, .int .i64 nn, .int .i64 ln] 129) := (BX.new w _ rfl _ _).below bq1
 have HG : Hid (BX ((w.alloc (.cells #[.int .i64 kd, .string tx, .int .i64 nn, .int .i64 ln] 129)).alloc (.cells #[.int .i64 0, .bool false, .string ⟨#[]⟩, .string ⟨#[]⟩, .int .i64 0, .slice none 0 0, .int .i64 0] 38)) (w.heap.size + 1) #[.int .i64 0, .bool false, .string ⟨#[]⟩, .string ⟨#[]⟩, .int .i64 0, .slice none 0 0, .int .i64 0] 38) := BX.new (w.alloc (.cells #[.int .i64 kd, .string tx, .int .i64 nn, .int .i64 ln] 129)) _ hsz.symm _ _
 have HB : Hid (GB D w ((w.alloc (.cells #[.int .i64 kd, .string tx, .int .i64 nn, .int .i64 ln] 129)).alloc (.cells #[.int .i64 0, .bool false, .string ⟨#[]⟩, .string ⟨#[]⟩, .int .i64 0, .slice none 0 0, .int .i64 0] 38))) := (GB.below D bq0).next bq1
 have HR := hide ((hr.below bq0).below bq1)
 have hD := hr.size
 clear hr
 clear bq0 bq1 hsz
 obtain ⟨g2, hg2⟩ : ∃ g, w.heap.size = g := ⟨_, rfl⟩
 obtain ⟨g, hg⟩ : ∃ g, g2 + 1 = g := ⟨_, rfl⟩
 have hgD : D < g := by omega
 have hne : g ≠ D := by omega
 have hne2 : g2 ≠ D := by omega
 go_enter Tryz.func102, Tryz.ntmps102
 go_upto_region 1 with fail
 rw [hg2, hg] at HG
 rw [hg2] at HT
 try rw [hg]
 have hg1 : w.heap.size ≤ g := by omega
 generalize (w.alloc (.cells #[.int .i64 kd, .string tx, .int .i64 nn, .int .i64 ln] 129)).alloc (.cells #[.int .i64 0, .bool false, .string ⟨#[]⟩, .string ⟨#[]⟩, .int .i64 0, .slice none 0 0, .int .i64 0] 38) = w1 at *
 have t1 := HT.out.cell 1 _ rfl
 have t3 := HT.out.cell 3 _ rfl
 go_wp2_with (go_at_call 108; refine (HN.out _ HR.out).mono ?_; rintro e w2 ⟨rfl, hb2⟩; replace HB := hide (HB.out.trans hb2); clear hb2)
 exact ⟨rfl, rfl, HB.out⟩
set_option maxHeartbeats 2000000 in
theorem clause_most_ok {D : Nat} {l : List Tk} {i p : Nat} {kd : Int} {tx : ByteArray} {nn ln : Int} (q0 : (tx.toList == [114, 101, 102]) = false) (q1 : (tx.toList == [98, 111, 116, 104]) = false) (q2 : (tx.toList == [110, 101, 101, 100, 115]) = false) (q3 : (tx.toList == [108, 105, 109, 105, 116]) = false) (q4 : (tx.toList == [109, 111, 115, 116]) = true) {nm ot : ByteArray} {n2 : Int} (hn : Gv 108 [.int .i64 7] D l i p (.agg #[.int .i64 7, .bool false, .string nm, .string ot, .int .i64 n2, .slice none 0 0, .int .i64 0])) : Gv 102 [.agg #[.int .i64 kd, .string tx, .int .i64 nn, .int .i64 ln]] D l i p (.agg #[.int .i64 7, .bool false, .string nm, .string ot, .int .i64 n2, .slice none 0 0, .int .i64 0]) := by
 have HN := hide hn
 clear hn
 intro w hr
 have bq0 := bel1 w (.cells #[.int .i64 kd, .string tx, .int .i64 nn, .int .i64 ln] 129)
 have bq1 := bel1 (w.alloc (.cells #[.int .i64 kd, .string tx, .int .i64 nn, .int .i64 ln] 129)) (.cells #[.int .i64 0, .bool false, .string ⟨#[]⟩, .string ⟨#[]⟩, .int .i64 0, .slice none 0 0, .int .i64 0] 38)
 have hsz : (w.alloc (.cells #[.int .i64 kd, .string tx, .int .i64 nn, .int .i64 ln] 129)).heap.size = w.heap.size + 1 := by first | rfl | simp
 have HT : Hid (BX ((w.alloc (.cells #[.int .i64 kd, .string tx, .int .i64 nn, .int .i64 ln] 129)).alloc (.cells #[.int .i64 0, .bool false, .string ⟨#[]⟩, .string ⟨#[]⟩, .int .i64 0, .slice none 0 0, .int .i64 0] 38)) w.heap.size #[.int .i64 kd, .string tx, .int .i64 nn, .int .i64 ln] 129) := (BX.new w _ rfl _ _).below bq1
 have HG : Hid (BX ((w.alloc (.cells #[.int .i64 kd, .string tx, .int .i64 nn, .int .i64 ln] 129)).alloc (.cells #[.int .i64 0, .bool false, .string ⟨#[]⟩, .string ⟨#[]⟩, .int .i64 0, .slice none 0 0, .int .i64 0] 38)) (w.heap.size + 1) #[.int .i64 0, .bool false, .string ⟨#[]⟩, .string ⟨#[]⟩, .int .i64 0, .slice none 0 0, .int .i64 0] 38) := BX.new (w.alloc (.cells #[.int .i64 kd, .string tx, .int .i64 nn, .int .i64 ln] 129)) _ hsz.symm _ _
 have HB : Hid (GB D w ((w.alloc (.cells #[.int .i64 kd, .string tx, .int .i64 nn, .int .i64 ln] 129)).alloc (.cells #[.int .i64 0, .bool false, .string ⟨#[]⟩, .string ⟨#[]⟩, .int .i64 0, .slice none 0 0, .int .i64 0] 38))) := (GB.below D bq0).next bq1
 have HR := hide ((hr.below bq0).below bq1)
 have hD := hr.size
 clear hr
 clear bq0 bq1 hsz
 obtain ⟨g2, hg2⟩ : ∃ g, w.heap.size = g := ⟨_, rfl⟩
 obtain ⟨g, hg⟩ : ∃ g, g2 + 1 = g := ⟨_, rfl⟩
 have hgD : D < g := by omega
 have hne : g ≠ D := by omega
 have hne2 : g2 ≠ D := by omega
 go_enter Tryz.func102, Tryz.ntmps102
 go_upto_region 1 with fail
 rw [hg2, hg] at HG
 rw [hg2] at HT
 try rw [hg]
 have hg1 : w.heap.size ≤ g := by omega
 generalize (w.alloc (.cells #[.int .i64 kd, .string tx, .int .i64 nn, .int .i64 ln] 129)).alloc (.cells #[.int .i64 0, .bool false, .string ⟨#[]⟩, .string ⟨#[]⟩, .int .i64 0, .slice none 0 0, .int .i64 0] 38) = w1 at *
 have t1 := HT.out.cell 1 _ rfl
 have t3 := HT.out.cell 3 _ rfl
 go_wp2_with (go_at_call 108; refine (HN.out _ HR.out).mono ?_; rintro e w2 ⟨rfl, hr2, hb2⟩; replace HR := hide hr2; replace HB := hide (HB.out.trans hb2); replace HG := hide (HG.out.gb hb2 hne); clear hr2 hb2; have z0 := HG.out.cell 0 _ rfl; have y0 := HG.out.free 0; have z1 := HG.out.cell 1 _ rfl; have y1 := HG.out.free 1; have z2 := HG.out.cell 2 _ rfl; have y2 := HG.out.free 2; have z3 := HG.out.cell 3 _ rfl; have y3 := HG.out.free 3; have z4 := HG.out.cell 4 _ rfl; have y4 := HG.out.free 4; have z5 := HG.out.cell 5 _ rfl; have y5 := HG.out.free 5; have z6 := HG.out.cell 6 _ rfl; have y6 := HG.out.free 6)
 refine bodyPost_ret (results_cell_row rfl _ _ _ _ _ _ _ rfl (HG.out.put7 _ _ _ _ _ _ _).1 Tryz.underlying38 rfl Tryz.sizeDc) rfl ?_
 exact ⟨rfl, HR.out.put7 hgD _ _ _ _ _ _ _, HB.out.put7 hg1 _ _ _ _ _ _ _⟩
set_option maxHeartbeats 2000000 in
theorem clause_most_no {D : Nat} {l : List Tk} {i p : Nat} {kd : Int} {tx : ByteArray} {nn ln : Int} (q0 : (tx.toList == [114, 101, 102]) = false) (q1 : (tx.toList == [98, 111, 116, 104]) = false) (q2 : (tx.toList == [110, 101, 101, 100, 115]) = false) (q3 : (tx.toList == [108, 105, 109, 105, 116]) = false) (q4 : (tx.toList == [109, 111, 115, 116]) = true) (hn : Up 108 [.int .i64 7] D l i p) : Up 102 [.agg #[.int .i64 kd, .string tx, .int .i64 nn, .int .i64 ln]] D l i p := by
 have HN := hide hn
 generalize lnU l p = y at *
 clear hn
 intro w hr
 have bq0 := bel1 w (.cells #[.int .i64 kd, .string tx, .int .i64 nn, .int .i64 ln] 129)
 have bq1 := bel1 (w.alloc (.cells #[.int .i64 kd, .string tx, .int .i64 nn, .int .i64 ln] 129)) (.cells #[.int .i64 0, .bool false, .string ⟨#[]⟩, .string ⟨#[]⟩, .int .i64 0, .slice none 0 0, .int .i64 0] 38)
 have hsz : (w.alloc (.cells #[.int .i64 kd, .string tx, .int .i64 nn, .int .i64 ln] 129)).heap.size = w.heap.size + 1 := by first | rfl | simp
 have HT : Hid (BX ((w.alloc (.cells #[.int .i64 kd, .string tx, .int .i64 nn, .int .i64 ln] 129)).alloc (.cells #[.int .i64 0, .bool false, .string ⟨#[]⟩, .string ⟨#[]⟩, .int .i64 0, .slice none 0 0, .int .i64 0] 38)) w.heap.size #[.int .i64 kd, .string tx, .int .i64 nn, .int .i64 ln] 129) := (BX.new w _ rfl _ _).below bq1
 have HG : Hid (BX ((w.alloc (.cells #[.int .i64 kd, .string tx, .int .i64 nn, .int .i64 ln] 129)).alloc (.cells #[.int .i64 0, .bool false, .string ⟨#[]⟩, .string ⟨#[]⟩, .int .i64 0, .slice none 0 0, .int .i64 0] 38)) (w.heap.size + 1) #[.int .i64 0, .bool false, .string ⟨#[]⟩, .string ⟨#[]⟩, .int .i64 0, .slice none 0 0, .int .i64 0] 38) := BX.new (w.alloc (.cells #[.int .i64 kd, .string tx, .int .i64 nn, .int .i64 ln] 129)) _ hsz.symm _ _
 have HB : Hid (GB D w ((w.alloc (.cells #[.int .i64 kd, .string tx, .int .i64 nn, .int .i64 ln] 129)).alloc (.cells #[.int .i64 0, .bool false, .string ⟨#[]⟩, .string ⟨#[]⟩, .int .i64 0, .slice none 0 0, .int .i64 0] 38))) := (GB.below D bq0).next bq1
 have HR := hide ((hr.below bq0).below bq1)
 have hD := hr.size
 clear hr
 clear bq0 bq1 hsz
 obtain ⟨g2, hg2⟩ : ∃ g, w.heap.size = g := ⟨_, rfl⟩
 obtain ⟨g, hg⟩ : ∃ g, g2 + 1 = g := ⟨_, rfl⟩
 have hgD : D < g := by omega
 have hne : g ≠ D := by omega
 have hne2 : g2 ≠ D := by omega
 go_enter Tryz.func102, Tryz.ntmps102
 go_upto_region 1 with fail
 rw [hg2, hg] at HG
 rw [hg2] at HT
 try rw [hg]
 have hg1 : w.heap.size ≤ g := by omega
 generalize (w.alloc (.cells #[.int .i64 kd, .string tx, .int .i64 nn, .int .i64 ln] 129)).alloc (.cells #[.int .i64 0, .bool false, .string ⟨#[]⟩, .string ⟨#[]⟩, .int .i64 0, .slice none 0 0, .int .i64 0] 38) = w1 at *
 have t1 := HT.out.cell 1 _ rfl
 have t3 := HT.out.cell 3 _ rfl
 go_wp2_with (go_at_call 108; refine (HN.out _ HR.out).mono ?_; rintro e w2 ⟨rfl, hb2⟩; replace HB := hide (HB.out.trans hb2); clear hb2)
 exact ⟨rfl, rfl, HB.out⟩
set_option maxHeartbeats 2000000 in
theorem clause_least_ok {D : Nat} {l : List Tk} {i p : Nat} {kd : Int} {tx : ByteArray} {nn ln : Int} (q0 : (tx.toList == [114, 101, 102]) = false) (q1 : (tx.toList == [98, 111, 116, 104]) = false) (q2 : (tx.toList == [110, 101, 101, 100, 115]) = false) (q3 : (tx.toList == [108, 105, 109, 105, 116]) = false) (q4 : (tx.toList == [109, 111, 115, 116]) = false) (q5 : (tx.toList == [108, 101, 97, 115, 116]) = true) {nm ot : ByteArray} {n2 : Int} (hn : Gv 108 [.int .i64 8] D l i p (.agg #[.int .i64 8, .bool false, .string nm, .string ot, .int .i64 n2, .slice none 0 0, .int .i64 0])) : Gv 102 [.agg #[.int .i64 kd, .string tx, .int .i64 nn, .int .i64 ln]] D l i p (.agg #[.int .i64 8, .bool false, .string nm, .string ot, .int .i64 n2, .slice none 0 0, .int .i64 0]) := by
 have HN := hide hn
 clear hn
 intro w hr
 have bq0 := bel1 w (.cells #[.int .i64 kd, .string tx, .int .i64 nn, .int .i64 ln] 129)
 have bq1 := bel1 (w.alloc (.cells #[.int .i64 kd, .string tx, .int .i64 nn, .int .i64 ln] 129)) (.cells #[.int .i64 0, .bool false, .string ⟨#[]⟩, .string ⟨#[]⟩, .int .i64 0, .slice none 0 0, .int .i64 0] 38)
 have hsz : (w.alloc (.cells #[.int .i64 kd, .string tx, .int .i64 nn, .int .i64 ln] 129)).heap.size = w.heap.size + 1 := by first | rfl | simp
 have HT : Hid (BX ((w.alloc (.cells #[.int .i64 kd, .string tx, .int .i64 nn, .int .i64 ln] 129)).alloc (.cells #[.int .i64 0, .bool false, .string ⟨#[]⟩, .string ⟨#[]⟩, .int .i64 0, .slice none 0 0, .int .i64 0] 38)) w.heap.size #[.int .i64 kd, .string tx, .int .i64 nn, .int .i64 ln] 129) := (BX.new w _ rfl _ _).below bq1
 have HG : Hid (BX ((w.alloc (.cells #[.int .i64 kd, .string tx, .int .i64 nn, .int .i64 ln] 129)).alloc (.cells #[.int .i64 0, .bool false, .string ⟨#[]⟩, .string ⟨#[]⟩, .int .i64 0, .slice none 0 0, .int .i64 0] 38)) (w.heap.size + 1) #[.int .i64 0, .bool false, .string ⟨#[]⟩, .string ⟨#[]⟩, .int .i64 0, .slice none 0 0, .int .i64 0] 38) := BX.new (w.alloc (.cells #[.int .i64 kd, .string tx, .int .i64 nn, .int .i64 ln] 129)) _ hsz.symm _ _
 have HB : Hid (GB D w ((w.alloc (.cells #[.int .i64 kd, .string tx, .int .i64 nn, .int .i64 ln] 129)).alloc (.cells #[.int .i64 0, .bool false, .string ⟨#[]⟩, .string ⟨#[]⟩, .int .i64 0, .slice none 0 0, .int .i64 0] 38))) := (GB.below D bq0).next bq1
 have HR := hide ((hr.below bq0).below bq1)
 have hD := hr.size
 clear hr
 clear bq0 bq1 hsz
 obtain ⟨g2, hg2⟩ : ∃ g, w.heap.size = g := ⟨_, rfl⟩
 obtain ⟨g, hg⟩ : ∃ g, g2 + 1 = g := ⟨_, rfl⟩
 have hgD : D < g := by omega
 have hne : g ≠ D := by omega
 have hne2 : g2 ≠ D := by omega
 go_enter Tryz.func102, Tryz.ntmps102
 go_upto_region 1 with fail
 rw [hg2, hg] at HG
 rw [hg2] at HT
 try rw [hg]
 have hg1 : w.heap.size ≤ g := by omega
 generalize (w.alloc (.cells #[.int .i64 kd, .string tx, .int .i64 nn, .int .i64 ln] 129)).alloc (.cells #[.int .i64 0, .bool false, .string ⟨#[]⟩, .string ⟨#[]⟩, .int .i64 0, .slice none 0 0, .int .i64 0] 38) = w1 at *
 have t1 := HT.out.cell 1 _ rfl
 have t3 := HT.out.cell 3 _ rfl
 go_wp2_with (go_at_call 108; refine (HN.out _ HR.out).mono ?_; rintro e w2 ⟨rfl, hr2, hb2⟩; replace HR := hide hr2; replace HB := hide (HB.out.trans hb2); replace HG := hide (HG.out.gb hb2 hne); clear hr2 hb2; have z0 := HG.out.cell 0 _ rfl; have y0 := HG.out.free 0; have z1 := HG.out.cell 1 _ rfl; have y1 := HG.out.free 1; have z2 := HG.out.cell 2 _ rfl; have y2 := HG.out.free 2; have z3 := HG.out.cell 3 _ rfl; have y3 := HG.out.free 3; have z4 := HG.out.cell 4 _ rfl; have y4 := HG.out.free 4; have z5 := HG.out.cell 5 _ rfl; have y5 := HG.out.free 5; have z6 := HG.out.cell 6 _ rfl; have y6 := HG.out.free 6)
 refine bodyPost_ret (results_cell_row rfl _ _ _ _ _ _ _ rfl (HG.out.put7 _ _ _ _ _ _ _).1 Tryz.underlying38 rfl Tryz.sizeDc) rfl ?_
 exact ⟨rfl, HR.out.put7 hgD _ _ _ _ _ _ _, HB.out.put7 hg1 _ _ _ _ _ _ _⟩
set_option maxHeartbeats 2000000 in
theorem clause_least_no {D : Nat} {l : List Tk} {i p : Nat} {kd : Int} {tx : ByteArray} {nn ln : Int} (q0 : (tx.toList == [114, 101, 102]) = false) (q1 : (tx.toList == [98, 111, 116, 104]) = false) (q2 : (tx.toList == [110, 101, 101, 100, 115]) = false) (q3 : (tx.toList == [108, 105, 109, 105, 116]) = false) (q4 : (tx.toList == [109, 111, 115, 116]) = false) (q5 : (tx.toList == [108, 101, 97, 115, 116]) = true) (hn : Up 108 [.int .i64 8] D l i p) : Up 102 [.agg #[.int .i64 kd, .string tx, .int .i64 nn, .int .i64 ln]] D l i p := by
 have HN := hide hn
 generalize lnU l p = y at *
 clear hn
 intro w hr
 have bq0 := bel1 w (.cells #[.int .i64 kd, .string tx, .int .i64 nn, .int .i64 ln] 129)
 have bq1 := bel1 (w.alloc (.cells #[.int .i64 kd, .string tx, .int .i64 nn, .int .i64 ln] 129)) (.cells #[.int .i64 0, .bool false, .string ⟨#[]⟩, .string ⟨#[]⟩, .int .i64 0, .slice none 0 0, .int .i64 0] 38)
 have hsz : (w.alloc (.cells #[.int .i64 kd, .string tx, .int .i64 nn, .int .i64 ln] 129)).heap.size = w.heap.size + 1 := by first | rfl | simp
 have HT : Hid (BX ((w.alloc (.cells #[.int .i64 kd, .string tx, .int .i64 nn, .int .i64 ln] 129)).alloc (.cells #[.int .i64 0, .bool false, .string ⟨#[]⟩, .string ⟨#[]⟩, .int .i64 0, .slice none 0 0, .int .i64 0] 38)) w.heap.size #[.int .i64 kd, .string tx, .int .i64 nn, .int .i64 ln] 129) := (BX.new w _ rfl _ _).below bq1
 have HG : Hid (BX ((w.alloc (.cells #[.int .i64 kd, .string tx, .int .i64 nn, .int .i64 ln] 129)).alloc (.cells #[.int .i64 0, .bool false, .string ⟨#[]⟩, .string ⟨#[]⟩, .int .i64 0, .slice none 0 0, .int .i64 0] 38)) (w.heap.size + 1) #[.int .i64 0, .bool false, .string ⟨#[]⟩, .string ⟨#[]⟩, .int .i64 0, .slice none 0 0, .int .i64 0] 38) := BX.new (w.alloc (.cells #[.int .i64 kd, .string tx, .int .i64 nn, .int .i64 ln] 129)) _ hsz.symm _ _
 have HB : Hid (GB D w ((w.alloc (.cells #[.int .i64 kd, .string tx, .int .i64 nn, .int .i64 ln] 129)).alloc (.cells #[.int .i64 0, .bool false, .string ⟨#[]⟩, .string ⟨#[]⟩, .int .i64 0, .slice none 0 0, .int .i64 0] 38))) := (GB.below D bq0).next bq1
 have HR := hide ((hr.below bq0).below bq1)
 have hD := hr.size
 clear hr
 clear bq0 bq1 hsz
 obtain ⟨g2, hg2⟩ : ∃ g, w.heap.size = g := ⟨_, rfl⟩
 obtain ⟨g, hg⟩ : ∃ g, g2 + 1 = g := ⟨_, rfl⟩
 have hgD : D < g := by omega
 have hne : g ≠ D := by omega
 have hne2 : g2 ≠ D := by omega
 go_enter Tryz.func102, Tryz.ntmps102
 go_upto_region 1 with fail
 rw [hg2, hg] at HG
 rw [hg2] at HT
 try rw [hg]
 have hg1 : w.heap.size ≤ g := by omega
 generalize (w.alloc (.cells #[.int .i64 kd, .string tx, .int .i64 nn, .int .i64 ln] 129)).alloc (.cells #[.int .i64 0, .bool false, .string ⟨#[]⟩, .string ⟨#[]⟩, .int .i64 0, .slice none 0 0, .int .i64 0] 38) = w1 at *
 have t1 := HT.out.cell 1 _ rfl
 have t3 := HT.out.cell 3 _ rfl
 go_wp2_with (go_at_call 108; refine (HN.out _ HR.out).mono ?_; rintro e w2 ⟨rfl, hb2⟩; replace HB := hide (HB.out.trans hb2); clear hb2)
 exact ⟨rfl, rfl, HB.out⟩
set_option maxHeartbeats 2000000 in
theorem clause_none (D : Nat) {kd : Int} {tx : ByteArray} {nn ln : Int} (q0 : (tx.toList == [114, 101, 102]) = false) (q1 : (tx.toList == [98, 111, 116, 104]) = false) (q2 : (tx.toList == [110, 101, 101, 100, 115]) = false) (q3 : (tx.toList == [108, 105, 109, 105, 116]) = false) (q4 : (tx.toList == [109, 111, 115, 116]) = false) (q5 : (tx.toList == [108, 101, 97, 115, 116]) = false) : ∀ w, Calls Tryz.prog 102 #[.pointer (some ⟨D, 0, none⟩), .agg #[.int .i64 kd, .string tx, .int .i64 nn, .int .i64 ln]] w fun e w' => e = .panicked [{ v := noL ln, recovered := false }] ∧ GB D w w' := by
 intro w
 have bq0 := bel1 w (.cells #[.int .i64 kd, .string tx, .int .i64 nn, .int .i64 ln] 129)
 have bq1 := bel1 (w.alloc (.cells #[.int .i64 kd, .string tx, .int .i64 nn, .int .i64 ln] 129)) (.cells #[.int .i64 0, .bool false, .string ⟨#[]⟩, .string ⟨#[]⟩, .int .i64 0, .slice none 0 0, .int .i64 0] 38)
 have hsz : (w.alloc (.cells #[.int .i64 kd, .string tx, .int .i64 nn, .int .i64 ln] 129)).heap.size = w.heap.size + 1 := by first | rfl | simp
 have HT : Hid (BX ((w.alloc (.cells #[.int .i64 kd, .string tx, .int .i64 nn, .int .i64 ln] 129)).alloc (.cells #[.int .i64 0, .bool false, .string ⟨#[]⟩, .string ⟨#[]⟩, .int .i64 0, .slice none 0 0, .int .i64 0] 38)) w.heap.size #[.int .i64 kd, .string tx, .int .i64 nn, .int .i64 ln] 129) := (BX.new w _ rfl _ _).below bq1
 have HG : Hid (BX ((w.alloc (.cells #[.int .i64 kd, .string tx, .int .i64 nn, .int .i64 ln] 129)).alloc (.cells #[.int .i64 0, .bool false, .string ⟨#[]⟩, .string ⟨#[]⟩, .int .i64 0, .slice none 0 0, .int .i64 0] 38)) (w.heap.size + 1) #[.int .i64 0, .bool false, .string ⟨#[]⟩, .string ⟨#[]⟩, .int .i64 0, .slice none 0 0, .int .i64 0] 38) := BX.new (w.alloc (.cells #[.int .i64 kd, .string tx, .int .i64 nn, .int .i64 ln] 129)) _ hsz.symm _ _
 have HB : Hid (GB D w ((w.alloc (.cells #[.int .i64 kd, .string tx, .int .i64 nn, .int .i64 ln] 129)).alloc (.cells #[.int .i64 0, .bool false, .string ⟨#[]⟩, .string ⟨#[]⟩, .int .i64 0, .slice none 0 0, .int .i64 0] 38))) := (GB.below D bq0).next bq1
 clear bq0 bq1 hsz
 obtain ⟨g2, hg2⟩ : ∃ g, w.heap.size = g := ⟨_, rfl⟩
 obtain ⟨g, hg⟩ : ∃ g, g2 + 1 = g := ⟨_, rfl⟩
 go_enter Tryz.func102, Tryz.ntmps102
 go_upto_region 1 with fail
 rw [hg2, hg] at HG
 rw [hg2] at HT
 try rw [hg]
 have hg1 : w.heap.size ≤ g := by omega
 generalize (w.alloc (.cells #[.int .i64 kd, .string tx, .int .i64 nn, .int .i64 ln] 129)).alloc (.cells #[.int .i64 0, .bool false, .string ⟨#[]⟩, .string ⟨#[]⟩, .int .i64 0, .slice none 0 0, .int .i64 0] 38) = w1 at *
 have t1 := HT.out.cell 1 _ rfl
 have t3 := HT.out.cell 3 _ rfl
 go_wp2
 exact ⟨rfl, rfl, HB.out⟩
theorem clause15 {D : Nat} {l : List Tk} {m i : Nat} (hL : Ln l m) (kd : Int) (tx : ByteArray) (nn ln : Int) (hi : tx ≠ ⟨#[]⟩ → i ≤ m) : ((ruleU tx).1 = 0 ∧ ∀ w, Calls Tryz.prog 102 #[.pointer (some ⟨D, 0, none⟩), .agg #[.int .i64 kd, .string tx, .int .i64 nn, .int .i64 ln]] w fun e w' => e = .panicked [{ v := noL ln, recovered := false }] ∧ GB D w w') ∨ ((ruleU tx).1 ≠ 0 ∧ frmU l i (ruleU tx).2 = 2 ∧ Gv 102 [.agg #[.int .i64 kd, .string tx, .int .i64 nn, .int .i64 ln]] D l i (i + 2) (.agg (decV ((ruleU tx).1, false, txtU l i, txtU l (i + 1), numU l (i + 1), [], 0) none 0 0))) ∨ ((ruleU tx).1 ≠ 0 ∧ frmU l i (ruleU tx).2 < 2 ∧ Up 102 [.agg #[.int .i64 kd, .string tx, .int .i64 nn, .int .i64 ln]] D l i (i + frmU l i (ruleU tx).2)) := by
 have q0 : (tx.toList == [114, 101, 102]) = decide (tx = ⟨#[114, 101, 102]⟩) := by
  have q := eqK tx ⟨#[114, 101, 102]⟩
  rw [ByteArray.toList_eq ⟨#[114, 101, 102]⟩] at q
  exact q
 by_cases h0 : tx = ⟨#[114, 101, 102]⟩
 ·have e : ruleU tx = (4, [110, 110]) := by rw [h0]; decide
  rw [decide_eq_true h0] at q0
  rw [e]
  rcases pair15 (D := D) hL (hi (by rw [h0]; decide)) 4 with ⟨h, hn⟩ | ⟨h, hn⟩
  ·exact .inr (.inl ⟨(by decide : (4 : Int) ≠ 0), h, clause_ref_ok q0 hn⟩)
  ·exact .inr (.inr ⟨(by decide : (4 : Int) ≠ 0), h, clause_ref_no q0 hn⟩)
 rw [decide_eq_false h0] at q0
 have q1 : (tx.toList == [98, 111, 116, 104]) = decide (tx = ⟨#[98, 111, 116, 104]⟩) := by
  have q := eqK tx ⟨#[98, 111, 116, 104]⟩
  rw [ByteArray.toList_eq ⟨#[98, 111, 116, 104]⟩] at q
  exact q
 by_cases h1 : tx = ⟨#[98, 111, 116, 104]⟩
 ·have e : ruleU tx = (5, [110, 110]) := by rw [h1]; decide
  rw [decide_eq_true h1] at q1
  rw [e]
  rcases pair15 (D := D) hL (hi (by rw [h1]; decide)) 5 with ⟨h, hn⟩ | ⟨h, hn⟩
  ·exact .inr (.inl ⟨(by decide : (5 : Int) ≠ 0), h, clause_both_ok q0 q1 hn⟩)
  ·exact .inr (.inr ⟨(by decide : (5 : Int) ≠ 0), h, clause_both_no q0 q1 hn⟩)
 rw [decide_eq_false h1] at q1
 have q2 : (tx.toList == [110, 101, 101, 100, 115]) = decide (tx = ⟨#[110, 101, 101, 100, 115]⟩) := by
  have q := eqK tx ⟨#[110, 101, 101, 100, 115]⟩
  rw [ByteArray.toList_eq ⟨#[110, 101, 101, 100, 115]⟩] at q
  exact q
 by_cases h2 : tx = ⟨#[110, 101, 101, 100, 115]⟩
 ·have e : ruleU tx = (9, [110, 110]) := by rw [h2]; decide
  rw [decide_eq_true h2] at q2
  rw [e]
  rcases pair15 (D := D) hL (hi (by rw [h2]; decide)) 9 with ⟨h, hn⟩ | ⟨h, hn⟩
  ·exact .inr (.inl ⟨(by decide : (9 : Int) ≠ 0), h, clause_needs_ok q0 q1 q2 hn⟩)
  ·exact .inr (.inr ⟨(by decide : (9 : Int) ≠ 0), h, clause_needs_no q0 q1 q2 hn⟩)
 rw [decide_eq_false h2] at q2
 have q3 : (tx.toList == [108, 105, 109, 105, 116]) = decide (tx = ⟨#[108, 105, 109, 105, 116]⟩) := by
  have q := eqK tx ⟨#[108, 105, 109, 105, 116]⟩
  rw [ByteArray.toList_eq ⟨#[108, 105, 109, 105, 116]⟩] at q
  exact q
 by_cases h3 : tx = ⟨#[108, 105, 109, 105, 116]⟩
 ·have e : ruleU tx = (6, [110, 100]) := by rw [h3]; decide
  rw [decide_eq_true h3] at q3
  rw [e]
  rcases bound15 (D := D) hL (hi (by rw [h3]; decide)) 6 with ⟨h, hn⟩ | ⟨h, hn⟩
  ·exact .inr (.inl ⟨(by decide : (6 : Int) ≠ 0), h, clause_limit_ok q0 q1 q2 q3 hn⟩)
  ·exact .inr (.inr ⟨(by decide : (6 : Int) ≠ 0), h, clause_limit_no q0 q1 q2 q3 hn⟩)
 rw [decide_eq_false h3] at q3
 have q4 : (tx.toList == [109, 111, 115, 116]) = decide (tx = ⟨#[109, 111, 115, 116]⟩) := by
  have q := eqK tx ⟨#[109, 111, 115, 116]⟩
  rw [ByteArray.toList_eq ⟨#[109, 111, 115, 116]⟩] at q
  exact q
 by_cases h4 : tx = ⟨#[109, 111, 115, 116]⟩
 ·have e : ruleU tx = (7, [110, 100]) := by rw [h4]; decide
  rw [decide_eq_true h4] at q4
  rw [e]
  rcases bound15 (D := D) hL (hi (by rw [h4]; decide)) 7 with ⟨h, hn⟩ | ⟨h, hn⟩
  ·exact .inr (.inl ⟨(by decide : (7 : Int) ≠ 0), h, clause_most_ok q0 q1 q2 q3 q4 hn⟩)
  ·exact .inr (.inr ⟨(by decide : (7 : Int) ≠ 0), h, clause_most_no q0 q1 q2 q3 q4 hn⟩)
 rw [decide_eq_false h4] at q4
 have q5 : (tx.toList == [108, 101, 97, 115, 116]) = decide (tx = ⟨#[108, 101, 97, 115, 116]⟩) := by
  have q := eqK tx ⟨#[108, 101, 97, 115, 116]⟩
  rw [ByteArray.toList_eq ⟨#[108, 101, 97, 115, 116]⟩] at q
  exact q
 by_cases h5 : tx = ⟨#[108, 101, 97, 115, 116]⟩
 ·have e : ruleU tx = (8, [110, 100]) := by rw [h5]; decide
  rw [decide_eq_true h5] at q5
  rw [e]
  rcases bound15 (D := D) hL (hi (by rw [h5]; decide)) 8 with ⟨h, hn⟩ | ⟨h, hn⟩
  ·exact .inr (.inl ⟨(by decide : (8 : Int) ≠ 0), h, clause_least_ok q0 q1 q2 q3 q4 q5 hn⟩)
  ·exact .inr (.inr ⟨(by decide : (8 : Int) ≠ 0), h, clause_least_no q0 q1 q2 q3 q4 q5 hn⟩)
 rw [decide_eq_false h5] at q5
 refine .inl ⟨?_, clause_none D q0 q1 q2 q3 q4 q5⟩
 unfold ruleU
 rw [if_neg h0, if_neg h1, if_neg h2, if_neg h3, if_neg h4, if_neg h5]
set_option maxHeartbeats 2000000 in
theorem rule_pl_ok {D : Nat} {l : List Tk} {i p : Nat} {kd : Int} {tx : ByteArray} {nn ln : Int} (ht : l[i]? = some (kd, tx, nn, ln)) (q0 : (tx.toList == [115, 116, 114, 105, 99, 116]) = false) {k : Int} {nm ot : ByteArray} {n2 : Int} (hn : Gv 102 [.agg #[.int .i64 kd, .string tx, .int .i64 nn, .int .i64 ln]] D l (i + 1) p (.agg #[.int .i64 k, .bool false, .string nm, .string ot, .int .i64 n2, .slice none 0 0, .int .i64 0])) : Gv 94 [] D l i p (.agg #[.int .i64 k, .bool false, .string nm, .string ot, .int .i64 n2, .slice none 0 0, .int .i64 0]) := by
 have HN := hide hn
 clear hn
 have HX := hide (nextP (D := D) ht)
 clear ht
 intro w hr
 have bq0 := bel1 w (.cells #[.int .i64 0, .bool false, .string ⟨#[]⟩, .string ⟨#[]⟩, .int .i64 0, .slice none 0 0, .int .i64 0] 38)
 have HB : Hid (GB D w (w.alloc (.cells #[.int .i64 0, .bool false, .string ⟨#[]⟩, .string ⟨#[]⟩, .int .i64 0, .slice none 0 0, .int .i64 0] 38))) := GB.below D bq0
 have HG : Hid (BX (w.alloc (.cells #[.int .i64 0, .bool false, .string ⟨#[]⟩, .string ⟨#[]⟩, .int .i64 0, .slice none 0 0, .int .i64 0] 38)) w.heap.size #[.int .i64 0, .bool false, .string ⟨#[]⟩, .string ⟨#[]⟩, .int .i64 0, .slice none 0 0, .int .i64 0] 38) := BX.new w _ rfl _ _
 have HR := hide (hr.below bq0)
 have hD := hr.size
 clear hr bq0
 obtain ⟨g, hg⟩ : ∃ g, w.heap.size = g := ⟨_, rfl⟩
 have hgD : D < g := by omega
 have hne : g ≠ D := by omega
 go_enter Tryz.func94, Tryz.ntmps94
 go_upto_region 1 with fail
 rw [hg] at HG
 have hg1 : w.heap.size ≤ g := by omega
 generalize w.alloc (.cells #[.int .i64 0, .bool false, .string ⟨#[]⟩, .string ⟨#[]⟩, .int .i64 0, .slice none 0 0, .int .i64 0] 38) = w1 at *
 go_upto_region 2 with (go_at_call 84; refine (HX.out _ HR.out).mono ?_; rintro e w2 ⟨rfl, hr2, hb2⟩; replace HR := hide hr2; replace HB := hide (HB.out.trans hb2); replace HG := hide (HG.out.gb hb2 hne); clear hr2 hb2)
 have bq1 := bel1 w2 (.cells #[.int .i64 kd, .string tx, .int .i64 nn, .int .i64 ln] 129)
 have HT : Hid (BX (w2.alloc (.cells #[.int .i64 kd, .string tx, .int .i64 nn, .int .i64 ln] 129)) w2.heap.size #[.int .i64 kd, .string tx, .int .i64 nn, .int .i64 ln] 129) := BX.new w2 _ rfl _ _
 have hgs := HG.out.size
 replace HG := hide (HG.out.below bq1)
 replace HR := hide (HR.out.below bq1)
 have hgw := HB.out.1
 have hD2 : D < w2.heap.size := by omega
 replace HB := hide (HB.out.next bq1)
 clear bq1
 obtain ⟨g2, hg2⟩ : ∃ g, w2.heap.size = g := ⟨_, rfl⟩
 have hg2w : w.heap.size ≤ g2 := by omega
 have hne2 : g2 ≠ D := by omega
 have hg2D : D < g2 := by omega
 have hgg : g2 ≠ g := by omega
 clear hgs
 rw [hg2] at HT ⊢
 clear hg2 hD2 hgw
 generalize w2.alloc (.cells #[.int .i64 kd, .string tx, .int .i64 nn, .int .i64 ln] 129) = w3 at *
 have t0 := HT.out.cell 0 _ rfl
 have t1 := HT.out.cell 1 _ rfl
 have t2 := HT.out.cell 2 _ rfl
 have t3 := HT.out.cell 3 _ rfl
 go_wp2_with (go_at_call 102; refine (HN.out _ HR.out).mono ?_; rintro e w4 ⟨rfl, hr2, hb2⟩; replace HR := hide hr2; replace HB := hide (HB.out.trans hb2); replace HG := hide (HG.out.gb hb2 hne); clear hr2 hb2; have z0 := HG.out.cell 0 _ rfl; have y0 := HG.out.free 0; have z1 := HG.out.cell 1 _ rfl; have y1 := HG.out.free 1; have z2 := HG.out.cell 2 _ rfl; have y2 := HG.out.free 2; have z3 := HG.out.cell 3 _ rfl; have y3 := HG.out.free 3; have z4 := HG.out.cell 4 _ rfl; have y4 := HG.out.free 4; have z5 := HG.out.cell 5 _ rfl; have y5 := HG.out.free 5; have z6 := HG.out.cell 6 _ rfl; have y6 := HG.out.free 6)
 refine bodyPost_ret (results_cell_row rfl _ _ _ _ _ _ _ rfl (HG.out.put7 _ _ _ _ _ _ _).1 Tryz.underlying38 rfl Tryz.sizeDc) rfl ?_
 exact ⟨rfl, HR.out.put7 hgD _ _ _ _ _ _ _, HB.out.put7 hg1 _ _ _ _ _ _ _⟩
set_option maxHeartbeats 2000000 in
theorem rule_pl_no {D : Nat} {l : List Tk} {i p : Nat} {kd : Int} {tx : ByteArray} {nn ln : Int} (ht : l[i]? = some (kd, tx, nn, ln)) (q0 : (tx.toList == [115, 116, 114, 105, 99, 116]) = false) (hn : Up 102 [.agg #[.int .i64 kd, .string tx, .int .i64 nn, .int .i64 ln]] D l (i + 1) p) : Up 94 [] D l i p := by
 have HN := hide hn
 generalize lnU l p = y at *
 clear hn
 have HX := hide (nextP (D := D) ht)
 clear ht
 intro w hr
 have bq0 := bel1 w (.cells #[.int .i64 0, .bool false, .string ⟨#[]⟩, .string ⟨#[]⟩, .int .i64 0, .slice none 0 0, .int .i64 0] 38)
 have HB : Hid (GB D w (w.alloc (.cells #[.int .i64 0, .bool false, .string ⟨#[]⟩, .string ⟨#[]⟩, .int .i64 0, .slice none 0 0, .int .i64 0] 38))) := GB.below D bq0
 have HG : Hid (BX (w.alloc (.cells #[.int .i64 0, .bool false, .string ⟨#[]⟩, .string ⟨#[]⟩, .int .i64 0, .slice none 0 0, .int .i64 0] 38)) w.heap.size #[.int .i64 0, .bool false, .string ⟨#[]⟩, .string ⟨#[]⟩, .int .i64 0, .slice none 0 0, .int .i64 0] 38) := BX.new w _ rfl _ _
 have HR := hide (hr.below bq0)
 have hD := hr.size
 clear hr bq0
 obtain ⟨g, hg⟩ : ∃ g, w.heap.size = g := ⟨_, rfl⟩
 have hgD : D < g := by omega
 have hne : g ≠ D := by omega
 go_enter Tryz.func94, Tryz.ntmps94
 go_upto_region 1 with fail
 rw [hg] at HG
 have hg1 : w.heap.size ≤ g := by omega
 generalize w.alloc (.cells #[.int .i64 0, .bool false, .string ⟨#[]⟩, .string ⟨#[]⟩, .int .i64 0, .slice none 0 0, .int .i64 0] 38) = w1 at *
 go_upto_region 2 with (go_at_call 84; refine (HX.out _ HR.out).mono ?_; rintro e w2 ⟨rfl, hr2, hb2⟩; replace HR := hide hr2; replace HB := hide (HB.out.trans hb2); replace HG := hide (HG.out.gb hb2 hne); clear hr2 hb2)
 have bq1 := bel1 w2 (.cells #[.int .i64 kd, .string tx, .int .i64 nn, .int .i64 ln] 129)
 have HT : Hid (BX (w2.alloc (.cells #[.int .i64 kd, .string tx, .int .i64 nn, .int .i64 ln] 129)) w2.heap.size #[.int .i64 kd, .string tx, .int .i64 nn, .int .i64 ln] 129) := BX.new w2 _ rfl _ _
 have hgs := HG.out.size
 replace HG := hide (HG.out.below bq1)
 replace HR := hide (HR.out.below bq1)
 have hgw := HB.out.1
 have hD2 : D < w2.heap.size := by omega
 replace HB := hide (HB.out.next bq1)
 clear bq1
 obtain ⟨g2, hg2⟩ : ∃ g, w2.heap.size = g := ⟨_, rfl⟩
 have hg2w : w.heap.size ≤ g2 := by omega
 have hne2 : g2 ≠ D := by omega
 have hg2D : D < g2 := by omega
 have hgg : g2 ≠ g := by omega
 clear hgs
 rw [hg2] at HT ⊢
 clear hg2 hD2 hgw
 generalize w2.alloc (.cells #[.int .i64 kd, .string tx, .int .i64 nn, .int .i64 ln] 129) = w3 at *
 have t0 := HT.out.cell 0 _ rfl
 have t1 := HT.out.cell 1 _ rfl
 have t2 := HT.out.cell 2 _ rfl
 have t3 := HT.out.cell 3 _ rfl
 go_wp2_with (go_at_call 102; refine (HN.out _ HR.out).mono ?_; rintro e w4 ⟨rfl, hb2⟩; replace HB := hide (HB.out.trans hb2); clear hb2)
 exact ⟨rfl, rfl, HB.out⟩
set_option maxHeartbeats 2000000 in
theorem rule_pl_none {D : Nat} {l : List Tk} {i p : Nat} {kd : Int} {tx : ByteArray} {nn ln : Int} (ht : l[i]? = some (kd, tx, nn, ln)) (q0 : (tx.toList == [115, 116, 114, 105, 99, 116]) = false) (hn : ∀ w, Calls Tryz.prog 102 #[.pointer (some ⟨D, 0, none⟩), .agg #[.int .i64 kd, .string tx, .int .i64 nn, .int .i64 ln]] w fun e w' => e = .panicked [{ v := noL ln, recovered := false }] ∧ GB D w w') : Up 94 [] D l i i := by
 have HN := hide hn
 have HL : Hid (lnU l i = ln) := lnU_at ht
 clear hn
 have HX := hide (nextP (D := D) ht)
 clear ht
 intro w hr
 rw [HL.out]
 have bq0 := bel1 w (.cells #[.int .i64 0, .bool false, .string ⟨#[]⟩, .string ⟨#[]⟩, .int .i64 0, .slice none 0 0, .int .i64 0] 38)
 have HB : Hid (GB D w (w.alloc (.cells #[.int .i64 0, .bool false, .string ⟨#[]⟩, .string ⟨#[]⟩, .int .i64 0, .slice none 0 0, .int .i64 0] 38))) := GB.below D bq0
 have HG : Hid (BX (w.alloc (.cells #[.int .i64 0, .bool false, .string ⟨#[]⟩, .string ⟨#[]⟩, .int .i64 0, .slice none 0 0, .int .i64 0] 38)) w.heap.size #[.int .i64 0, .bool false, .string ⟨#[]⟩, .string ⟨#[]⟩, .int .i64 0, .slice none 0 0, .int .i64 0] 38) := BX.new w _ rfl _ _
 have HR := hide (hr.below bq0)
 have hD := hr.size
 clear hr bq0
 obtain ⟨g, hg⟩ : ∃ g, w.heap.size = g := ⟨_, rfl⟩
 have hgD : D < g := by omega
 have hne : g ≠ D := by omega
 go_enter Tryz.func94, Tryz.ntmps94
 go_upto_region 1 with fail
 rw [hg] at HG
 have hg1 : w.heap.size ≤ g := by omega
 generalize w.alloc (.cells #[.int .i64 0, .bool false, .string ⟨#[]⟩, .string ⟨#[]⟩, .int .i64 0, .slice none 0 0, .int .i64 0] 38) = w1 at *
 go_upto_region 2 with (go_at_call 84; refine (HX.out _ HR.out).mono ?_; rintro e w2 ⟨rfl, hr2, hb2⟩; replace HR := hide hr2; replace HB := hide (HB.out.trans hb2); replace HG := hide (HG.out.gb hb2 hne); clear hr2 hb2)
 have bq1 := bel1 w2 (.cells #[.int .i64 kd, .string tx, .int .i64 nn, .int .i64 ln] 129)
 have HT : Hid (BX (w2.alloc (.cells #[.int .i64 kd, .string tx, .int .i64 nn, .int .i64 ln] 129)) w2.heap.size #[.int .i64 kd, .string tx, .int .i64 nn, .int .i64 ln] 129) := BX.new w2 _ rfl _ _
 have hgs := HG.out.size
 replace HG := hide (HG.out.below bq1)
 replace HR := hide (HR.out.below bq1)
 have hgw := HB.out.1
 have hD2 : D < w2.heap.size := by omega
 replace HB := hide (HB.out.next bq1)
 clear bq1
 obtain ⟨g2, hg2⟩ : ∃ g, w2.heap.size = g := ⟨_, rfl⟩
 have hg2w : w.heap.size ≤ g2 := by omega
 have hne2 : g2 ≠ D := by omega
 have hg2D : D < g2 := by omega
 have hgg : g2 ≠ g := by omega
 clear hgs
 rw [hg2] at HT ⊢
 clear hg2 hD2 hgw
 generalize w2.alloc (.cells #[.int .i64 kd, .string tx, .int .i64 nn, .int .i64 ln] 129) = w3 at *
 have t0 := HT.out.cell 0 _ rfl
 have t1 := HT.out.cell 1 _ rfl
 have t2 := HT.out.cell 2 _ rfl
 have t3 := HT.out.cell 3 _ rfl
 go_wp2_with (go_at_call 102; refine (HN.out _).mono ?_; rintro e w4 ⟨rfl, hb2⟩; replace HB := hide (HB.out.trans hb2); clear hb2)
 exact ⟨rfl, rfl, HB.out⟩
set_option maxHeartbeats 2000000 in
theorem rule_st_ok {D : Nat} {l : List Tk} {i p : Nat} {kd : Int} {tx : ByteArray} {nn ln : Int} (ht : l[i]? = some (kd, tx, nn, ln)) {kd2 : Int} {tx2 : ByteArray} {nn2 ln2 : Int} (ht2 : l[i + 1]? = some (kd2, tx2, nn2, ln2)) (q0 : (tx.toList == [115, 116, 114, 105, 99, 116]) = true) {k : Int} {nm ot : ByteArray} {n2 : Int} (hn : Gv 102 [.agg #[.int .i64 kd2, .string tx2, .int .i64 nn2, .int .i64 ln2]] D l (i + 1 + 1) p (.agg #[.int .i64 k, .bool false, .string nm, .string ot, .int .i64 n2, .slice none 0 0, .int .i64 0])) : Gv 94 [] D l i p (.agg #[.int .i64 k, .bool true, .string nm, .string ot, .int .i64 n2, .slice none 0 0, .int .i64 0]) := by
 have HN := hide hn
 clear hn
 have HX2 := hide (nextP (D := D) ht2)
 clear ht2
 have HX := hide (nextP (D := D) ht)
 clear ht
 intro w hr
 have bq0 := bel1 w (.cells #[.int .i64 0, .bool false, .string ⟨#[]⟩, .string ⟨#[]⟩, .int .i64 0, .slice none 0 0, .int .i64 0] 38)
 have HB : Hid (GB D w (w.alloc (.cells #[.int .i64 0, .bool false, .string ⟨#[]⟩, .string ⟨#[]⟩, .int .i64 0, .slice none 0 0, .int .i64 0] 38))) := GB.below D bq0
 have HG : Hid (BX (w.alloc (.cells #[.int .i64 0, .bool false, .string ⟨#[]⟩, .string ⟨#[]⟩, .int .i64 0, .slice none 0 0, .int .i64 0] 38)) w.heap.size #[.int .i64 0, .bool false, .string ⟨#[]⟩, .string ⟨#[]⟩, .int .i64 0, .slice none 0 0, .int .i64 0] 38) := BX.new w _ rfl _ _
 have HR := hide (hr.below bq0)
 have hD := hr.size
 clear hr bq0
 obtain ⟨g, hg⟩ : ∃ g, w.heap.size = g := ⟨_, rfl⟩
 have hgD : D < g := by omega
 have hne : g ≠ D := by omega
 go_enter Tryz.func94, Tryz.ntmps94
 go_upto_region 1 with fail
 rw [hg] at HG
 have hg1 : w.heap.size ≤ g := by omega
 generalize w.alloc (.cells #[.int .i64 0, .bool false, .string ⟨#[]⟩, .string ⟨#[]⟩, .int .i64 0, .slice none 0 0, .int .i64 0] 38) = w1 at *
 go_upto_region 2 with (go_at_call 84; refine (HX.out _ HR.out).mono ?_; rintro e w2 ⟨rfl, hr2, hb2⟩; replace HR := hide hr2; replace HB := hide (HB.out.trans hb2); replace HG := hide (HG.out.gb hb2 hne); clear hr2 hb2)
 have bq1 := bel1 w2 (.cells #[.int .i64 kd, .string tx, .int .i64 nn, .int .i64 ln] 129)
 have HT : Hid (BX (w2.alloc (.cells #[.int .i64 kd, .string tx, .int .i64 nn, .int .i64 ln] 129)) w2.heap.size #[.int .i64 kd, .string tx, .int .i64 nn, .int .i64 ln] 129) := BX.new w2 _ rfl _ _
 have hgs := HG.out.size
 replace HG := hide (HG.out.below bq1)
 replace HR := hide (HR.out.below bq1)
 have hgw := HB.out.1
 have hD2 : D < w2.heap.size := by omega
 replace HB := hide (HB.out.next bq1)
 clear bq1
 obtain ⟨g2, hg2⟩ : ∃ g, w2.heap.size = g := ⟨_, rfl⟩
 have hg2w : w.heap.size ≤ g2 := by omega
 have hne2 : g2 ≠ D := by omega
 have hg2D : D < g2 := by omega
 have hgg : g2 ≠ g := by omega
 clear hgs
 rw [hg2] at HT ⊢
 clear hg2 hD2 hgw
 generalize w2.alloc (.cells #[.int .i64 kd, .string tx, .int .i64 nn, .int .i64 ln] 129) = w3 at *
 have t0 := HT.out.cell 0 _ rfl
 have t1 := HT.out.cell 1 _ rfl
 have t2 := HT.out.cell 2 _ rfl
 have t3 := HT.out.cell 3 _ rfl
 go_upto_region 5 with (first | (go_at_call 84; refine (HX2.out _ HR.out).mono ?_; rintro e w4 ⟨rfl, hr2, hb2⟩; replace HR := hide hr2; replace HB := hide (HB.out.trans hb2); replace HG := hide (HG.out.gb hb2 hne); clear hr2 hb2) | (go_at_call 102; refine (HN.out _ HR.out).mono ?_; rintro e w5 ⟨rfl, hr2, hb2⟩; replace HR := hide hr2; replace HB := hide (HB.out.trans hb2); replace HG := hide (HG.out.gb hb2 hne); clear hr2 hb2))
 clear t0 t1 t2 t3 hgg hne2 hg2D hg2w HT
 have bq1 := bel1 w5 (.cells #[.int .i64 k, .bool false, .string nm, .string ot, .int .i64 n2, .slice none 0 0, .int .i64 0] 38)
 have HS : Hid (BX (w5.alloc (.cells #[.int .i64 k, .bool false, .string nm, .string ot, .int .i64 n2, .slice none 0 0, .int .i64 0] 38)) w5.heap.size #[.int .i64 k, .bool false, .string nm, .string ot, .int .i64 n2, .slice none 0 0, .int .i64 0] 38) := BX.new w5 _ rfl _ _
 have hgs := HG.out.size
 replace HG := hide (HG.out.below bq1)
 replace HR := hide (HR.out.below bq1)
 have hgw := HB.out.1
 have hD2 : D < w5.heap.size := by omega
 replace HB := hide (HB.out.next bq1)
 clear bq1
 obtain ⟨g3, hg2⟩ : ∃ g, w5.heap.size = g := ⟨_, rfl⟩
 have hg3w : w.heap.size ≤ g3 := by omega
 have hne3 : g3 ≠ D := by omega
 have hg3D : D < g3 := by omega
 have hggg3 : g3 ≠ g := by omega
 clear hgs
 rw [hg2] at HS ⊢
 clear hg2 hD2 hgw
 generalize w5.alloc (.cells #[.int .i64 k, .bool false, .string nm, .string ot, .int .i64 n2, .slice none 0 0, .int .i64 0] 38) = w6 at *
 have q1 := HS.out.cell 1 _ rfl
 have q2 := HS.out.free 1
 go_upto_region 6 with fail
 replace HR := hide (HR.out.other hg3D 1 (.bool true))
 replace HB := hide (HB.out.new g3 hg3w 1 (.bool true))
 replace HG := hide (HG.out.other hggg3 1 (.bool true))
 replace HS : Hid (BX (w6.setCell ⟨g3, 1, none⟩ (.bool true)) g3 #[.int .i64 k, .bool true, .string nm, .string ot, .int .i64 n2, .slice none 0 0, .int .i64 0] 38) := HS.out.set 1 (.bool true)
 clear q1 q2
 generalize w6.setCell ⟨g3, 1, none⟩ (.bool true) = w7 at *
 have t0 := HS.out.cell 0 _ rfl
 have t1 := HS.out.cell 1 _ rfl
 have t2 := HS.out.cell 2 _ rfl
 have t3 := HS.out.cell 3 _ rfl
 have t4 := HS.out.cell 4 _ rfl
 have t5 := HS.out.cell 5 _ rfl
 have t6 := HS.out.cell 6 _ rfl
 have z0 := HG.out.cell 0 _ rfl
 have y0 := HG.out.free 0
 have z1 := HG.out.cell 1 _ rfl
 have y1 := HG.out.free 1
 have z2 := HG.out.cell 2 _ rfl
 have y2 := HG.out.free 2
 have z3 := HG.out.cell 3 _ rfl
 have y3 := HG.out.free 3
 have z4 := HG.out.cell 4 _ rfl
 have y4 := HG.out.free 4
 have z5 := HG.out.cell 5 _ rfl
 have y5 := HG.out.free 5
 have z6 := HG.out.cell 6 _ rfl
 have y6 := HG.out.free 6
 go_wp2
 refine bodyPost_ret (results_cell_row rfl _ _ _ _ _ _ _ rfl (HG.out.put7 _ _ _ _ _ _ _).1 Tryz.underlying38 rfl Tryz.sizeDc) rfl ?_
 exact ⟨rfl, HR.out.put7 hgD _ _ _ _ _ _ _, HB.out.put7 hg1 _ _ _ _ _ _ _⟩
set_option maxHeartbeats 2000000 in
theorem rule_st_no {D : Nat} {l : List Tk} {i p : Nat} {kd : Int} {tx : ByteArray} {nn ln : Int} (ht : l[i]? = some (kd, tx, nn, ln)) {kd2 : Int} {tx2 : ByteArray} {nn2 ln2 : Int} (ht2 : l[i + 1]? = some (kd2, tx2, nn2, ln2)) (q0 : (tx.toList == [115, 116, 114, 105, 99, 116]) = true) (hn : Up 102 [.agg #[.int .i64 kd2, .string tx2, .int .i64 nn2, .int .i64 ln2]] D l (i + 1 + 1) p) : Up 94 [] D l i p := by
 have HN := hide hn
 generalize lnU l p = y at *
 clear hn
 have HX2 := hide (nextP (D := D) ht2)
 clear ht2
 have HX := hide (nextP (D := D) ht)
 clear ht
 intro w hr
 have bq0 := bel1 w (.cells #[.int .i64 0, .bool false, .string ⟨#[]⟩, .string ⟨#[]⟩, .int .i64 0, .slice none 0 0, .int .i64 0] 38)
 have HB : Hid (GB D w (w.alloc (.cells #[.int .i64 0, .bool false, .string ⟨#[]⟩, .string ⟨#[]⟩, .int .i64 0, .slice none 0 0, .int .i64 0] 38))) := GB.below D bq0
 have HG : Hid (BX (w.alloc (.cells #[.int .i64 0, .bool false, .string ⟨#[]⟩, .string ⟨#[]⟩, .int .i64 0, .slice none 0 0, .int .i64 0] 38)) w.heap.size #[.int .i64 0, .bool false, .string ⟨#[]⟩, .string ⟨#[]⟩, .int .i64 0, .slice none 0 0, .int .i64 0] 38) := BX.new w _ rfl _ _
 have HR := hide (hr.below bq0)
 have hD := hr.size
 clear hr bq0
 obtain ⟨g, hg⟩ : ∃ g, w.heap.size = g := ⟨_, rfl⟩
 have hgD : D < g := by omega
 have hne : g ≠ D := by omega
 go_enter Tryz.func94, Tryz.ntmps94
 go_upto_region 1 with fail
 rw [hg] at HG
 have hg1 : w.heap.size ≤ g := by omega
 generalize w.alloc (.cells #[.int .i64 0, .bool false, .string ⟨#[]⟩, .string ⟨#[]⟩, .int .i64 0, .slice none 0 0, .int .i64 0] 38) = w1 at *
 go_upto_region 2 with (go_at_call 84; refine (HX.out _ HR.out).mono ?_; rintro e w2 ⟨rfl, hr2, hb2⟩; replace HR := hide hr2; replace HB := hide (HB.out.trans hb2); replace HG := hide (HG.out.gb hb2 hne); clear hr2 hb2)
 have bq1 := bel1 w2 (.cells #[.int .i64 kd, .string tx, .int .i64 nn, .int .i64 ln] 129)
 have HT : Hid (BX (w2.alloc (.cells #[.int .i64 kd, .string tx, .int .i64 nn, .int .i64 ln] 129)) w2.heap.size #[.int .i64 kd, .string tx, .int .i64 nn, .int .i64 ln] 129) := BX.new w2 _ rfl _ _
 have hgs := HG.out.size
 replace HG := hide (HG.out.below bq1)
 replace HR := hide (HR.out.below bq1)
 have hgw := HB.out.1
 have hD2 : D < w2.heap.size := by omega
 replace HB := hide (HB.out.next bq1)
 clear bq1
 obtain ⟨g2, hg2⟩ : ∃ g, w2.heap.size = g := ⟨_, rfl⟩
 have hg2w : w.heap.size ≤ g2 := by omega
 have hne2 : g2 ≠ D := by omega
 have hg2D : D < g2 := by omega
 have hgg : g2 ≠ g := by omega
 clear hgs
 rw [hg2] at HT ⊢
 clear hg2 hD2 hgw
 generalize w2.alloc (.cells #[.int .i64 kd, .string tx, .int .i64 nn, .int .i64 ln] 129) = w3 at *
 have t0 := HT.out.cell 0 _ rfl
 have t1 := HT.out.cell 1 _ rfl
 have t2 := HT.out.cell 2 _ rfl
 have t3 := HT.out.cell 3 _ rfl
 go_wp2_with (first | (go_at_call 84; refine (HX2.out _ HR.out).mono ?_; rintro e w4 ⟨rfl, hr2, hb2⟩; replace HR := hide hr2; replace HB := hide (HB.out.trans hb2); replace HG := hide (HG.out.gb hb2 hne); clear hr2 hb2) | (go_at_call 102; refine (HN.out _ HR.out).mono ?_; rintro e w5 ⟨rfl, hb2⟩; replace HB := hide (HB.out.trans hb2); clear hb2))
 exact ⟨rfl, rfl, HB.out⟩
set_option maxHeartbeats 2000000 in
theorem rule_st_none {D : Nat} {l : List Tk} {i p : Nat} {kd : Int} {tx : ByteArray} {nn ln : Int} (ht : l[i]? = some (kd, tx, nn, ln)) {kd2 : Int} {tx2 : ByteArray} {nn2 ln2 : Int} (ht2 : l[i + 1]? = some (kd2, tx2, nn2, ln2)) (q0 : (tx.toList == [115, 116, 114, 105, 99, 116]) = true) (hn : ∀ w, Calls Tryz.prog 102 #[.pointer (some ⟨D, 0, none⟩), .agg #[.int .i64 kd2, .string tx2, .int .i64 nn2, .int .i64 ln2]] w fun e w' => e = .panicked [{ v := noL ln2, recovered := false }] ∧ GB D w w') : Up 94 [] D l i (i + 1) := by
 have HN := hide hn
 have HL : Hid (lnU l (i + 1) = ln2) := lnU_at ht2
 clear hn
 have HX2 := hide (nextP (D := D) ht2)
 clear ht2
 have HX := hide (nextP (D := D) ht)
 clear ht
 intro w hr
 rw [HL.out]
 have bq0 := bel1 w (.cells #[.int .i64 0, .bool false, .string ⟨#[]⟩, .string ⟨#[]⟩, .int .i64 0, .slice none 0 0, .int .i64 0] 38)
 have HB : Hid (GB D w (w.alloc (.cells #[.int .i64 0, .bool false, .string ⟨#[]⟩, .string ⟨#[]⟩, .int .i64 0, .slice none 0 0, .int .i64 0] 38))) := GB.below D bq0
 have HG : Hid (BX (w.alloc (.cells #[.int .i64 0, .bool false, .string ⟨#[]⟩, .string ⟨#[]⟩, .int .i64 0, .slice none 0 0, .int .i64 0] 38)) w.heap.size #[.int .i64 0, .bool false, .string ⟨#[]⟩, .string ⟨#[]⟩, .int .i64 0, .slice none 0 0, .int .i64 0] 38) := BX.new w _ rfl _ _
 have HR := hide (hr.below bq0)
 have hD := hr.size
 clear hr bq0
 obtain ⟨g, hg⟩ : ∃ g, w.heap.size = g := ⟨_, rfl⟩
 have hgD : D < g := by omega
 have hne : g ≠ D := by omega
 go_enter Tryz.func94, Tryz.ntmps94
 go_upto_region 1 with fail
 rw [hg] at HG
 have hg1 : w.heap.size ≤ g := by omega
 generalize w.alloc (.cells #[.int .i64 0, .bool false, .string ⟨#[]⟩, .string ⟨#[]⟩, .int .i64 0, .slice none 0 0, .int .i64 0] 38) = w1 at *
 go_upto_region 2 with (go_at_call 84; refine (HX.out _ HR.out).mono ?_; rintro e w2 ⟨rfl, hr2, hb2⟩; replace HR := hide hr2; replace HB := hide (HB.out.trans hb2); replace HG := hide (HG.out.gb hb2 hne); clear hr2 hb2)
 have bq1 := bel1 w2 (.cells #[.int .i64 kd, .string tx, .int .i64 nn, .int .i64 ln] 129)
 have HT : Hid (BX (w2.alloc (.cells #[.int .i64 kd, .string tx, .int .i64 nn, .int .i64 ln] 129)) w2.heap.size #[.int .i64 kd, .string tx, .int .i64 nn, .int .i64 ln] 129) := BX.new w2 _ rfl _ _
 have hgs := HG.out.size
 replace HG := hide (HG.out.below bq1)
 replace HR := hide (HR.out.below bq1)
 have hgw := HB.out.1
 have hD2 : D < w2.heap.size := by omega
 replace HB := hide (HB.out.next bq1)
 clear bq1
 obtain ⟨g2, hg2⟩ : ∃ g, w2.heap.size = g := ⟨_, rfl⟩
 have hg2w : w.heap.size ≤ g2 := by omega
 have hne2 : g2 ≠ D := by omega
 have hg2D : D < g2 := by omega
 have hgg : g2 ≠ g := by omega
 clear hgs
 rw [hg2] at HT ⊢
 clear hg2 hD2 hgw
 generalize w2.alloc (.cells #[.int .i64 kd, .string tx, .int .i64 nn, .int .i64 ln] 129) = w3 at *
 have t0 := HT.out.cell 0 _ rfl
 have t1 := HT.out.cell 1 _ rfl
 have t2 := HT.out.cell 2 _ rfl
 have t3 := HT.out.cell 3 _ rfl
 go_wp2_with (first | (go_at_call 84; refine (HX2.out _ HR.out).mono ?_; rintro e w4 ⟨rfl, hr2, hb2⟩; replace HR := hide hr2; replace HB := hide (HB.out.trans hb2); replace HG := hide (HG.out.gb hb2 hne); clear hr2 hb2) | (go_at_call 102; refine (HN.out _).mono ?_; rintro e w5 ⟨rfl, hb2⟩; replace HB := hide (HB.out.trans hb2); clear hb2))
 exact ⟨rfl, rfl, HB.out⟩
theorem rule15P {D : Nat} {l : List Tk} {m i : Nat} (hL : Ln l m) (hi : i ≤ m) (st : Bool) (hs : decide (txtU l i = ⟨#[115, 116, 114, 105, 99, 116]⟩) = st) {d : Dc} {at' : Nat} {ok : Bool} (hr : rlR l st (if st = true then i + 1 else i) = (d, at', ok)) : (ok = true ∧ d.2.2.2.2.2.1 = [] ∧ Gv 94 [] D l i at' (.agg (decV d none 0 0))) ∨ (ok = false ∧ Up 94 [] D l i at') := by
 obtain ⟨kd, tx, nn, ln, ht, e0⟩ := hL.get hi
 have q0 : (tx.toList == [115, 116, 114, 105, 99, 116]) = decide (tx = ⟨#[115, 116, 114, 105, 99, 116]⟩) := by
  have q := eqK tx ⟨#[115, 116, 114, 105, 99, 116]⟩
  rw [ByteArray.toList_eq ⟨#[115, 116, 114, 105, 99, 116]⟩] at q
  exact q
 rw [e0] at hs
 cases st
 ·rw [hs] at q0
  rw [if_neg (by decide)] at hr
  unfold rlR at hr
  rw [e0] at hr
  have hi1 : tx ≠ ⟨#[]⟩ → i + 1 ≤ m := fun h => hL.txt hi (by rw [e0]; exact h)
  rcases clause15 (D := D) hL kd tx nn ln hi1 with ⟨h0, hn⟩ | ⟨h0, hf, hn⟩ | ⟨h0, hf, hn⟩
  ·rw [if_pos h0] at hr
   cases hr
   exact .inr ⟨rfl, rule_pl_none (p := 0) ht q0 hn⟩
  ·rw [if_neg h0, if_neg (by omega)] at hr
   cases hr
   exact .inl ⟨rfl, rfl, rule_pl_ok ht q0 hn⟩
  ·rw [if_neg h0, if_pos hf] at hr
   cases hr
   exact .inr ⟨rfl, rule_pl_no ht q0 hn⟩
 ·rw [hs] at q0
  rw [if_pos rfl] at hr
  have h1 : i + 1 ≤ m := hL.txt hi (by rw [e0, of_decide_eq_true hs]; decide)
  obtain ⟨kd2, tx2, nn2, ln2, ht2, e2⟩ := hL.get h1
  unfold rlR at hr
  rw [e2] at hr
  have hi1 : tx2 ≠ ⟨#[]⟩ → i + 1 + 1 ≤ m := fun h => hL.txt h1 (by rw [e2]; exact h)
  rcases clause15 (D := D) hL kd2 tx2 nn2 ln2 hi1 with ⟨h0, hn⟩ | ⟨h0, hf, hn⟩ | ⟨h0, hf, hn⟩
  ·rw [if_pos h0] at hr
   cases hr
   exact .inr ⟨rfl, rule_st_none (p := 0) ht ht2 q0 hn⟩
  ·rw [if_neg h0, if_neg (by omega)] at hr
   cases hr
   exact .inl ⟨rfl, rfl, rule_st_ok ht ht2 q0 hn⟩
  ·rw [if_neg h0, if_pos hf] at hr
   cases hr
   exact .inr ⟨rfl, rule_st_no ht ht2 q0 hn⟩
set_option maxHeartbeats 2000000 in
theorem deed_add_ok {D : Nat} {l : List Tk} {i p : Nat} {kd : Int} {tx : ByteArray} {nn ln : Int} (ht : l[i]? = some (kd, tx, nn, ln)) (q0 : (tx.toList == [97, 100, 100]) = true) {nm : ByteArray} {n2 : Int} (hn : Gv 109 [.int .i64 1] D l (i + 1) p (.agg #[.int .i64 1, .string nm, .int .i64 n2])) : Gv 104 [] D l i p (.agg #[.int .i64 1, .string nm, .int .i64 n2]) := by
 have HN := hide hn
 clear hn
 have HX := hide (nextP (D := D) ht)
 clear ht
 intro w hr
 have bq0 := bel1 w (.cells #[.int .i64 0, .string ⟨#[]⟩, .int .i64 0] 40)
 have HB : Hid (GB D w (w.alloc (.cells #[.int .i64 0, .string ⟨#[]⟩, .int .i64 0] 40))) := GB.below D bq0
 have HG : Hid (BX (w.alloc (.cells #[.int .i64 0, .string ⟨#[]⟩, .int .i64 0] 40)) w.heap.size #[.int .i64 0, .string ⟨#[]⟩, .int .i64 0] 40) := BX.new w _ rfl _ _
 have HR := hide (hr.below bq0)
 have hD := hr.size
 clear hr bq0
 obtain ⟨g, hg⟩ : ∃ g, w.heap.size = g := ⟨_, rfl⟩
 have hgD : D < g := by omega
 have hne : g ≠ D := by omega
 go_enter Tryz.func104, Tryz.ntmps104
 go_upto_region 1 with fail
 rw [hg] at HG
 have hg1 : w.heap.size ≤ g := by omega
 generalize w.alloc (.cells #[.int .i64 0, .string ⟨#[]⟩, .int .i64 0] 40) = w1 at *
 go_upto_region 2 with (go_at_call 84; refine (HX.out _ HR.out).mono ?_; rintro e w2 ⟨rfl, hr2, hb2⟩; replace HR := hide hr2; replace HB := hide (HB.out.trans hb2); replace HG := hide (HG.out.gb hb2 hne); clear hr2 hb2)
 have bq1 := bel1 w2 (.cells #[.int .i64 kd, .string tx, .int .i64 nn, .int .i64 ln] 129)
 have HT : Hid (BX (w2.alloc (.cells #[.int .i64 kd, .string tx, .int .i64 nn, .int .i64 ln] 129)) w2.heap.size #[.int .i64 kd, .string tx, .int .i64 nn, .int .i64 ln] 129) := BX.new w2 _ rfl _ _
 have hgs := HG.out.size
 replace HG := hide (HG.out.below bq1)
 replace HR := hide (HR.out.below bq1)
 have hgw := HB.out.1
 have hD2 : D < w2.heap.size := by omega
 replace HB := hide (HB.out.next bq1)
 clear bq1
 obtain ⟨g2, hg2⟩ : ∃ g, w2.heap.size = g := ⟨_, rfl⟩
 have hg2w : w.heap.size ≤ g2 := by omega
 have hne2 : g2 ≠ D := by omega
 have hg2D : D < g2 := by omega
 have hgg : g2 ≠ g := by omega
 clear hgs
 rw [hg2] at HT ⊢
 clear hg2 hD2 hgw
 generalize w2.alloc (.cells #[.int .i64 kd, .string tx, .int .i64 nn, .int .i64 ln] 129) = w3 at *
 have t1 := HT.out.cell 1 _ rfl
 have t3 := HT.out.cell 3 _ rfl
 go_wp2_with (go_at_call 109; refine (HN.out _ HR.out).mono ?_; rintro e w4 ⟨rfl, hr2, hb2⟩; replace HR := hide hr2; replace HB := hide (HB.out.trans hb2); replace HG := hide (HG.out.gb hb2 hne); clear hr2 hb2; have z0 := HG.out.cell 0 _ rfl; have y0 := HG.out.free 0; have z1 := HG.out.cell 1 _ rfl; have y1 := HG.out.free 1; have z2 := HG.out.cell 2 _ rfl; have y2 := HG.out.free 2)
 refine bodyPost_ret (results_cell_row rfl _ _ _ _ _ _ _ rfl (HG.out.put3 _ _ _).1 Tryz.underlying40 rfl Tryz.sizeDd) rfl ?_
 exact ⟨rfl, HR.out.put3 hgD _ _ _, HB.out.put3 hg1 _ _ _⟩
set_option maxHeartbeats 2000000 in
theorem deed_add_no {D : Nat} {l : List Tk} {i p : Nat} {kd : Int} {tx : ByteArray} {nn ln : Int} (ht : l[i]? = some (kd, tx, nn, ln)) (q0 : (tx.toList == [97, 100, 100]) = true) (hn : Up 109 [.int .i64 1] D l (i + 1) p) : Up 104 [] D l i p := by
 have HN := hide hn
 generalize lnU l p = y at *
 clear hn
 have HX := hide (nextP (D := D) ht)
 clear ht
 intro w hr
 have bq0 := bel1 w (.cells #[.int .i64 0, .string ⟨#[]⟩, .int .i64 0] 40)
 have HB : Hid (GB D w (w.alloc (.cells #[.int .i64 0, .string ⟨#[]⟩, .int .i64 0] 40))) := GB.below D bq0
 have HG : Hid (BX (w.alloc (.cells #[.int .i64 0, .string ⟨#[]⟩, .int .i64 0] 40)) w.heap.size #[.int .i64 0, .string ⟨#[]⟩, .int .i64 0] 40) := BX.new w _ rfl _ _
 have HR := hide (hr.below bq0)
 have hD := hr.size
 clear hr bq0
 obtain ⟨g, hg⟩ : ∃ g, w.heap.size = g := ⟨_, rfl⟩
 have hgD : D < g := by omega
 have hne : g ≠ D := by omega
 go_enter Tryz.func104, Tryz.ntmps104
 go_upto_region 1 with fail
 rw [hg] at HG
 have hg1 : w.heap.size ≤ g := by omega
 generalize w.alloc (.cells #[.int .i64 0, .string ⟨#[]⟩, .int .i64 0] 40) = w1 at *
 go_upto_region 2 with (go_at_call 84; refine (HX.out _ HR.out).mono ?_; rintro e w2 ⟨rfl, hr2, hb2⟩; replace HR := hide hr2; replace HB := hide (HB.out.trans hb2); replace HG := hide (HG.out.gb hb2 hne); clear hr2 hb2)
 have bq1 := bel1 w2 (.cells #[.int .i64 kd, .string tx, .int .i64 nn, .int .i64 ln] 129)
 have HT : Hid (BX (w2.alloc (.cells #[.int .i64 kd, .string tx, .int .i64 nn, .int .i64 ln] 129)) w2.heap.size #[.int .i64 kd, .string tx, .int .i64 nn, .int .i64 ln] 129) := BX.new w2 _ rfl _ _
 have hgs := HG.out.size
 replace HG := hide (HG.out.below bq1)
 replace HR := hide (HR.out.below bq1)
 have hgw := HB.out.1
 have hD2 : D < w2.heap.size := by omega
 replace HB := hide (HB.out.next bq1)
 clear bq1
 obtain ⟨g2, hg2⟩ : ∃ g, w2.heap.size = g := ⟨_, rfl⟩
 have hg2w : w.heap.size ≤ g2 := by omega
 have hne2 : g2 ≠ D := by omega
 have hg2D : D < g2 := by omega
 have hgg : g2 ≠ g := by omega
 clear hgs
 rw [hg2] at HT ⊢
 clear hg2 hD2 hgw
 generalize w2.alloc (.cells #[.int .i64 kd, .string tx, .int .i64 nn, .int .i64 ln] 129) = w3 at *
 have t1 := HT.out.cell 1 _ rfl
 have t3 := HT.out.cell 3 _ rfl
 go_wp2_with (go_at_call 109; refine (HN.out _ HR.out).mono ?_; rintro e w4 ⟨rfl, hb2⟩; replace HB := hide (HB.out.trans hb2); clear hb2)
 exact ⟨rfl, rfl, HB.out⟩
set_option maxHeartbeats 2000000 in
theorem deed_drop_ok {D : Nat} {l : List Tk} {i p : Nat} {kd : Int} {tx : ByteArray} {nn ln : Int} (ht : l[i]? = some (kd, tx, nn, ln)) (q0 : (tx.toList == [97, 100, 100]) = false) (q1 : (tx.toList == [100, 114, 111, 112]) = true) {nm : ByteArray} {n2 : Int} (hn : Gv 109 [.int .i64 2] D l (i + 1) p (.agg #[.int .i64 2, .string nm, .int .i64 n2])) : Gv 104 [] D l i p (.agg #[.int .i64 2, .string nm, .int .i64 n2]) := by
 have HN := hide hn
 clear hn
 have HX := hide (nextP (D := D) ht)
 clear ht
 intro w hr
 have bq0 := bel1 w (.cells #[.int .i64 0, .string ⟨#[]⟩, .int .i64 0] 40)
 have HB : Hid (GB D w (w.alloc (.cells #[.int .i64 0, .string ⟨#[]⟩, .int .i64 0] 40))) := GB.below D bq0
 have HG : Hid (BX (w.alloc (.cells #[.int .i64 0, .string ⟨#[]⟩, .int .i64 0] 40)) w.heap.size #[.int .i64 0, .string ⟨#[]⟩, .int .i64 0] 40) := BX.new w _ rfl _ _
 have HR := hide (hr.below bq0)
 have hD := hr.size
 clear hr bq0
 obtain ⟨g, hg⟩ : ∃ g, w.heap.size = g := ⟨_, rfl⟩
 have hgD : D < g := by omega
 have hne : g ≠ D := by omega
 go_enter Tryz.func104, Tryz.ntmps104
 go_upto_region 1 with fail
 rw [hg] at HG
 have hg1 : w.heap.size ≤ g := by omega
 generalize w.alloc (.cells #[.int .i64 0, .string ⟨#[]⟩, .int .i64 0] 40) = w1 at *
 go_upto_region 2 with (go_at_call 84; refine (HX.out _ HR.out).mono ?_; rintro e w2 ⟨rfl, hr2, hb2⟩; replace HR := hide hr2; replace HB := hide (HB.out.trans hb2); replace HG := hide (HG.out.gb hb2 hne); clear hr2 hb2)
 have bq1 := bel1 w2 (.cells #[.int .i64 kd, .string tx, .int .i64 nn, .int .i64 ln] 129)
 have HT : Hid (BX (w2.alloc (.cells #[.int .i64 kd, .string tx, .int .i64 nn, .int .i64 ln] 129)) w2.heap.size #[.int .i64 kd, .string tx, .int .i64 nn, .int .i64 ln] 129) := BX.new w2 _ rfl _ _
 have hgs := HG.out.size
 replace HG := hide (HG.out.below bq1)
 replace HR := hide (HR.out.below bq1)
 have hgw := HB.out.1
 have hD2 : D < w2.heap.size := by omega
 replace HB := hide (HB.out.next bq1)
 clear bq1
 obtain ⟨g2, hg2⟩ : ∃ g, w2.heap.size = g := ⟨_, rfl⟩
 have hg2w : w.heap.size ≤ g2 := by omega
 have hne2 : g2 ≠ D := by omega
 have hg2D : D < g2 := by omega
 have hgg : g2 ≠ g := by omega
 clear hgs
 rw [hg2] at HT ⊢
 clear hg2 hD2 hgw
 generalize w2.alloc (.cells #[.int .i64 kd, .string tx, .int .i64 nn, .int .i64 ln] 129) = w3 at *
 have t1 := HT.out.cell 1 _ rfl
 have t3 := HT.out.cell 3 _ rfl
 go_wp2_with (go_at_call 109; refine (HN.out _ HR.out).mono ?_; rintro e w4 ⟨rfl, hr2, hb2⟩; replace HR := hide hr2; replace HB := hide (HB.out.trans hb2); replace HG := hide (HG.out.gb hb2 hne); clear hr2 hb2; have z0 := HG.out.cell 0 _ rfl; have y0 := HG.out.free 0; have z1 := HG.out.cell 1 _ rfl; have y1 := HG.out.free 1; have z2 := HG.out.cell 2 _ rfl; have y2 := HG.out.free 2)
 refine bodyPost_ret (results_cell_row rfl _ _ _ _ _ _ _ rfl (HG.out.put3 _ _ _).1 Tryz.underlying40 rfl Tryz.sizeDd) rfl ?_
 exact ⟨rfl, HR.out.put3 hgD _ _ _, HB.out.put3 hg1 _ _ _⟩
set_option maxHeartbeats 2000000 in
theorem deed_drop_no {D : Nat} {l : List Tk} {i p : Nat} {kd : Int} {tx : ByteArray} {nn ln : Int} (ht : l[i]? = some (kd, tx, nn, ln)) (q0 : (tx.toList == [97, 100, 100]) = false) (q1 : (tx.toList == [100, 114, 111, 112]) = true) (hn : Up 109 [.int .i64 2] D l (i + 1) p) : Up 104 [] D l i p := by
 have HN := hide hn
 generalize lnU l p = y at *
 clear hn
 have HX := hide (nextP (D := D) ht)
 clear ht
 intro w hr
 have bq0 := bel1 w (.cells #[.int .i64 0, .string ⟨#[]⟩, .int .i64 0] 40)
 have HB : Hid (GB D w (w.alloc (.cells #[.int .i64 0, .string ⟨#[]⟩, .int .i64 0] 40))) := GB.below D bq0
 have HG : Hid (BX (w.alloc (.cells #[.int .i64 0, .string ⟨#[]⟩, .int .i64 0] 40)) w.heap.size #[.int .i64 0, .string ⟨#[]⟩, .int .i64 0] 40) := BX.new w _ rfl _ _
 have HR := hide (hr.below bq0)
 have hD := hr.size
 clear hr bq0
 obtain ⟨g, hg⟩ : ∃ g, w.heap.size = g := ⟨_, rfl⟩
 have hgD : D < g := by omega
 have hne : g ≠ D := by omega
 go_enter Tryz.func104, Tryz.ntmps104
 go_upto_region 1 with fail
 rw [hg] at HG
 have hg1 : w.heap.size ≤ g := by omega
 generalize w.alloc (.cells #[.int .i64 0, .string ⟨#[]⟩, .int .i64 0] 40) = w1 at *
 go_upto_region 2 with (go_at_call 84; refine (HX.out _ HR.out).mono ?_; rintro e w2 ⟨rfl, hr2, hb2⟩; replace HR := hide hr2; replace HB := hide (HB.out.trans hb2); replace HG := hide (HG.out.gb hb2 hne); clear hr2 hb2)
 have bq1 := bel1 w2 (.cells #[.int .i64 kd, .string tx, .int .i64 nn, .int .i64 ln] 129)
 have HT : Hid (BX (w2.alloc (.cells #[.int .i64 kd, .string tx, .int .i64 nn, .int .i64 ln] 129)) w2.heap.size #[.int .i64 kd, .string tx, .int .i64 nn, .int .i64 ln] 129) := BX.new w2 _ rfl _ _
 have hgs := HG.out.size
 replace HG := hide (HG.out.below bq1)
 replace HR := hide (HR.out.below bq1)
 have hgw := HB.out.1
 have hD2 : D < w2.heap.size := by omega
 replace HB := hide (HB.out.next bq1)
 clear bq1
 obtain ⟨g2, hg2⟩ : ∃ g, w2.heap.size = g := ⟨_, rfl⟩
 have hg2w : w.heap.size ≤ g2 := by omega
 have hne2 : g2 ≠ D := by omega
 have hg2D : D < g2 := by omega
 have hgg : g2 ≠ g := by omega
 clear hgs
 rw [hg2] at HT ⊢
 clear hg2 hD2 hgw
 generalize w2.alloc (.cells #[.int .i64 kd, .string tx, .int .i64 nn, .int .i64 ln] 129) = w3 at *
 have t1 := HT.out.cell 1 _ rfl
 have t3 := HT.out.cell 3 _ rfl
 go_wp2_with (go_at_call 109; refine (HN.out _ HR.out).mono ?_; rintro e w4 ⟨rfl, hb2⟩; replace HB := hide (HB.out.trans hb2); clear hb2)
 exact ⟨rfl, rfl, HB.out⟩
set_option maxHeartbeats 2000000 in
theorem deed_put_ok {D : Nat} {l : List Tk} {i p : Nat} {kd : Int} {tx : ByteArray} {nn ln : Int} (ht : l[i]? = some (kd, tx, nn, ln)) (q0 : (tx.toList == [97, 100, 100]) = false) (q1 : (tx.toList == [100, 114, 111, 112]) = false) (q2 : (tx.toList == [112, 117, 116]) = true) {nm : ByteArray} {n2 : Int} (hn : Gv 109 [.int .i64 6] D l (i + 1) p (.agg #[.int .i64 6, .string nm, .int .i64 n2])) : Gv 104 [] D l i p (.agg #[.int .i64 6, .string nm, .int .i64 n2]) := by
 have HN := hide hn
 clear hn
 have HX := hide (nextP (D := D) ht)
 clear ht
 intro w hr
 have bq0 := bel1 w (.cells #[.int .i64 0, .string ⟨#[]⟩, .int .i64 0] 40)
 have HB : Hid (GB D w (w.alloc (.cells #[.int .i64 0, .string ⟨#[]⟩, .int .i64 0] 40))) := GB.below D bq0
 have HG : Hid (BX (w.alloc (.cells #[.int .i64 0, .string ⟨#[]⟩, .int .i64 0] 40)) w.heap.size #[.int .i64 0, .string ⟨#[]⟩, .int .i64 0] 40) := BX.new w _ rfl _ _
 have HR := hide (hr.below bq0)
 have hD := hr.size
 clear hr bq0
 obtain ⟨g, hg⟩ : ∃ g, w.heap.size = g := ⟨_, rfl⟩
 have hgD : D < g := by omega
 have hne : g ≠ D := by omega
 go_enter Tryz.func104, Tryz.ntmps104
 go_upto_region 1 with fail
 rw [hg] at HG
 have hg1 : w.heap.size ≤ g := by omega
 generalize w.alloc (.cells #[.int .i64 0, .string ⟨#[]⟩, .int .i64 0] 40) = w1 at *
 go_upto_region 2 with (go_at_call 84; refine (HX.out _ HR.out).mono ?_; rintro e w2 ⟨rfl, hr2, hb2⟩; replace HR := hide hr2; replace HB := hide (HB.out.trans hb2); replace HG := hide (HG.out.gb hb2 hne); clear hr2 hb2)
 have bq1 := bel1 w2 (.cells #[.int .i64 kd, .string tx, .int .i64 nn, .int .i64 ln] 129)
 have HT : Hid (BX (w2.alloc (.cells #[.int .i64 kd, .string tx, .int .i64 nn, .int .i64 ln] 129)) w2.heap.size #[.int .i64 kd, .string tx, .int .i64 nn, .int .i64 ln] 129) := BX.new w2 _ rfl _ _
 have hgs := HG.out.size
 replace HG := hide (HG.out.below bq1)
 replace HR := hide (HR.out.below bq1)
 have hgw := HB.out.1
 have hD2 : D < w2.heap.size := by omega
 replace HB := hide (HB.out.next bq1)
 clear bq1
 obtain ⟨g2, hg2⟩ : ∃ g, w2.heap.size = g := ⟨_, rfl⟩
 have hg2w : w.heap.size ≤ g2 := by omega
 have hne2 : g2 ≠ D := by omega
 have hg2D : D < g2 := by omega
 have hgg : g2 ≠ g := by omega
 clear hgs
 rw [hg2] at HT ⊢
 clear hg2 hD2 hgw
 generalize w2.alloc (.cells #[.int .i64 kd, .string tx, .int .i64 nn, .int .i64 ln] 129) = w3 at *
 have t1 := HT.out.cell 1 _ rfl
 have t3 := HT.out.cell 3 _ rfl
 go_wp2_with (go_at_call 109; refine (HN.out _ HR.out).mono ?_; rintro e w4 ⟨rfl, hr2, hb2⟩; replace HR := hide hr2; replace HB := hide (HB.out.trans hb2); replace HG := hide (HG.out.gb hb2 hne); clear hr2 hb2; have z0 := HG.out.cell 0 _ rfl; have y0 := HG.out.free 0; have z1 := HG.out.cell 1 _ rfl; have y1 := HG.out.free 1; have z2 := HG.out.cell 2 _ rfl; have y2 := HG.out.free 2)
 refine bodyPost_ret (results_cell_row rfl _ _ _ _ _ _ _ rfl (HG.out.put3 _ _ _).1 Tryz.underlying40 rfl Tryz.sizeDd) rfl ?_
 exact ⟨rfl, HR.out.put3 hgD _ _ _, HB.out.put3 hg1 _ _ _⟩
set_option maxHeartbeats 2000000 in
theorem deed_put_no {D : Nat} {l : List Tk} {i p : Nat} {kd : Int} {tx : ByteArray} {nn ln : Int} (ht : l[i]? = some (kd, tx, nn, ln)) (q0 : (tx.toList == [97, 100, 100]) = false) (q1 : (tx.toList == [100, 114, 111, 112]) = false) (q2 : (tx.toList == [112, 117, 116]) = true) (hn : Up 109 [.int .i64 6] D l (i + 1) p) : Up 104 [] D l i p := by
 have HN := hide hn
 generalize lnU l p = y at *
 clear hn
 have HX := hide (nextP (D := D) ht)
 clear ht
 intro w hr
 have bq0 := bel1 w (.cells #[.int .i64 0, .string ⟨#[]⟩, .int .i64 0] 40)
 have HB : Hid (GB D w (w.alloc (.cells #[.int .i64 0, .string ⟨#[]⟩, .int .i64 0] 40))) := GB.below D bq0
 have HG : Hid (BX (w.alloc (.cells #[.int .i64 0, .string ⟨#[]⟩, .int .i64 0] 40)) w.heap.size #[.int .i64 0, .string ⟨#[]⟩, .int .i64 0] 40) := BX.new w _ rfl _ _
 have HR := hide (hr.below bq0)
 have hD := hr.size
 clear hr bq0
 obtain ⟨g, hg⟩ : ∃ g, w.heap.size = g := ⟨_, rfl⟩
 have hgD : D < g := by omega
 have hne : g ≠ D := by omega
 go_enter Tryz.func104, Tryz.ntmps104
 go_upto_region 1 with fail
 rw [hg] at HG
 have hg1 : w.heap.size ≤ g := by omega
 generalize w.alloc (.cells #[.int .i64 0, .string ⟨#[]⟩, .int .i64 0] 40) = w1 at *
 go_upto_region 2 with (go_at_call 84; refine (HX.out _ HR.out).mono ?_; rintro e w2 ⟨rfl, hr2, hb2⟩; replace HR := hide hr2; replace HB := hide (HB.out.trans hb2); replace HG := hide (HG.out.gb hb2 hne); clear hr2 hb2)
 have bq1 := bel1 w2 (.cells #[.int .i64 kd, .string tx, .int .i64 nn, .int .i64 ln] 129)
 have HT : Hid (BX (w2.alloc (.cells #[.int .i64 kd, .string tx, .int .i64 nn, .int .i64 ln] 129)) w2.heap.size #[.int .i64 kd, .string tx, .int .i64 nn, .int .i64 ln] 129) := BX.new w2 _ rfl _ _
 have hgs := HG.out.size
 replace HG := hide (HG.out.below bq1)
 replace HR := hide (HR.out.below bq1)
 have hgw := HB.out.1
 have hD2 : D < w2.heap.size := by omega
 replace HB := hide (HB.out.next bq1)
 clear bq1
 obtain ⟨g2, hg2⟩ : ∃ g, w2.heap.size = g := ⟨_, rfl⟩
 have hg2w : w.heap.size ≤ g2 := by omega
 have hne2 : g2 ≠ D := by omega
 have hg2D : D < g2 := by omega
 have hgg : g2 ≠ g := by omega
 clear hgs
 rw [hg2] at HT ⊢
 clear hg2 hD2 hgw
 generalize w2.alloc (.cells #[.int .i64 kd, .string tx, .int .i64 nn, .int .i64 ln] 129) = w3 at *
 have t1 := HT.out.cell 1 _ rfl
 have t3 := HT.out.cell 3 _ rfl
 go_wp2_with (go_at_call 109; refine (HN.out _ HR.out).mono ?_; rintro e w4 ⟨rfl, hb2⟩; replace HB := hide (HB.out.trans hb2); clear hb2)
 exact ⟨rfl, rfl, HB.out⟩
set_option maxHeartbeats 2000000 in
theorem deed_up_ok {D : Nat} {l : List Tk} {i p : Nat} {kd : Int} {tx : ByteArray} {nn ln : Int} (ht : l[i]? = some (kd, tx, nn, ln)) (q0 : (tx.toList == [97, 100, 100]) = false) (q1 : (tx.toList == [100, 114, 111, 112]) = false) (q2 : (tx.toList == [112, 117, 116]) = false) (q3 : (tx.toList == [117, 112]) = true) {nm : ByteArray} {n2 : Int} (hn : Gv 110 [.int .i64 3] D l (i + 1) p (.agg #[.int .i64 3, .string nm, .int .i64 n2])) : Gv 104 [] D l i p (.agg #[.int .i64 3, .string nm, .int .i64 n2]) := by
 have HN := hide hn
 clear hn
 have HX := hide (nextP (D := D) ht)
 clear ht
 intro w hr
 have bq0 := bel1 w (.cells #[.int .i64 0, .string ⟨#[]⟩, .int .i64 0] 40)
 have HB : Hid (GB D w (w.alloc (.cells #[.int .i64 0, .string ⟨#[]⟩, .int .i64 0] 40))) := GB.below D bq0
 have HG : Hid (BX (w.alloc (.cells #[.int .i64 0, .string ⟨#[]⟩, .int .i64 0] 40)) w.heap.size #[.int .i64 0, .string ⟨#[]⟩, .int .i64 0] 40) := BX.new w _ rfl _ _
 have HR := hide (hr.below bq0)
 have hD := hr.size
 clear hr bq0
 obtain ⟨g, hg⟩ : ∃ g, w.heap.size = g := ⟨_, rfl⟩
 have hgD : D < g := by omega
 have hne : g ≠ D := by omega
 go_enter Tryz.func104, Tryz.ntmps104
 go_upto_region 1 with fail
 rw [hg] at HG
 have hg1 : w.heap.size ≤ g := by omega
 generalize w.alloc (.cells #[.int .i64 0, .string ⟨#[]⟩, .int .i64 0] 40) = w1 at *
 go_upto_region 2 with (go_at_call 84; refine (HX.out _ HR.out).mono ?_; rintro e w2 ⟨rfl, hr2, hb2⟩; replace HR := hide hr2; replace HB := hide (HB.out.trans hb2); replace HG := hide (HG.out.gb hb2 hne); clear hr2 hb2)
 have bq1 := bel1 w2 (.cells #[.int .i64 kd, .string tx, .int .i64 nn, .int .i64 ln] 129)
 have HT : Hid (BX (w2.alloc (.cells #[.int .i64 kd, .string tx, .int .i64 nn, .int .i64 ln] 129)) w2.heap.size #[.int .i64 kd, .string tx, .int .i64 nn, .int .i64 ln] 129) := BX.new w2 _ rfl _ _
 have hgs := HG.out.size
 replace HG := hide (HG.out.below bq1)
 replace HR := hide (HR.out.below bq1)
 have hgw := HB.out.1
 have hD2 : D < w2.heap.size := by omega
 replace HB := hide (HB.out.next bq1)
 clear bq1
 obtain ⟨g2, hg2⟩ : ∃ g, w2.heap.size = g := ⟨_, rfl⟩
 have hg2w : w.heap.size ≤ g2 := by omega
 have hne2 : g2 ≠ D := by omega
 have hg2D : D < g2 := by omega
 have hgg : g2 ≠ g := by omega
 clear hgs
 rw [hg2] at HT ⊢
 clear hg2 hD2 hgw
 generalize w2.alloc (.cells #[.int .i64 kd, .string tx, .int .i64 nn, .int .i64 ln] 129) = w3 at *
 have t1 := HT.out.cell 1 _ rfl
 have t3 := HT.out.cell 3 _ rfl
 go_wp2_with (go_at_call 110; refine (HN.out _ HR.out).mono ?_; rintro e w4 ⟨rfl, hr2, hb2⟩; replace HR := hide hr2; replace HB := hide (HB.out.trans hb2); replace HG := hide (HG.out.gb hb2 hne); clear hr2 hb2; have z0 := HG.out.cell 0 _ rfl; have y0 := HG.out.free 0; have z1 := HG.out.cell 1 _ rfl; have y1 := HG.out.free 1; have z2 := HG.out.cell 2 _ rfl; have y2 := HG.out.free 2)
 refine bodyPost_ret (results_cell_row rfl _ _ _ _ _ _ _ rfl (HG.out.put3 _ _ _).1 Tryz.underlying40 rfl Tryz.sizeDd) rfl ?_
 exact ⟨rfl, HR.out.put3 hgD _ _ _, HB.out.put3 hg1 _ _ _⟩
set_option maxHeartbeats 2000000 in
theorem deed_up_no {D : Nat} {l : List Tk} {i p : Nat} {kd : Int} {tx : ByteArray} {nn ln : Int} (ht : l[i]? = some (kd, tx, nn, ln)) (q0 : (tx.toList == [97, 100, 100]) = false) (q1 : (tx.toList == [100, 114, 111, 112]) = false) (q2 : (tx.toList == [112, 117, 116]) = false) (q3 : (tx.toList == [117, 112]) = true) (hn : Up 110 [.int .i64 3] D l (i + 1) p) : Up 104 [] D l i p := by
 have HN := hide hn
 generalize lnU l p = y at *
 clear hn
 have HX := hide (nextP (D := D) ht)
 clear ht
 intro w hr
 have bq0 := bel1 w (.cells #[.int .i64 0, .string ⟨#[]⟩, .int .i64 0] 40)
 have HB : Hid (GB D w (w.alloc (.cells #[.int .i64 0, .string ⟨#[]⟩, .int .i64 0] 40))) := GB.below D bq0
 have HG : Hid (BX (w.alloc (.cells #[.int .i64 0, .string ⟨#[]⟩, .int .i64 0] 40)) w.heap.size #[.int .i64 0, .string ⟨#[]⟩, .int .i64 0] 40) := BX.new w _ rfl _ _
 have HR := hide (hr.below bq0)
 have hD := hr.size
 clear hr bq0
 obtain ⟨g, hg⟩ : ∃ g, w.heap.size = g := ⟨_, rfl⟩
 have hgD : D < g := by omega
 have hne : g ≠ D := by omega
 go_enter Tryz.func104, Tryz.ntmps104
 go_upto_region 1 with fail
 rw [hg] at HG
 have hg1 : w.heap.size ≤ g := by omega
 generalize w.alloc (.cells #[.int .i64 0, .string ⟨#[]⟩, .int .i64 0] 40) = w1 at *
 go_upto_region 2 with (go_at_call 84; refine (HX.out _ HR.out).mono ?_; rintro e w2 ⟨rfl, hr2, hb2⟩; replace HR := hide hr2; replace HB := hide (HB.out.trans hb2); replace HG := hide (HG.out.gb hb2 hne); clear hr2 hb2)
 have bq1 := bel1 w2 (.cells #[.int .i64 kd, .string tx, .int .i64 nn, .int .i64 ln] 129)
 have HT : Hid (BX (w2.alloc (.cells #[.int .i64 kd, .string tx, .int .i64 nn, .int .i64 ln] 129)) w2.heap.size #[.int .i64 kd, .string tx, .int .i64 nn, .int .i64 ln] 129) := BX.new w2 _ rfl _ _
 have hgs := HG.out.size
 replace HG := hide (HG.out.below bq1)
 replace HR := hide (HR.out.below bq1)
 have hgw := HB.out.1
 have hD2 : D < w2.heap.size := by omega
 replace HB := hide (HB.out.next bq1)
 clear bq1
 obtain ⟨g2, hg2⟩ : ∃ g, w2.heap.size = g := ⟨_, rfl⟩
 have hg2w : w.heap.size ≤ g2 := by omega
 have hne2 : g2 ≠ D := by omega
 have hg2D : D < g2 := by omega
 have hgg : g2 ≠ g := by omega
 clear hgs
 rw [hg2] at HT ⊢
 clear hg2 hD2 hgw
 generalize w2.alloc (.cells #[.int .i64 kd, .string tx, .int .i64 nn, .int .i64 ln] 129) = w3 at *
 have t1 := HT.out.cell 1 _ rfl
 have t3 := HT.out.cell 3 _ rfl
 go_wp2_with (go_at_call 110; refine (HN.out _ HR.out).mono ?_; rintro e w4 ⟨rfl, hb2⟩; replace HB := hide (HB.out.trans hb2); clear hb2)
 exact ⟨rfl, rfl, HB.out⟩
set_option maxHeartbeats 2000000 in
theorem deed_down_ok {D : Nat} {l : List Tk} {i p : Nat} {kd : Int} {tx : ByteArray} {nn ln : Int} (ht : l[i]? = some (kd, tx, nn, ln)) (q0 : (tx.toList == [97, 100, 100]) = false) (q1 : (tx.toList == [100, 114, 111, 112]) = false) (q2 : (tx.toList == [112, 117, 116]) = false) (q3 : (tx.toList == [117, 112]) = false) (q4 : (tx.toList == [100, 111, 119, 110]) = true) {nm : ByteArray} {n2 : Int} (hn : Gv 110 [.int .i64 4] D l (i + 1) p (.agg #[.int .i64 4, .string nm, .int .i64 n2])) : Gv 104 [] D l i p (.agg #[.int .i64 4, .string nm, .int .i64 n2]) := by
 have HN := hide hn
 clear hn
 have HX := hide (nextP (D := D) ht)
 clear ht
 intro w hr
 have bq0 := bel1 w (.cells #[.int .i64 0, .string ⟨#[]⟩, .int .i64 0] 40)
 have HB : Hid (GB D w (w.alloc (.cells #[.int .i64 0, .string ⟨#[]⟩, .int .i64 0] 40))) := GB.below D bq0
 have HG : Hid (BX (w.alloc (.cells #[.int .i64 0, .string ⟨#[]⟩, .int .i64 0] 40)) w.heap.size #[.int .i64 0, .string ⟨#[]⟩, .int .i64 0] 40) := BX.new w _ rfl _ _
 have HR := hide (hr.below bq0)
 have hD := hr.size
 clear hr bq0
 obtain ⟨g, hg⟩ : ∃ g, w.heap.size = g := ⟨_, rfl⟩
 have hgD : D < g := by omega
 have hne : g ≠ D := by omega
 go_enter Tryz.func104, Tryz.ntmps104
 go_upto_region 1 with fail
 rw [hg] at HG
 have hg1 : w.heap.size ≤ g := by omega
 generalize w.alloc (.cells #[.int .i64 0, .string ⟨#[]⟩, .int .i64 0] 40) = w1 at *
 go_upto_region 2 with (go_at_call 84; refine (HX.out _ HR.out).mono ?_; rintro e w2 ⟨rfl, hr2, hb2⟩; replace HR := hide hr2; replace HB := hide (HB.out.trans hb2); replace HG := hide (HG.out.gb hb2 hne); clear hr2 hb2)
 have bq1 := bel1 w2 (.cells #[.int .i64 kd, .string tx, .int .i64 nn, .int .i64 ln] 129)
 have HT : Hid (BX (w2.alloc (.cells #[.int .i64 kd, .string tx, .int .i64 nn, .int .i64 ln] 129)) w2.heap.size #[.int .i64 kd, .string tx, .int .i64 nn, .int .i64 ln] 129) := BX.new w2 _ rfl _ _
 have hgs := HG.out.size
 replace HG := hide (HG.out.below bq1)
 replace HR := hide (HR.out.below bq1)
 have hgw := HB.out.1
 have hD2 : D < w2.heap.size := by omega
 replace HB := hide (HB.out.next bq1)
 clear bq1
 obtain ⟨g2, hg2⟩ : ∃ g, w2.heap.size = g := ⟨_, rfl⟩
 have hg2w : w.heap.size ≤ g2 := by omega
 have hne2 : g2 ≠ D := by omega
 have hg2D : D < g2 := by omega
 have hgg : g2 ≠ g := by omega
 clear hgs
 rw [hg2] at HT ⊢
 clear hg2 hD2 hgw
 generalize w2.alloc (.cells #[.int .i64 kd, .string tx, .int .i64 nn, .int .i64 ln] 129) = w3 at *
 have t1 := HT.out.cell 1 _ rfl
 have t3 := HT.out.cell 3 _ rfl
 go_wp2_with (go_at_call 110; refine (HN.out _ HR.out).mono ?_; rintro e w4 ⟨rfl, hr2, hb2⟩; replace HR := hide hr2; replace HB := hide (HB.out.trans hb2); replace HG := hide (HG.out.gb hb2 hne); clear hr2 hb2; have z0 := HG.out.cell 0 _ rfl; have y0 := HG.out.free 0; have z1 := HG.out.cell 1 _ rfl; have y1 := HG.out.free 1; have z2 := HG.out.cell 2 _ rfl; have y2 := HG.out.free 2)
 refine bodyPost_ret (results_cell_row rfl _ _ _ _ _ _ _ rfl (HG.out.put3 _ _ _).1 Tryz.underlying40 rfl Tryz.sizeDd) rfl ?_
 exact ⟨rfl, HR.out.put3 hgD _ _ _, HB.out.put3 hg1 _ _ _⟩
set_option maxHeartbeats 2000000 in
theorem deed_down_no {D : Nat} {l : List Tk} {i p : Nat} {kd : Int} {tx : ByteArray} {nn ln : Int} (ht : l[i]? = some (kd, tx, nn, ln)) (q0 : (tx.toList == [97, 100, 100]) = false) (q1 : (tx.toList == [100, 114, 111, 112]) = false) (q2 : (tx.toList == [112, 117, 116]) = false) (q3 : (tx.toList == [117, 112]) = false) (q4 : (tx.toList == [100, 111, 119, 110]) = true) (hn : Up 110 [.int .i64 4] D l (i + 1) p) : Up 104 [] D l i p := by
 have HN := hide hn
 generalize lnU l p = y at *
 clear hn
 have HX := hide (nextP (D := D) ht)
 clear ht
 intro w hr
 have bq0 := bel1 w (.cells #[.int .i64 0, .string ⟨#[]⟩, .int .i64 0] 40)
 have HB : Hid (GB D w (w.alloc (.cells #[.int .i64 0, .string ⟨#[]⟩, .int .i64 0] 40))) := GB.below D bq0
 have HG : Hid (BX (w.alloc (.cells #[.int .i64 0, .string ⟨#[]⟩, .int .i64 0] 40)) w.heap.size #[.int .i64 0, .string ⟨#[]⟩, .int .i64 0] 40) := BX.new w _ rfl _ _
 have HR := hide (hr.below bq0)
 have hD := hr.size
 clear hr bq0
 obtain ⟨g, hg⟩ : ∃ g, w.heap.size = g := ⟨_, rfl⟩
 have hgD : D < g := by omega
 have hne : g ≠ D := by omega
 go_enter Tryz.func104, Tryz.ntmps104
 go_upto_region 1 with fail
 rw [hg] at HG
 have hg1 : w.heap.size ≤ g := by omega
 generalize w.alloc (.cells #[.int .i64 0, .string ⟨#[]⟩, .int .i64 0] 40) = w1 at *
 go_upto_region 2 with (go_at_call 84; refine (HX.out _ HR.out).mono ?_; rintro e w2 ⟨rfl, hr2, hb2⟩; replace HR := hide hr2; replace HB := hide (HB.out.trans hb2); replace HG := hide (HG.out.gb hb2 hne); clear hr2 hb2)
 have bq1 := bel1 w2 (.cells #[.int .i64 kd, .string tx, .int .i64 nn, .int .i64 ln] 129)
 have HT : Hid (BX (w2.alloc (.cells #[.int .i64 kd, .string tx, .int .i64 nn, .int .i64 ln] 129)) w2.heap.size #[.int .i64 kd, .string tx, .int .i64 nn, .int .i64 ln] 129) := BX.new w2 _ rfl _ _
 have hgs := HG.out.size
 replace HG := hide (HG.out.below bq1)
 replace HR := hide (HR.out.below bq1)
 have hgw := HB.out.1
 have hD2 : D < w2.heap.size := by omega
 replace HB := hide (HB.out.next bq1)
 clear bq1
 obtain ⟨g2, hg2⟩ : ∃ g, w2.heap.size = g := ⟨_, rfl⟩
 have hg2w : w.heap.size ≤ g2 := by omega
 have hne2 : g2 ≠ D := by omega
 have hg2D : D < g2 := by omega
 have hgg : g2 ≠ g := by omega
 clear hgs
 rw [hg2] at HT ⊢
 clear hg2 hD2 hgw
 generalize w2.alloc (.cells #[.int .i64 kd, .string tx, .int .i64 nn, .int .i64 ln] 129) = w3 at *
 have t1 := HT.out.cell 1 _ rfl
 have t3 := HT.out.cell 3 _ rfl
 go_wp2_with (go_at_call 110; refine (HN.out _ HR.out).mono ?_; rintro e w4 ⟨rfl, hb2⟩; replace HB := hide (HB.out.trans hb2); clear hb2)
 exact ⟨rfl, rfl, HB.out⟩
set_option maxHeartbeats 2000000 in
theorem deed_none {D : Nat} {l : List Tk} {i : Nat} {kd : Int} {tx : ByteArray} {nn ln : Int} (ht : l[i]? = some (kd, tx, nn, ln)) (q0 : (tx.toList == [97, 100, 100]) = false) (q1 : (tx.toList == [100, 114, 111, 112]) = false) (q2 : (tx.toList == [112, 117, 116]) = false) (q3 : (tx.toList == [117, 112]) = false) (q4 : (tx.toList == [100, 111, 119, 110]) = false) : Up 104 [] D l i i := by
 have HL : Hid (lnU l i = ln) := lnU_at ht
 have HX := hide (nextP (D := D) ht)
 clear ht
 intro w hr
 rw [HL.out]
 have bq0 := bel1 w (.cells #[.int .i64 0, .string ⟨#[]⟩, .int .i64 0] 40)
 have HB : Hid (GB D w (w.alloc (.cells #[.int .i64 0, .string ⟨#[]⟩, .int .i64 0] 40))) := GB.below D bq0
 have HG : Hid (BX (w.alloc (.cells #[.int .i64 0, .string ⟨#[]⟩, .int .i64 0] 40)) w.heap.size #[.int .i64 0, .string ⟨#[]⟩, .int .i64 0] 40) := BX.new w _ rfl _ _
 have HR := hide (hr.below bq0)
 have hD := hr.size
 clear hr bq0
 obtain ⟨g, hg⟩ : ∃ g, w.heap.size = g := ⟨_, rfl⟩
 have hgD : D < g := by omega
 have hne : g ≠ D := by omega
 go_enter Tryz.func104, Tryz.ntmps104
 go_upto_region 1 with fail
 rw [hg] at HG
 have hg1 : w.heap.size ≤ g := by omega
 generalize w.alloc (.cells #[.int .i64 0, .string ⟨#[]⟩, .int .i64 0] 40) = w1 at *
 go_upto_region 2 with (go_at_call 84; refine (HX.out _ HR.out).mono ?_; rintro e w2 ⟨rfl, hr2, hb2⟩; replace HR := hide hr2; replace HB := hide (HB.out.trans hb2); replace HG := hide (HG.out.gb hb2 hne); clear hr2 hb2)
 have bq1 := bel1 w2 (.cells #[.int .i64 kd, .string tx, .int .i64 nn, .int .i64 ln] 129)
 have HT : Hid (BX (w2.alloc (.cells #[.int .i64 kd, .string tx, .int .i64 nn, .int .i64 ln] 129)) w2.heap.size #[.int .i64 kd, .string tx, .int .i64 nn, .int .i64 ln] 129) := BX.new w2 _ rfl _ _
 have hgs := HG.out.size
 replace HG := hide (HG.out.below bq1)
 replace HR := hide (HR.out.below bq1)
 have hgw := HB.out.1
 have hD2 : D < w2.heap.size := by omega
 replace HB := hide (HB.out.next bq1)
 clear bq1
 obtain ⟨g2, hg2⟩ : ∃ g, w2.heap.size = g := ⟨_, rfl⟩
 have hg2w : w.heap.size ≤ g2 := by omega
 have hne2 : g2 ≠ D := by omega
 have hg2D : D < g2 := by omega
 have hgg : g2 ≠ g := by omega
 clear hgs
 rw [hg2] at HT ⊢
 clear hg2 hD2 hgw
 generalize w2.alloc (.cells #[.int .i64 kd, .string tx, .int .i64 nn, .int .i64 ln] 129) = w3 at *
 have t1 := HT.out.cell 1 _ rfl
 have t3 := HT.out.cell 3 _ rfl
 go_wp2
 exact ⟨rfl, rfl, HB.out⟩
theorem deed15P {D : Nat} {l : List Tk} {m i : Nat} (hL : Ln l m) (hi : i ≤ m) : ((deedU (txtU l i)).1 = 0 ∧ Up 104 [] D l i i) ∨ ∃ kd fm, kd ≠ 0 ∧ deedU (txtU l i) = (kd, fm) ∧ i + 1 ≤ m ∧ ((frmU l (i + 1) fm = fm.length ∧ i + 1 + fm.length ≤ m ∧ Gv 104 [] D l i (i + 1 + fm.length) (.agg (encDd (kd, txtU l (i + 1), if fm.length = 2 then numU l (i + 2) else 0)).toArray)) ∨ (frmU l (i + 1) fm < fm.length ∧ Up 104 [] D l i (i + 1 + frmU l (i + 1) fm))) := by
 obtain ⟨kd, tx, nn, ln, ht, e0⟩ := hL.get hi
 have hi1 : tx ≠ ⟨#[]⟩ → i + 1 ≤ m := fun h => hL.txt hi (by rw [e0]; exact h)
 rw [e0]
 have q0 : (tx.toList == [97, 100, 100]) = decide (tx = ⟨#[97, 100, 100]⟩) := by
  have q := eqK tx ⟨#[97, 100, 100]⟩
  rw [ByteArray.toList_eq ⟨#[97, 100, 100]⟩] at q
  exact q
 by_cases h0 : tx = ⟨#[97, 100, 100]⟩
 ·have e : deedU tx = (1, [110]) := by rw [h0]; decide
  have hm1 : i + 1 ≤ m := hi1 (by rw [h0]; decide)
  rw [decide_eq_true h0] at q0
  rw [e]
  refine .inr ⟨1, [110], by decide, rfl, hm1, ?_⟩
  rcases plain15 (D := D) hL hm1 1 with ⟨h, hn⟩ | ⟨h, hn⟩
  ·exact .inl ⟨h, hL.nam hm1 (by rw [frm1] at h; by_cases hx : namU l (i + 1) = true; exact hx; rw [if_neg hx] at h; cases h), deed_add_ok ht q0 hn⟩
  ·exact .inr ⟨h, deed_add_no ht q0 hn⟩
 rw [decide_eq_false h0] at q0
 have q1 : (tx.toList == [100, 114, 111, 112]) = decide (tx = ⟨#[100, 114, 111, 112]⟩) := by
  have q := eqK tx ⟨#[100, 114, 111, 112]⟩
  rw [ByteArray.toList_eq ⟨#[100, 114, 111, 112]⟩] at q
  exact q
 by_cases h1 : tx = ⟨#[100, 114, 111, 112]⟩
 ·have e : deedU tx = (2, [110]) := by rw [h1]; decide
  have hm1 : i + 1 ≤ m := hi1 (by rw [h1]; decide)
  rw [decide_eq_true h1] at q1
  rw [e]
  refine .inr ⟨2, [110], by decide, rfl, hm1, ?_⟩
  rcases plain15 (D := D) hL hm1 2 with ⟨h, hn⟩ | ⟨h, hn⟩
  ·exact .inl ⟨h, hL.nam hm1 (by rw [frm1] at h; by_cases hx : namU l (i + 1) = true; exact hx; rw [if_neg hx] at h; cases h), deed_drop_ok ht q0 q1 hn⟩
  ·exact .inr ⟨h, deed_drop_no ht q0 q1 hn⟩
 rw [decide_eq_false h1] at q1
 have q2 : (tx.toList == [112, 117, 116]) = decide (tx = ⟨#[112, 117, 116]⟩) := by
  have q := eqK tx ⟨#[112, 117, 116]⟩
  rw [ByteArray.toList_eq ⟨#[112, 117, 116]⟩] at q
  exact q
 by_cases h2 : tx = ⟨#[112, 117, 116]⟩
 ·have e : deedU tx = (6, [110]) := by rw [h2]; decide
  have hm1 : i + 1 ≤ m := hi1 (by rw [h2]; decide)
  rw [decide_eq_true h2] at q2
  rw [e]
  refine .inr ⟨6, [110], by decide, rfl, hm1, ?_⟩
  rcases plain15 (D := D) hL hm1 6 with ⟨h, hn⟩ | ⟨h, hn⟩
  ·exact .inl ⟨h, hL.nam hm1 (by rw [frm1] at h; by_cases hx : namU l (i + 1) = true; exact hx; rw [if_neg hx] at h; cases h), deed_put_ok ht q0 q1 q2 hn⟩
  ·exact .inr ⟨h, deed_put_no ht q0 q1 q2 hn⟩
 rw [decide_eq_false h2] at q2
 have q3 : (tx.toList == [117, 112]) = decide (tx = ⟨#[117, 112]⟩) := by
  have q := eqK tx ⟨#[117, 112]⟩
  rw [ByteArray.toList_eq ⟨#[117, 112]⟩] at q
  exact q
 by_cases h3 : tx = ⟨#[117, 112]⟩
 ·have e : deedU tx = (3, [110, 100]) := by rw [h3]; decide
  have hm1 : i + 1 ≤ m := hi1 (by rw [h3]; decide)
  rw [decide_eq_true h3] at q3
  rw [e]
  refine .inr ⟨3, [110, 100], by decide, rfl, hm1, ?_⟩
  rcases step15 (D := D) hL hm1 3 with ⟨h, hn⟩ | ⟨h, hn⟩
  ·exact .inl ⟨h, (by
     rw [frm2] at h
     by_cases hx : namU l (i + 1) = true
     ·rw [if_pos hx] at h
      have h2 := hL.nam hm1 hx
      by_cases hy : isU l (i + 1 + 1) 2 = true
      ·exact hL.is h2 (by decide) (by decide) hy
      ·rw [if_neg hy] at h; cases h
     ·rw [if_neg hx] at h; cases h), deed_up_ok ht q0 q1 q2 q3 hn⟩
  ·exact .inr ⟨h, deed_up_no ht q0 q1 q2 q3 hn⟩
 rw [decide_eq_false h3] at q3
 have q4 : (tx.toList == [100, 111, 119, 110]) = decide (tx = ⟨#[100, 111, 119, 110]⟩) := by
  have q := eqK tx ⟨#[100, 111, 119, 110]⟩
  rw [ByteArray.toList_eq ⟨#[100, 111, 119, 110]⟩] at q
  exact q
 by_cases h4 : tx = ⟨#[100, 111, 119, 110]⟩
 ·have e : deedU tx = (4, [110, 100]) := by rw [h4]; decide
  have hm1 : i + 1 ≤ m := hi1 (by rw [h4]; decide)
  rw [decide_eq_true h4] at q4
  rw [e]
  refine .inr ⟨4, [110, 100], by decide, rfl, hm1, ?_⟩
  rcases step15 (D := D) hL hm1 4 with ⟨h, hn⟩ | ⟨h, hn⟩
  ·exact .inl ⟨h, (by
     rw [frm2] at h
     by_cases hx : namU l (i + 1) = true
     ·rw [if_pos hx] at h
      have h2 := hL.nam hm1 hx
      by_cases hy : isU l (i + 1 + 1) 2 = true
      ·exact hL.is h2 (by decide) (by decide) hy
      ·rw [if_neg hy] at h; cases h
     ·rw [if_neg hx] at h; cases h), deed_down_ok ht q0 q1 q2 q3 q4 hn⟩
  ·exact .inr ⟨h, deed_down_no ht q0 q1 q2 q3 q4 hn⟩
 rw [decide_eq_false h4] at q4
 refine .inl ⟨?_, deed_none ht q0 q1 q2 q3 q4⟩
 unfold deedU
 rw [if_neg h0, if_neg h1, if_neg h2, if_neg h3, if_neg h4]
end Go.Proofs.YtomppblgalepjaaGreatDoor

