/- Texts of this claim, joined: NR2. -/
import Derived.Test.YtomppblgalepjaaGreatDoorJ7
import Derived.Test.YtomppblgalepjaaGreatDoorJ8
/- The program's reader of lines: clauses and deeds (layer 15). -/
namespace Go.Proofs.YtomppblgalepjaaGreatDoor
open Go.RowKit Go.Lib
set_option linter.unusedVariables false
theorem Tryz.sizeDd : (Tryz.prog.info? 40).map (·.size) = some 3 := by kernel_rfl
theorem RP.put3 {D g : Nat} {w : World} {l : List Tk} (h : RP D w l) (hg : D < g) (a b c : Value) : RP D (((w.setCell ⟨g, 0, none⟩ a).setCell ⟨g, 1, none⟩ b).setCell ⟨g, 2, none⟩ c) l := ((h.other hg 0 a).other hg 1 b).other hg 2 c
theorem GB.put3 {D g : Nat} {u w : World} (h : GB D u w) (hg : u.heap.size ≤ g) (a b c : Value) : GB D u (((w.setCell ⟨g, 0, none⟩ a).setCell ⟨g, 1, none⟩ b).setCell ⟨g, 2, none⟩ c) := ((h.new g hg 0 a).new g hg 1 b).new g hg 2 c
set_option maxHeartbeats 2000000 in
theorem thing_ok {D : Nat} {l : List Tk} {i : Nat} (k : Int) (h : namU l i = true) : Gv 93 [.int .i64 k] D l i (i + 1) (.agg #[.int .i64 k, .bool false, .string (txtU l i), .string ⟨#[]⟩, .int .i64 0, .slice none 0 0, .int .i64 0]) := by
 have HN := hide (name_ok (D := D) h)
 generalize txtU l i = nm at *
 clear h
 intro w hr
 have bq0 := bel1 w (.cells #[.int .i64 0, .bool false, .string ⟨#[]⟩, .string ⟨#[]⟩, .int .i64 0, .slice none 0 0, .int .i64 0] 38)
 have HB : Hid (GB D w (w.alloc (.cells #[.int .i64 0, .bool false, .string ⟨#[]⟩, .string ⟨#[]⟩, .int .i64 0, .slice none 0 0, .int .i64 0] 38))) := GB.below D bq0
 have HG : Hid (BX (w.alloc (.cells #[.int .i64 0, .bool false, .string ⟨#[]⟩, .string ⟨#[]⟩, .int .i64 0, .slice none 0 0, .int .i64 0] 38)) w.heap.size #[.int .i64 0, .bool false, .string ⟨#[]⟩, .string ⟨#[]⟩, .int .i64 0, .slice none 0 0, .int .i64 0] 38) := BX.new w _ rfl _ _
 have HR := hide (hr.below bq0)
 have hD := hr.size
 clear hr bq0
 obtain ⟨g, hg⟩ : ∃ g, w.heap.size = g := ⟨_, rfl⟩
 have hgD : D < g := by omega
 have hne : g ≠ D := by omega
 go_enter Tryz.func93, Tryz.ntmps93
 go_upto_region 1 with fail
 rw [hg] at HG
 have hg1 : w.heap.size ≤ g := by omega
 generalize w.alloc (.cells #[.int .i64 0, .bool false, .string ⟨#[]⟩, .string ⟨#[]⟩, .int .i64 0, .slice none 0 0, .int .i64 0] 38) = w1 at *
 go_wp2_with (go_at_call 101; refine (HN.out _ HR.out).mono ?_; rintro e w2 ⟨rfl, hr2, hb2⟩; replace HR := hide hr2; replace HB := hide (HB.out.trans hb2); replace HG := hide (HG.out.gb hb2 hne); clear hr2 hb2; have z0 := HG.out.cell 0 _ rfl; have y0 := HG.out.free 0; have z1 := HG.out.cell 1 _ rfl; have y1 := HG.out.free 1; have z2 := HG.out.cell 2 _ rfl; have y2 := HG.out.free 2; have z3 := HG.out.cell 3 _ rfl; have y3 := HG.out.free 3; have z4 := HG.out.cell 4 _ rfl; have y4 := HG.out.free 4; have z5 := HG.out.cell 5 _ rfl; have y5 := HG.out.free 5; have z6 := HG.out.cell 6 _ rfl; have y6 := HG.out.free 6)
 refine bodyPost_ret (results_cell_row rfl _ _ _ _ _ _ _ rfl (HG.out.put7 _ _ _ _ _ _ _).1 Tryz.underlying38 rfl Tryz.sizeDc) rfl ?_
 exact ⟨rfl, HR.out.put7 hgD _ _ _ _ _ _ _, HB.out.put7 hg1 _ _ _ _ _ _ _⟩
set_option maxHeartbeats 2000000 in
theorem thing_no {D : Nat} {l : List Tk} {i : Nat} (k : Int) {t : Tk} (ht : l[i]? = some t) (h : namU l i = false) : Up 93 [.int .i64 k] D l i i := by
 have HN := hide (name_no (D := D) ht h)
 generalize lnU l i = y at *
 clear h ht
 intro w hr
 have bq0 := bel1 w (.cells #[.int .i64 0, .bool false, .string ⟨#[]⟩, .string ⟨#[]⟩, .int .i64 0, .slice none 0 0, .int .i64 0] 38)
 have HB : Hid (GB D w (w.alloc (.cells #[.int .i64 0, .bool false, .string ⟨#[]⟩, .string ⟨#[]⟩, .int .i64 0, .slice none 0 0, .int .i64 0] 38))) := GB.below D bq0
 have HG : Hid (BX (w.alloc (.cells #[.int .i64 0, .bool false, .string ⟨#[]⟩, .string ⟨#[]⟩, .int .i64 0, .slice none 0 0, .int .i64 0] 38)) w.heap.size #[.int .i64 0, .bool false, .string ⟨#[]⟩, .string ⟨#[]⟩, .int .i64 0, .slice none 0 0, .int .i64 0] 38) := BX.new w _ rfl _ _
 have HR := hide (hr.below bq0)
 have hD := hr.size
 clear hr bq0
 obtain ⟨g, hg⟩ : ∃ g, w.heap.size = g := ⟨_, rfl⟩
 have hgD : D < g := by omega
 have hne : g ≠ D := by omega
 go_enter Tryz.func93, Tryz.ntmps93
 go_upto_region 1 with fail
 rw [hg] at HG
 have hg1 : w.heap.size ≤ g := by omega
 generalize w.alloc (.cells #[.int .i64 0, .bool false, .string ⟨#[]⟩, .string ⟨#[]⟩, .int .i64 0, .slice none 0 0, .int .i64 0] 38) = w1 at *
 go_wp2_with (go_at_call 101; refine (HN.out _ HR.out).mono ?_; rintro e w2 ⟨rfl, hb2⟩; replace HB := hide (HB.out.trans hb2); clear hb2)
 exact ⟨rfl, rfl, HB.out⟩
set_option maxHeartbeats 2000000 in
theorem plain_ok {D : Nat} {l : List Tk} {i : Nat} (k : Int) (h : namU l i = true) : Gv 109 [.int .i64 k] D l i (i + 1) (.agg #[.int .i64 k, .string (txtU l i), .int .i64 0]) := by
 have HN := hide (name_ok (D := D) h)
 generalize txtU l i = nm at *
 clear h
 intro w hr
 have bq0 := bel1 w (.cells #[.int .i64 0, .string ⟨#[]⟩, .int .i64 0] 40)
 have HB : Hid (GB D w (w.alloc (.cells #[.int .i64 0, .string ⟨#[]⟩, .int .i64 0] 40))) := GB.below D bq0
 have HG : Hid (BX (w.alloc (.cells #[.int .i64 0, .string ⟨#[]⟩, .int .i64 0] 40)) w.heap.size #[.int .i64 0, .string ⟨#[]⟩, .int .i64 0] 40) := BX.new w _ rfl _ _
 have HR := hide (hr.below bq0)
 have hD := hr.size
 clear hr bq0
 obtain ⟨g, hg⟩ : ∃ g, w.heap.size = g := ⟨_, rfl⟩
 have hgD : D < g := by omega
 have hne : g ≠ D := by omega
 go_enter Tryz.func109, Tryz.ntmps109
 go_upto_region 1 with fail
 rw [hg] at HG
 have hg1 : w.heap.size ≤ g := by omega
 generalize w.alloc (.cells #[.int .i64 0, .string ⟨#[]⟩, .int .i64 0] 40) = w1 at *
 go_wp2_with (go_at_call 101; refine (HN.out _ HR.out).mono ?_; rintro e w2 ⟨rfl, hr2, hb2⟩; replace HR := hide hr2; replace HB := hide (HB.out.trans hb2); replace HG := hide (HG.out.gb hb2 hne); clear hr2 hb2; have z0 := HG.out.cell 0 _ rfl; have y0 := HG.out.free 0; have z1 := HG.out.cell 1 _ rfl; have y1 := HG.out.free 1; have z2 := HG.out.cell 2 _ rfl; have y2 := HG.out.free 2)
 refine bodyPost_ret (results_cell_row rfl _ _ _ _ _ _ _ rfl (HG.out.put3 _ _ _).1 Tryz.underlying40 rfl Tryz.sizeDd) rfl ?_
 exact ⟨rfl, HR.out.put3 hgD _ _ _, HB.out.put3 hg1 _ _ _⟩
set_option maxHeartbeats 2000000 in
theorem plain_no {D : Nat} {l : List Tk} {i : Nat} (k : Int) {t : Tk} (ht : l[i]? = some t) (h : namU l i = false) : Up 109 [.int .i64 k] D l i i := by
 have HN := hide (name_no (D := D) ht h)
 generalize lnU l i = y at *
 clear h ht
 intro w hr
 have bq0 := bel1 w (.cells #[.int .i64 0, .string ⟨#[]⟩, .int .i64 0] 40)
 have HB : Hid (GB D w (w.alloc (.cells #[.int .i64 0, .string ⟨#[]⟩, .int .i64 0] 40))) := GB.below D bq0
 have HG : Hid (BX (w.alloc (.cells #[.int .i64 0, .string ⟨#[]⟩, .int .i64 0] 40)) w.heap.size #[.int .i64 0, .string ⟨#[]⟩, .int .i64 0] 40) := BX.new w _ rfl _ _
 have HR := hide (hr.below bq0)
 have hD := hr.size
 clear hr bq0
 obtain ⟨g, hg⟩ : ∃ g, w.heap.size = g := ⟨_, rfl⟩
 have hgD : D < g := by omega
 have hne : g ≠ D := by omega
 go_enter Tryz.func109, Tryz.ntmps109
 go_upto_region 1 with fail
 rw [hg] at HG
 have hg1 : w.heap.size ≤ g := by omega
 generalize w.alloc (.cells #[.int .i64 0, .string ⟨#[]⟩, .int .i64 0] 40) = w1 at *
 go_wp2_with (go_at_call 101; refine (HN.out _ HR.out).mono ?_; rintro e w2 ⟨rfl, hb2⟩; replace HB := hide (HB.out.trans hb2); clear hb2)
 exact ⟨rfl, rfl, HB.out⟩
set_option maxHeartbeats 2000000 in
theorem pair_ok {D : Nat} {l : List Tk} {i : Nat} (k : Int) (h : namU l i = true) (h2 : namU l (i + 1) = true) : Gv 107 [.int .i64 k] D l i (i + 2) (.agg #[.int .i64 k, .bool false, .string (txtU l i), .string (txtU l (i + 1)), .int .i64 0, .slice none 0 0, .int .i64 0]) := by
 have HN := hide (thing_ok (D := D) k h)
 have HN2 := hide (name_ok (D := D) h2)
 generalize txtU l i = nm at *
 generalize txtU l (i + 1) = z2 at *
 clear h h2
 intro w hr
 have bq0 := bel1 w (.cells #[.int .i64 0, .bool false, .string ⟨#[]⟩, .string ⟨#[]⟩, .int .i64 0, .slice none 0 0, .int .i64 0] 38)
 have HB : Hid (GB D w (w.alloc (.cells #[.int .i64 0, .bool false, .string ⟨#[]⟩, .string ⟨#[]⟩, .int .i64 0, .slice none 0 0, .int .i64 0] 38))) := GB.below D bq0
 have HG : Hid (BX (w.alloc (.cells #[.int .i64 0, .bool false, .string ⟨#[]⟩, .string ⟨#[]⟩, .int .i64 0, .slice none 0 0, .int .i64 0] 38)) w.heap.size #[.int .i64 0, .bool false, .string ⟨#[]⟩, .string ⟨#[]⟩, .int .i64 0, .slice none 0 0, .int .i64 0] 38) := BX.new w _ rfl _ _
 have HR := hide (hr.below bq0)
 have hD := hr.size
 clear hr bq0
 obtain ⟨g, hg⟩ : ∃ g, w.heap.size = g := ⟨_, rfl⟩
 have hgD : D < g := by omega
 have hne : g ≠ D := by omega
 go_enter Tryz.func107, Tryz.ntmps107
 go_upto_region 1 with fail
 rw [hg] at HG
 have hg1 : w.heap.size ≤ g := by omega
 generalize w.alloc (.cells #[.int .i64 0, .bool false, .string ⟨#[]⟩, .string ⟨#[]⟩, .int .i64 0, .slice none 0 0, .int .i64 0] 38) = w1 at *
 go_upto_region 2 with (go_at_call 93; refine (HN.out _ HR.out).mono ?_; rintro e w2 ⟨rfl, hr2, hb2⟩; replace HR := hide hr2; replace HB := hide (HB.out.trans hb2); replace HG := hide (HG.out.gb hb2 hne); clear hr2 hb2)
 have bq1 := bel1 w2 (.cells #[.int .i64 k, .bool false, .string nm, .string ⟨#[]⟩, .int .i64 0, .slice none 0 0, .int .i64 0] 38)
 have HT : Hid (BX (w2.alloc (.cells #[.int .i64 k, .bool false, .string nm, .string ⟨#[]⟩, .int .i64 0, .slice none 0 0, .int .i64 0] 38)) w2.heap.size #[.int .i64 k, .bool false, .string nm, .string ⟨#[]⟩, .int .i64 0, .slice none 0 0, .int .i64 0] 38) := BX.new w2 _ rfl _ _
 have hgs := HG.out.size
 replace HG := hide (HG.out.below bq1)
 replace HR := hide (HR.out.below bq1)
 have hgw := HB.out.1
 have hD2 : D < w2.heap.size := by omega
 replace HB := hide (HB.out.next bq1)
 clear bq1
 obtain ⟨g2, hg2⟩ : ∃ g, w2.heap.size = g := ⟨_, rfl⟩
 have hg2w : w.heap.size ≤ g2 := by omega
 have hne2 : g2 ≠ D := by omega
 have hg2D : D < g2 := by omega
 have hgg : g2 ≠ g := by omega
 clear hgs
 rw [hg2] at HT ⊢
 clear hg2 hD2 hgw
 generalize w2.alloc (.cells #[.int .i64 k, .bool false, .string nm, .string ⟨#[]⟩, .int .i64 0, .slice none 0 0, .int .i64 0] 38) = w3 at *
 have q0 := HT.out.cell 3 _ rfl
 have q1 := HT.out.free 3
 go_upto_region 3 with (go_at_call 101; refine (HN2.out _ HR.out).mono ?_; rintro e w4 ⟨rfl, hr2, hb2⟩; replace HR := hide hr2; replace HB := hide (HB.out.trans hb2); replace HG := hide (HG.out.gb hb2 hne); replace HT := hide (HT.out.gb hb2 hne2); clear hr2 hb2 q0 q1; have q0 := HT.out.cell 3 _ rfl; have q1 := HT.out.free 3)
 replace HR := hide (HR.out.other hg2D 3 (.string z2))
 replace HB := hide (HB.out.new g2 hg2w 3 (.string z2))
 replace HG := hide (HG.out.other hgg 3 (.string z2))
 replace HT : Hid (BX (w4.setCell ⟨g2, 3, none⟩ (.string z2)) g2 #[.int .i64 k, .bool false, .string nm, .string z2, .int .i64 0, .slice none 0 0, .int .i64 0] 38) := HT.out.set 3 (.string z2)
 clear q0 q1
 generalize w4.setCell ⟨g2, 3, none⟩ (.string z2) = w5 at *
 have t0 := HT.out.cell 0 _ rfl
 have t1 := HT.out.cell 1 _ rfl
 have t2 := HT.out.cell 2 _ rfl
 have t3 := HT.out.cell 3 _ rfl
 have t4 := HT.out.cell 4 _ rfl
 have t5 := HT.out.cell 5 _ rfl
 have t6 := HT.out.cell 6 _ rfl
 have z0 := HG.out.cell 0 _ rfl
 have y0 := HG.out.free 0
 have z1 := HG.out.cell 1 _ rfl
 have y1 := HG.out.free 1
 have z2 := HG.out.cell 2 _ rfl
 have y2 := HG.out.free 2
 have z3 := HG.out.cell 3 _ rfl
 have y3 := HG.out.free 3
 have z4 := HG.out.cell 4 _ rfl
 have y4 := HG.out.free 4
 have z5 := HG.out.cell 5 _ rfl
 have y5 := HG.out.free 5
 have z6 := HG.out.cell 6 _ rfl
 have y6 := HG.out.free 6
 go_wp2
 refine bodyPost_ret (results_cell_row rfl _ _ _ _ _ _ _ rfl (HG.out.put7 _ _ _ _ _ _ _).1 Tryz.underlying38 rfl Tryz.sizeDc) rfl ?_
 exact ⟨rfl, HR.out.put7 hgD _ _ _ _ _ _ _, HB.out.put7 hg1 _ _ _ _ _ _ _⟩
set_option maxHeartbeats 2000000 in
theorem pair_no1 {D : Nat} {l : List Tk} {i : Nat} (k : Int) {t : Tk} (ht : l[i]? = some t) (h : namU l i = false) : Up 107 [.int .i64 k] D l i i := by
 have HN := hide (thing_no (D := D) k ht h)
 generalize lnU l i = y at *
 clear h ht
 intro w hr
 have bq0 := bel1 w (.cells #[.int .i64 0, .bool false, .string ⟨#[]⟩, .string ⟨#[]⟩, .int .i64 0, .slice none 0 0, .int .i64 0] 38)
 have HB : Hid (GB D w (w.alloc (.cells #[.int .i64 0, .bool false, .string ⟨#[]⟩, .string ⟨#[]⟩, .int .i64 0, .slice none 0 0, .int .i64 0] 38))) := GB.below D bq0
 have HG : Hid (BX (w.alloc (.cells #[.int .i64 0, .bool false, .string ⟨#[]⟩, .string ⟨#[]⟩, .int .i64 0, .slice none 0 0, .int .i64 0] 38)) w.heap.size #[.int .i64 0, .bool false, .string ⟨#[]⟩, .string ⟨#[]⟩, .int .i64 0, .slice none 0 0, .int .i64 0] 38) := BX.new w _ rfl _ _
 have HR := hide (hr.below bq0)
 have hD := hr.size
 clear hr bq0
 obtain ⟨g, hg⟩ : ∃ g, w.heap.size = g := ⟨_, rfl⟩
 have hgD : D < g := by omega
 have hne : g ≠ D := by omega
 go_enter Tryz.func107, Tryz.ntmps107
 go_upto_region 1 with fail
 rw [hg] at HG
 have hg1 : w.heap.size ≤ g := by omega
 generalize w.alloc (.cells #[.int .i64 0, .bool false, .string ⟨#[]⟩, .string ⟨#[]⟩, .int .i64 0, .slice none 0 0, .int .i64 0] 38) = w1 at *
 go_wp2_with (go_at_call 93; refine (HN.out _ HR.out).mono ?_; rintro e w2 ⟨rfl, hb2⟩; replace HB := hide (HB.out.trans hb2); clear hb2)
 exact ⟨rfl, rfl, HB.out⟩
set_option maxHeartbeats 2000000 in
theorem pair_no2 {D : Nat} {l : List Tk} {i : Nat} (k : Int) {t : Tk} (ht : l[i + 1]? = some t) (h : namU l i = true) (h2 : namU l (i + 1) = false) : Up 107 [.int .i64 k] D l i (i + 1) := by
 have HN := hide (thing_ok (D := D) k h)
 have HN2 := hide (name_no (D := D) ht h2)
 generalize txtU l i = nm at *
 generalize lnU l (i + 1) = y at *
 clear h h2 ht
 intro w hr
 have bq0 := bel1 w (.cells #[.int .i64 0, .bool false, .string ⟨#[]⟩, .string ⟨#[]⟩, .int .i64 0, .slice none 0 0, .int .i64 0] 38)
 have HB : Hid (GB D w (w.alloc (.cells #[.int .i64 0, .bool false, .string ⟨#[]⟩, .string ⟨#[]⟩, .int .i64 0, .slice none 0 0, .int .i64 0] 38))) := GB.below D bq0
 have HG : Hid (BX (w.alloc (.cells #[.int .i64 0, .bool false, .string ⟨#[]⟩, .string ⟨#[]⟩, .int .i64 0, .slice none 0 0, .int .i64 0] 38)) w.heap.size #[.int .i64 0, .bool false, .string ⟨#[]⟩, .string ⟨#[]⟩, .int .i64 0, .slice none 0 0, .int .i64 0] 38) := BX.new w _ rfl _ _
 have HR := hide (hr.below bq0)
 have hD := hr.size
 clear hr bq0
 obtain ⟨g, hg⟩ : ∃ g, w.heap.size = g := ⟨_, rfl⟩
 have hgD : D < g := by omega
 have hne : g ≠ D := by omega
 go_enter Tryz.func107, Tryz.ntmps107
 go_upto_region 1 with fail
 rw [hg] at HG
 have hg1 : w.heap.size ≤ g := by omega
 generalize w.alloc (.cells #[.int .i64 0, .bool false, .string ⟨#[]⟩, .string ⟨#[]⟩, .int .i64 0, .slice none 0 0, .int .i64 0] 38) = w1 at *
 go_upto_region 2 with (go_at_call 93; refine (HN.out _ HR.out).mono ?_; rintro e w2 ⟨rfl, hr2, hb2⟩; replace HR := hide hr2; replace HB := hide (HB.out.trans hb2); replace HG := hide (HG.out.gb hb2 hne); clear hr2 hb2)
 have bq1 := bel1 w2 (.cells #[.int .i64 k, .bool false, .string nm, .string ⟨#[]⟩, .int .i64 0, .slice none 0 0, .int .i64 0] 38)
 have HT : Hid (BX (w2.alloc (.cells #[.int .i64 k, .bool false, .string nm, .string ⟨#[]⟩, .int .i64 0, .slice none 0 0, .int .i64 0] 38)) w2.heap.size #[.int .i64 k, .bool false, .string nm, .string ⟨#[]⟩, .int .i64 0, .slice none 0 0, .int .i64 0] 38) := BX.new w2 _ rfl _ _
 have hgs := HG.out.size
 replace HG := hide (HG.out.below bq1)
 replace HR := hide (HR.out.below bq1)
 have hgw := HB.out.1
 have hD2 : D < w2.heap.size := by omega
 replace HB := hide (HB.out.next bq1)
 clear bq1
 obtain ⟨g2, hg2⟩ : ∃ g, w2.heap.size = g := ⟨_, rfl⟩
 have hg2w : w.heap.size ≤ g2 := by omega
 have hne2 : g2 ≠ D := by omega
 have hg2D : D < g2 := by omega
 have hgg : g2 ≠ g := by omega
 clear hgs
 rw [hg2] at HT ⊢
 clear hg2 hD2 hgw
 generalize w2.alloc (.cells #[.int .i64 k, .bool false, .string nm, .string ⟨#[]⟩, .int .i64 0, .slice none 0 0, .int .i64 0] 38) = w3 at *
 go_wp2_with (go_at_call 101; refine (HN2.out _ HR.out).mono ?_; rintro e w4 ⟨rfl, hb2⟩; replace HB := hide (HB.out.trans hb2); clear hb2)
 exact ⟨rfl, rfl, HB.out⟩
set_option maxHeartbeats 2000000 in
theorem bound_ok {D : Nat} {l : List Tk} {i : Nat} (k : Int) (h : namU l i = true) (h2 : isU l (i + 1) 2 = true) : Gv 108 [.int .i64 k] D l i (i + 2) (.agg #[.int .i64 k, .bool false, .string (txtU l i), .string ⟨#[]⟩, .int .i64 (numU l (i + 1)), .slice none 0 0, .int .i64 0]) := by
 have HN := hide (thing_ok (D := D) k h)
 have HN2 := hide (number_ok (D := D) h2)
 generalize txtU l i = nm at *
 generalize numU l (i + 1) = z2 at *
 clear h h2
 intro w hr
 have bq0 := bel1 w (.cells #[.int .i64 0, .bool false, .string ⟨#[]⟩, .string ⟨#[]⟩, .int .i64 0, .slice none 0 0, .int .i64 0] 38)
 have HB : Hid (GB D w (w.alloc (.cells #[.int .i64 0, .bool false, .string ⟨#[]⟩, .string ⟨#[]⟩, .int .i64 0, .slice none 0 0, .int .i64 0] 38))) := GB.below D bq0
 have HG : Hid (BX (w.alloc (.cells #[.int .i64 0, .bool false, .string ⟨#[]⟩, .string ⟨#[]⟩, .int .i64 0, .slice none 0 0, .int .i64 0] 38)) w.heap.size #[.int .i64 0, .bool false, .string ⟨#[]⟩, .string ⟨#[]⟩, .int .i64 0, .slice none 0 0, .int .i64 0] 38) := BX.new w _ rfl _ _
 have HR := hide (hr.below bq0)
 have hD := hr.size
 clear hr bq0
 obtain ⟨g, hg⟩ : ∃ g, w.heap.size = g := ⟨_, rfl⟩
 have hgD : D < g := by omega
 have hne : g ≠ D := by omega
 go_enter Tryz.func108, Tryz.ntmps108
 go_upto_region 1 with fail
 rw [hg] at HG
 have hg1 : w.heap.size ≤ g := by omega
 generalize w.alloc (.cells #[.int .i64 0, .bool false, .string ⟨#[]⟩, .string ⟨#[]⟩, .int .i64 0, .slice none 0 0, .int .i64 0] 38) = w1 at *
 go_upto_region 2 with (go_at_call 93; refine (HN.out _ HR.out).mono ?_; rintro e w2 ⟨rfl, hr2, hb2⟩; replace HR := hide hr2; replace HB := hide (HB.out.trans hb2); replace HG := hide (HG.out.gb hb2 hne); clear hr2 hb2)
 have bq1 := bel1 w2 (.cells #[.int .i64 k, .bool false, .string nm, .string ⟨#[]⟩, .int .i64 0, .slice none 0 0, .int .i64 0] 38)
 have HT : Hid (BX (w2.alloc (.cells #[.int .i64 k, .bool false, .string nm, .string ⟨#[]⟩, .int .i64 0, .slice none 0 0, .int .i64 0] 38)) w2.heap.size #[.int .i64 k, .bool false, .string nm, .string ⟨#[]⟩, .int .i64 0, .slice none 0 0, .int .i64 0] 38) := BX.new w2 _ rfl _ _
 have hgs := HG.out.size
 replace HG := hide (HG.out.below bq1)
 replace HR := hide (HR.out.below bq1)
 have hgw := HB.out.1
 have hD2 : D < w2.heap.size := by omega
 replace HB := hide (HB.out.next bq1)
 clear bq1
 obtain ⟨g2, hg2⟩ : ∃ g, w2.heap.size = g := ⟨_, rfl⟩
 have hg2w : w.heap.size ≤ g2 := by omega
 have hne2 : g2 ≠ D := by omega
 have hg2D : D < g2 := by omega
 have hgg : g2 ≠ g := by omega
 clear hgs
 rw [hg2] at HT ⊢
 clear hg2 hD2 hgw
 generalize w2.alloc (.cells #[.int .i64 k, .bool false, .string nm, .string ⟨#[]⟩, .int .i64 0, .slice none 0 0, .int .i64 0] 38) = w3 at *
 have q0 := HT.out.cell 4 _ rfl
 have q1 := HT.out.free 4
 go_upto_region 3 with (go_at_call 114; refine (HN2.out _ HR.out).mono ?_; rintro e w4 ⟨rfl, hr2, hb2⟩; replace HR := hide hr2; replace HB := hide (HB.out.trans hb2); replace HG := hide (HG.out.gb hb2 hne); replace HT := hide (HT.out.gb hb2 hne2); clear hr2 hb2 q0 q1; have q0 := HT.out.cell 4 _ rfl; have q1 := HT.out.free 4)
 replace HR := hide (HR.out.other hg2D 4 (.int .i64 z2))
 replace HB := hide (HB.out.new g2 hg2w 4 (.int .i64 z2))
 replace HG := hide (HG.out.other hgg 4 (.int .i64 z2))
 replace HT : Hid (BX (w4.setCell ⟨g2, 4, none⟩ (.int .i64 z2)) g2 #[.int .i64 k, .bool false, .string nm, .string ⟨#[]⟩, .int .i64 z2, .slice none 0 0, .int .i64 0] 38) := HT.out.set 4 (.int .i64 z2)
 clear q0 q1
 generalize w4.setCell ⟨g2, 4, none⟩ (.int .i64 z2) = w5 at *
 have t0 := HT.out.cell 0 _ rfl
 have t1 := HT.out.cell 1 _ rfl
 have t2 := HT.out.cell 2 _ rfl
 have t3 := HT.out.cell 3 _ rfl
 have t4 := HT.out.cell 4 _ rfl
 have t5 := HT.out.cell 5 _ rfl
 have t6 := HT.out.cell 6 _ rfl
 have z0 := HG.out.cell 0 _ rfl
 have y0 := HG.out.free 0
 have z1 := HG.out.cell 1 _ rfl
 have y1 := HG.out.free 1
 have z2 := HG.out.cell 2 _ rfl
 have y2 := HG.out.free 2
 have z3 := HG.out.cell 3 _ rfl
 have y3 := HG.out.free 3
 have z4 := HG.out.cell 4 _ rfl
 have y4 := HG.out.free 4
 have z5 := HG.out.cell 5 _ rfl
 have y5 := HG.out.free 5
 have z6 := HG.out.cell 6 _ rfl
 have y6 := HG.out.free 6
 go_wp2
 refine bodyPost_ret (results_cell_row rfl _ _ _ _ _ _ _ rfl (HG.out.put7 _ _ _ _ _ _ _).1 Tryz.underlying38 rfl Tryz.sizeDc) rfl ?_
 exact ⟨rfl, HR.out.put7 hgD _ _ _ _ _ _ _, HB.out.put7 hg1 _ _ _ _ _ _ _⟩
set_option maxHeartbeats 2000000 in
theorem bound_no1 {D : Nat} {l : List Tk} {i : Nat} (k : Int) {t : Tk} (ht : l[i]? = some t) (h : namU l i = false) : Up 108 [.int .i64 k] D l i i := by
 have HN := hide (thing_no (D := D) k ht h)
 generalize lnU l i = y at *
 clear h ht
 intro w hr
 have bq0 := bel1 w (.cells #[.int .i64 0, .bool false, .string ⟨#[]⟩, .string ⟨#[]⟩, .int .i64 0, .slice none 0 0, .int .i64 0] 38)
 have HB : Hid (GB D w (w.alloc (.cells #[.int .i64 0, .bool false, .string ⟨#[]⟩, .string ⟨#[]⟩, .int .i64 0, .slice none 0 0, .int .i64 0] 38))) := GB.below D bq0
 have HG : Hid (BX (w.alloc (.cells #[.int .i64 0, .bool false, .string ⟨#[]⟩, .string ⟨#[]⟩, .int .i64 0, .slice none 0 0, .int .i64 0] 38)) w.heap.size #[.int .i64 0, .bool false, .string ⟨#[]⟩, .string ⟨#[]⟩, .int .i64 0, .slice none 0 0, .int .i64 0] 38) := BX.new w _ rfl _ _
 have HR := hide (hr.below bq0)
 have hD := hr.size
 clear hr bq0
 obtain ⟨g, hg⟩ : ∃ g, w.heap.size = g := ⟨_, rfl⟩
 have hgD : D < g := by omega
 have hne : g ≠ D := by omega
 go_enter Tryz.func108, Tryz.ntmps108
 go_upto_region 1 with fail
 rw [hg] at HG
 have hg1 : w.heap.size ≤ g := by omega
 generalize w.alloc (.cells #[.int .i64 0, .bool false, .string ⟨#[]⟩, .string ⟨#[]⟩, .int .i64 0, .slice none 0 0, .int .i64 0] 38) = w1 at *
 go_wp2_with (go_at_call 93; refine (HN.out _ HR.out).mono ?_; rintro e w2 ⟨rfl, hb2⟩; replace HB := hide (HB.out.trans hb2); clear hb2)
 exact ⟨rfl, rfl, HB.out⟩
set_option maxHeartbeats 2000000 in
theorem bound_no2 {D : Nat} {l : List Tk} {i : Nat} (k : Int) {t : Tk} (ht : l[i + 1]? = some t) (h : namU l i = true) (h2 : isU l (i + 1) 2 = false) : Up 108 [.int .i64 k] D l i (i + 1) := by
 have HN := hide (thing_ok (D := D) k h)
 have HN2 := hide (number_no (D := D) ht h2)
 generalize txtU l i = nm at *
 generalize lnU l (i + 1) = y at *
 clear h h2 ht
 intro w hr
 have bq0 := bel1 w (.cells #[.int .i64 0, .bool false, .string ⟨#[]⟩, .string ⟨#[]⟩, .int .i64 0, .slice none 0 0, .int .i64 0] 38)
 have HB : Hid (GB D w (w.alloc (.cells #[.int .i64 0, .bool false, .string ⟨#[]⟩, .string ⟨#[]⟩, .int .i64 0, .slice none 0 0, .int .i64 0] 38))) := GB.below D bq0
 have HG : Hid (BX (w.alloc (.cells #[.int .i64 0, .bool false, .string ⟨#[]⟩, .string ⟨#[]⟩, .int .i64 0, .slice none 0 0, .int .i64 0] 38)) w.heap.size #[.int .i64 0, .bool false, .string ⟨#[]⟩, .string ⟨#[]⟩, .int .i64 0, .slice none 0 0, .int .i64 0] 38) := BX.new w _ rfl _ _
 have HR := hide (hr.below bq0)
 have hD := hr.size
 clear hr bq0
 obtain ⟨g, hg⟩ : ∃ g, w.heap.size = g := ⟨_, rfl⟩
 have hgD : D < g := by omega
 have hne : g ≠ D := by omega
 go_enter Tryz.func108, Tryz.ntmps108
 go_upto_region 1 with fail
 rw [hg] at HG
 have hg1 : w.heap.size ≤ g := by omega
 generalize w.alloc (.cells #[.int .i64 0, .bool false, .string ⟨#[]⟩, .string ⟨#[]⟩, .int .i64 0, .slice none 0 0, .int .i64 0] 38) = w1 at *
 go_upto_region 2 with (go_at_call 93; refine (HN.out _ HR.out).mono ?_; rintro e w2 ⟨rfl, hr2, hb2⟩; replace HR := hide hr2; replace HB := hide (HB.out.trans hb2); replace HG := hide (HG.out.gb hb2 hne); clear hr2 hb2)
 have bq1 := bel1 w2 (.cells #[.int .i64 k, .bool false, .string nm, .string ⟨#[]⟩, .int .i64 0, .slice none 0 0, .int .i64 0] 38)
 have HT : Hid (BX (w2.alloc (.cells #[.int .i64 k, .bool false, .string nm, .string ⟨#[]⟩, .int .i64 0, .slice none 0 0, .int .i64 0] 38)) w2.heap.size #[.int .i64 k, .bool false, .string nm, .string ⟨#[]⟩, .int .i64 0, .slice none 0 0, .int .i64 0] 38) := BX.new w2 _ rfl _ _
 have hgs := HG.out.size
 replace HG := hide (HG.out.below bq1)
 replace HR := hide (HR.out.below bq1)
 have hgw := HB.out.1
 have hD2 : D < w2.heap.size := by omega
 replace HB := hide (HB.out.next bq1)
 clear bq1
 obtain ⟨g2, hg2⟩ : ∃ g, w2.heap.size = g := ⟨_, rfl⟩
 have hg2w : w.heap.size ≤ g2 := by omega
 have hne2 : g2 ≠ D := by omega
 have hg2D : D < g2 := by omega
 have hgg : g2 ≠ g := by omega
 clear hgs
 rw [hg2] at HT ⊢
 clear hg2 hD2 hgw
 generalize w2.alloc (.cells #[.int .i64 k, .bool false, .string nm, .string ⟨#[]⟩, .int .i64 0, .slice none 0 0, .int .i64 0] 38) = w3 at *
 go_wp2_with (go_at_call 114; refine (HN2.out _ HR.out).mono ?_; rintro e w4 ⟨rfl, hb2⟩; replace HB := hide (HB.out.trans hb2); clear hb2)
 exact ⟨rfl, rfl, HB.out⟩
set_option maxHeartbeats 2000000 in
theorem step_ok {D : Nat} {l : List Tk} {i : Nat} (k : Int) (h : namU l i = true) (h2 : isU l (i + 1) 2 = true) : Gv 110 [.int .i64 k] D l i (i + 2) (.agg #[.int .i64 k, .string (txtU l i), .int .i64 (numU l (i + 1))]) := by
 have HN := hide (plain_ok (D := D) k h)
 have HN2 := hide (number_ok (D := D) h2)
 generalize txtU l i = nm at *
 generalize numU l (i + 1) = z2 at *
 clear h h2
 intro w hr
 have bq0 := bel1 w (.cells #[.int .i64 0, .string ⟨#[]⟩, .int .i64 0] 40)
 have HB : Hid (GB D w (w.alloc (.cells #[.int .i64 0, .string ⟨#[]⟩, .int .i64 0] 40))) := GB.below D bq0
 have HG : Hid (BX (w.alloc (.cells #[.int .i64 0, .string ⟨#[]⟩, .int .i64 0] 40)) w.heap.size #[.int .i64 0, .string ⟨#[]⟩, .int .i64 0] 40) := BX.new w _ rfl _ _
 have HR := hide (hr.below bq0)
 have hD := hr.size
 clear hr bq0
 obtain ⟨g, hg⟩ : ∃ g, w.heap.size = g := ⟨_, rfl⟩
 have hgD : D < g := by omega
 have hne : g ≠ D := by omega
 go_enter Tryz.func110, Tryz.ntmps110
 go_upto_region 1 with fail
 rw [hg] at HG
 have hg1 : w.heap.size ≤ g := by omega
 generalize w.alloc (.cells #[.int .i64 0, .string ⟨#[]⟩, .int .i64 0] 40) = w1 at *
 go_upto_region 2 with (go_at_call 109; refine (HN.out _ HR.out).mono ?_; rintro e w2 ⟨rfl, hr2, hb2⟩; replace HR := hide hr2; replace HB := hide (HB.out.trans hb2); replace HG := hide (HG.out.gb hb2 hne); clear hr2 hb2)
 have bq1 := bel1 w2 (.cells #[.int .i64 k, .string nm, .int .i64 0] 40)
 have HT : Hid (BX (w2.alloc (.cells #[.int .i64 k, .string nm, .int .i64 0] 40)) w2.heap.size #[.int .i64 k, .string nm, .int .i64 0] 40) := BX.new w2 _ rfl _ _
 have hgs := HG.out.size
 replace HG := hide (HG.out.below bq1)
 replace HR := hide (HR.out.below bq1)
 have hgw := HB.out.1
 have hD2 : D < w2.heap.size := by omega
 replace HB := hide (HB.out.next bq1)
 clear bq1
 obtain ⟨g2, hg2⟩ : ∃ g, w2.heap.size = g := ⟨_, rfl⟩
 have hg2w : w.heap.size ≤ g2 := by omega
 have hne2 : g2 ≠ D := by omega
 have hg2D : D < g2 := by omega
 have hgg : g2 ≠ g := by omega
 clear hgs
 rw [hg2] at HT ⊢
 clear hg2 hD2 hgw
 generalize w2.alloc (.cells #[.int .i64 k, .string nm, .int .i64 0] 40) = w3 at *
 have q0 := HT.out.cell 2 _ rfl
 have q1 := HT.out.free 2
 go_upto_region 3 with (go_at_call 114; refine (HN2.out _ HR.out).mono ?_; rintro e w4 ⟨rfl, hr2, hb2⟩; replace HR := hide hr2; replace HB := hide (HB.out.trans hb2); replace HG := hide (HG.out.gb hb2 hne); replace HT := hide (HT.out.gb hb2 hne2); clear hr2 hb2 q0 q1; have q0 := HT.out.cell 2 _ rfl; have q1 := HT.out.free 2)
 replace HR := hide (HR.out.other hg2D 2 (.int .i64 z2))
 replace HB := hide (HB.out.new g2 hg2w 2 (.int .i64 z2))
 replace HG := hide (HG.out.other hgg 2 (.int .i64 z2))
 replace HT : Hid (BX (w4.setCell ⟨g2, 2, none⟩ (.int .i64 z2)) g2 #[.int .i64 k, .string nm, .int .i64 z2] 40) := HT.out.set 2 (.int .i64 z2)
 clear q0 q1
 generalize w4.setCell ⟨g2, 2, none⟩ (.int .i64 z2) = w5 at *
 have t0 := HT.out.cell 0 _ rfl
 have t1 := HT.out.cell 1 _ rfl
 have t2 := HT.out.cell 2 _ rfl
 have z0 := HG.out.cell 0 _ rfl
 have y0 := HG.out.free 0
 have z1 := HG.out.cell 1 _ rfl
 have y1 := HG.out.free 1
 have z2 := HG.out.cell 2 _ rfl
 have y2 := HG.out.free 2
 go_wp2
 refine bodyPost_ret (results_cell_row rfl _ _ _ _ _ _ _ rfl (HG.out.put3 _ _ _).1 Tryz.underlying40 rfl Tryz.sizeDd) rfl ?_
 exact ⟨rfl, HR.out.put3 hgD _ _ _, HB.out.put3 hg1 _ _ _⟩
set_option maxHeartbeats 2000000 in
theorem step_no1 {D : Nat} {l : List Tk} {i : Nat} (k : Int) {t : Tk} (ht : l[i]? = some t) (h : namU l i = false) : Up 110 [.int .i64 k] D l i i := by
 have HN := hide (plain_no (D := D) k ht h)
 generalize lnU l i = y at *
 clear h ht
 intro w hr
 have bq0 := bel1 w (.cells #[.int .i64 0, .string ⟨#[]⟩, .int .i64 0] 40)
 have HB : Hid (GB D w (w.alloc (.cells #[.int .i64 0, .string ⟨#[]⟩, .int .i64 0] 40))) := GB.below D bq0
 have HG : Hid (BX (w.alloc (.cells #[.int .i64 0, .string ⟨#[]⟩, .int .i64 0] 40)) w.heap.size #[.int .i64 0, .string ⟨#[]⟩, .int .i64 0] 40) := BX.new w _ rfl _ _
 have HR := hide (hr.below bq0)
 have hD := hr.size
 clear hr bq0
 obtain ⟨g, hg⟩ : ∃ g, w.heap.size = g := ⟨_, rfl⟩
 have hgD : D < g := by omega
 have hne : g ≠ D := by omega
 go_enter Tryz.func110, Tryz.ntmps110
 go_upto_region 1 with fail
 rw [hg] at HG
 have hg1 : w.heap.size ≤ g := by omega
 generalize w.alloc (.cells #[.int .i64 0, .string ⟨#[]⟩, .int .i64 0] 40) = w1 at *
 go_wp2_with (go_at_call 109; refine (HN.out _ HR.out).mono ?_; rintro e w2 ⟨rfl, hb2⟩; replace HB := hide (HB.out.trans hb2); clear hb2)
 exact ⟨rfl, rfl, HB.out⟩
set_option maxHeartbeats 2000000 in
theorem step_no2 {D : Nat} {l : List Tk} {i : Nat} (k : Int) {t : Tk} (ht : l[i + 1]? = some t) (h : namU l i = true) (h2 : isU l (i + 1) 2 = false) : Up 110 [.int .i64 k] D l i (i + 1) := by
 have HN := hide (plain_ok (D := D) k h)
 have HN2 := hide (number_no (D := D) ht h2)
 generalize txtU l i = nm at *
 generalize lnU l (i + 1) = y at *
 clear h h2 ht
 intro w hr
 have bq0 := bel1 w (.cells #[.int .i64 0, .string ⟨#[]⟩, .int .i64 0] 40)
 have HB : Hid (GB D w (w.alloc (.cells #[.int .i64 0, .string ⟨#[]⟩, .int .i64 0] 40))) := GB.below D bq0
 have HG : Hid (BX (w.alloc (.cells #[.int .i64 0, .string ⟨#[]⟩, .int .i64 0] 40)) w.heap.size #[.int .i64 0, .string ⟨#[]⟩, .int .i64 0] 40) := BX.new w _ rfl _ _
 have HR := hide (hr.below bq0)
 have hD := hr.size
 clear hr bq0
 obtain ⟨g, hg⟩ : ∃ g, w.heap.size = g := ⟨_, rfl⟩
 have hgD : D < g := by omega
 have hne : g ≠ D := by omega
 go_enter Tryz.func110, Tryz.ntmps110
 go_upto_region 1 with fail
 rw [hg] at HG
 have hg1 : w.heap.size ≤ g := by omega
 generalize w.alloc (.cells #[.int .i64 0, .string ⟨#[]⟩, .int .i64 0] 40) = w1 at *
 go_upto_region 2 with (go_at_call 109; refine (HN.out _ HR.out).mono ?_; rintro e w2 ⟨rfl, hr2, hb2⟩; replace HR := hide hr2; replace HB := hide (HB.out.trans hb2); replace HG := hide (HG.out.gb hb2 hne); clear hr2 hb2)
 have bq1 := bel1 w2 (.cells #[.int .i64 k, .string nm, .int .i64 0] 40)
 have HT : Hid (BX (w2.alloc (.cells #[.int .i64 k, .string nm, .int .i64 0] 40)) w2.heap.size #[.int .i64 k, .string nm, .int .i64 0] 40) := BX.new w2 _ rfl _ _
 have hgs := HG.out.size
 replace HG := hide (HG.out.below bq1)
 replace HR := hide (HR.out.below bq1)
 have hgw := HB.out.1
 have hD2 : D < w2.heap.size := by omega
 replace HB := hide (HB.out.next bq1)
 clear bq1
 obtain ⟨g2, hg2⟩ : ∃ g, w2.heap.size = g := ⟨_, rfl⟩
 have hg2w : w.heap.size ≤ g2 := by omega
 have hne2 : g2 ≠ D := by omega
 have hg2D : D < g2 := by omega
 have hgg : g2 ≠ g := by omega
 clear hgs
 rw [hg2] at HT ⊢
 clear hg2 hD2 hgw
 generalize w2.alloc (.cells #[.int .i64 k, .string nm, .int .i64 0] 40) = w3 at *
 go_wp2_with (go_at_call 114; refine (HN2.out _ HR.out).mono ?_; rintro e w4 ⟨rfl, hb2⟩; replace HB := hide (HB.out.trans hb2); clear hb2)
 exact ⟨rfl, rfl, HB.out⟩
theorem pair15 {D : Nat} {l : List Tk} {m i : Nat} (hL : Ln l m) (hi : i ≤ m) (k : Int) : (frmU l i [110, 110] = 2 ∧ Gv 107 [.int .i64 k] D l i (i + 2) (.agg (decV (k, false, txtU l i, txtU l (i + 1), numU l (i + 1), [], 0) none 0 0))) ∨ (frmU l i [110, 110] < 2 ∧ Up 107 [.int .i64 k] D l i (i + frmU l i [110, 110])) := by
 rw [frmN]
 rcases h : namU l i with _ | _
 ·obtain ⟨u, hu⟩ := hL.1 i hi
  exact .inr ⟨by simp, pair_no1 k hu h⟩
 ·have hi1 := hL.nam hi h
  rcases h2 : namU l (i + 1) with _ | _
  ·obtain ⟨u, hu⟩ := hL.1 (i + 1) hi1
   exact .inr ⟨by decide, pair_no2 k hu h h2⟩
  ·have q := pair_ok (D := D) k h h2
   refine .inl ⟨rfl, ?_⟩
   rw [hL.num (nam_is1 h2)]
   exact q
theorem bound15 {D : Nat} {l : List Tk} {m i : Nat} (hL : Ln l m) (hi : i ≤ m) (k : Int) : (frmU l i [110, 100] = 2 ∧ Gv 108 [.int .i64 k] D l i (i + 2) (.agg (decV (k, false, txtU l i, txtU l (i + 1), numU l (i + 1), [], 0) none 0 0))) ∨ (frmU l i [110, 100] < 2 ∧ Up 108 [.int .i64 k] D l i (i + frmU l i [110, 100])) := by
 rw [frm2]
 rcases h : namU l i with _ | _
 ·obtain ⟨u, hu⟩ := hL.1 i hi
  exact .inr ⟨by simp, bound_no1 k hu h⟩
 ·have hi1 := hL.nam hi h
  rcases h2 : isU l (i + 1) 2 with _ | _
  ·obtain ⟨u, hu⟩ := hL.1 (i + 1) hi1
   exact .inr ⟨by decide, bound_no2 k hu h h2⟩
  ·have q := bound_ok (D := D) k h h2
   refine .inl ⟨rfl, ?_⟩
   rw [txt_num h2]
   exact q
theorem plain15 {D : Nat} {l : List Tk} {m i : Nat} (hL : Ln l m) (hi : i ≤ m) (k : Int) : (frmU l i [110] = 1 ∧ Gv 109 [.int .i64 k] D l i (i + 1) (.agg (encDd (k, txtU l i, 0)).toArray)) ∨ (frmU l i [110] < 1 ∧ Up 109 [.int .i64 k] D l i (i + frmU l i [110])) := by
 rw [frm1]
 rcases h : namU l i with _ | _
 ·obtain ⟨u, hu⟩ := hL.1 i hi
  exact .inr ⟨by simp, plain_no k hu h⟩
 ·exact .inl ⟨rfl, plain_ok k h⟩
theorem step15 {D : Nat} {l : List Tk} {m i : Nat} (hL : Ln l m) (hi : i ≤ m) (k : Int) : (frmU l i [110, 100] = 2 ∧ Gv 110 [.int .i64 k] D l i (i + 2) (.agg (encDd (k, txtU l i, numU l (i + 1))).toArray)) ∨ (frmU l i [110, 100] < 2 ∧ Up 110 [.int .i64 k] D l i (i + frmU l i [110, 100])) := by
 rw [frm2]
 rcases h : namU l i with _ | _
 ·obtain ⟨u, hu⟩ := hL.1 i hi
  exact .inr ⟨by simp, step_no1 k hu h⟩
 ·have hi1 := hL.nam hi h
  rcases h2 : isU l (i + 1) 2 with _ | _
  ·obtain ⟨u, hu⟩ := hL.1 (i + 1) hi1
   exact .inr ⟨by decide, step_no2 k hu h h2⟩
  ·exact .inl ⟨rfl, step_ok k h h2⟩
end Go.Proofs.YtomppblgalepjaaGreatDoor

