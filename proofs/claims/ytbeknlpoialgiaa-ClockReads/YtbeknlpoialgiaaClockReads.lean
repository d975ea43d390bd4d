/- ClockReads is true for every clock and all bytes: a clock's bytes are the document's, they are read whatever stands behind, and any bytes are read as the document's answer reads them. Conditions: none but the form's own. -/
import Derived.Test.YtbeknlpoialgiaaRows
import Derived.WalkKit
import Derived.ProofKit
import Derived.OpenShut
import Derived.ShutString
import Derived.ChangeOld
import Derived.Below
import Derived.SizedLaws
import Derived.Test.YtbeknlpoialgiaaRRef
import Derived.Test.YtbeknlpoialgiaaWOpen
namespace Go.Proofs.Ytbeknlpoialgiaa.clockReads
open Go.ChangeShapes Go.WideShapes Go.ChangeAt Go.RowKit
set_option linter.unusedVariables false

theorem own : ownKnob Try.prog.godebug = none := by kernel_rfl
theorem laidOut : laidOutB Try.prog = true := by kernel_rfl

theorem flat_len : ∀ c : List Int, ((c.map num).flatMap text).length ≤ 18 * c.length
  | [] => by simp
  | x :: r => by
    have ih := flat_len r
    have h1 := num_len x
    have h2 := nb_le x
    have h3 := num_len ((num x).length : Int)
    have h4 := nb_le ((num x).length : Int)
    simp only [List.map_cons, List.flatMap_cons, List.length_append, List.length_cons, text]
    omega
theorem putC_len (c : List Int) : (putC c).length ≤ 99 := by
  unfold putC pack
  have h1 := flat_len (pln (vec c))
  have h2 : (pln (vec c)).length ≤ 5 := by rw [pln_length]; have := plen_le (vec c); rw [vec_len] at this; exact this
  have h3 := num_len ((((pln (vec c)).map num).length : Nat) : Int)
  have h4 := nb_le ((((pln (vec c)).map num).length : Nat) : Int)
  rw [List.length_append]
  omega
theorem Read_no (a : Option Addr) (n cap : Nat) (l : List Int) (w : World) (hr : rdC l = none) (hA : BS w a n l) (hC : CP a n cap) :
    Calls Try.prog 31 #[.slice a n cap] w fun e w' => e = .returned (.tuple #[.slice none 0 0, .int .i64 0, .int .i64 2]) ∧ Below w.heap.size w w' := by
  refine (Read_any a n cap l w hA hC).mono ?_
  rintro e w1 ⟨(⟨_, rfl⟩ | ⟨c, m, v, h, _⟩), hb⟩
  · exact ⟨rfl, hb⟩
  · rw [hr] at h; cases h
theorem Read_yes (a : Option Addr) (n cap : Nat) (l : List Int) (w : World) (c : List Int) (m : Nat) (hr : rdC l = some (c, m)) (hA : BS w a n l) (hC : CP a n cap) :
    Calls Try.prog 31 #[.slice a n cap] w fun e w' => ∃ v, e = .returned (.tuple #[v, .int .i64 (m : Int), .int .i64 0]) ∧ OwnN w.heap.size w' v c ∧ Below w.heap.size w w' := by
  refine (Read_any a n cap l w hA hC).mono ?_
  rintro e w1 ⟨(⟨h, _⟩ | ⟨c', m', v, h, rfl, hO⟩), hb⟩
  · rw [hr] at h; cases h
  · rw [hr] at h; cases h; exact ⟨v, rfl, hO, hb⟩
theorem rRead_no (a : Option Addr) (n cap : Nat) (l : List Int) (w : World) (hr : rdC l = none) (hA : BS w a n l) (hC : CP a n cap) :
    Calls Try.prog 32 #[.slice a n cap] w fun e w' => e = .returned (.tuple #[.slice none 0 0, .int .i64 0]) ∧ Below w.heap.size w w' := by
  rw [← rf_rd hA.2.2.1] at hr
  refine (read_ref a n cap l w hA hC).mono ?_
  rintro e w1 ⟨(⟨_, rfl⟩ | ⟨c, m, v, h, _⟩), hb⟩
  · exact ⟨rfl, hb⟩
  · rw [hr] at h; cases h
theorem rRead_yes (a : Option Addr) (n cap : Nat) (l : List Int) (w : World) (c : List Int) (m : Nat) (hr : rdC l = some (c, m)) (hA : BS w a n l) (hC : CP a n cap) :
    Calls Try.prog 32 #[.slice a n cap] w fun e w' => ∃ v, e = .returned (.tuple #[v, .int .i64 (m : Int)]) ∧ OwnN w.heap.size w' v c ∧ Below w.heap.size w w' := by
  rw [← rf_rd hA.2.2.1] at hr
  refine (read_ref a n cap l w hA hC).mono ?_
  rintro e w1 ⟨(⟨h, _⟩ | ⟨c', m', v, h, rfl, hO⟩), hb⟩
  · rw [hr] at h; cases h
  · rw [hr] at h; cases h; exact ⟨v, rfl, hO, hb⟩
theorem rdC_pos {l c : List Int} {m : Nat} (hb : By l) (h : rdC l = some (c, m)) : 1 ≤ m := by
  unfold rdC at h
  split at h
  · cases h
  · rename_i ts k hu
    have := (unpack_some hb hu).1
    split at h
    · cases h
    · split at h
      · cases h; exact this
      · cases h

set_option maxHeartbeats 16000000 in
set_option maxRecDepth 100000 in
theorem walk (v0 : Value) (v1 : Value) (w : World) (w0 : InN w v0) (w1 : InB w v1) :
    Calls Try.prog 5 #[v0, v1] w fun e w' => e = .returned (.bool true) ∧ Below w.heap.size w w' := by
  obtain ⟨a, na, ca, A, rfl, hA, _⟩ := w0
  obtain ⟨b, nb', cb, B, rfl, hBB, hCB, hreach⟩ := w1
  have hna := hA.2.1
  have hnb := hBB.1
  have hnm := hBB.2.1
  unfold maxLen at hnm
  have hby := hide hBB.2.2.1
  have NA := hide hA
  have BB := hide hBB
  have CB := hide hCB
  have HB := hide (Below.refl w.heap.size w)
  clear hA hBB hCB hreach
  by_cases hl : na ≤ 50 ∧ 0 ≤ 50
  · have HLT := hide (light3_as a none na ca 0 0 w hna (by decide) true (decide_eq_true hl))
    clear hl hna
    by_cases h1000 : (nb' : Int) > 1000
    · clear hnb
      go_enter Try.func5, Try.ntmps5
      go_wp2_with fail
      refine (HLT.out).mono ?_
      rintro e u ⟨rfl, hw⟩
      replace hw := hw.symm
      subst hw
      go_wp2_with fail
      refine (awake3 _).mono ?_
      rintro e u ⟨rfl, hb⟩
      replace HB := hide (bel_next HB.out hb)
      replace NA := hide (NA.out.below hb)
      replace BB := hide (BB.out.below hb)
      clear hb
      go_wp2
      go_ret
      exact ⟨rfl, HB.out⟩
    · have hb1000 : B.length ≤ 1000 := by omega
      rcases hrd : rdC B with _ | ⟨cc, mm⟩
      · go_enter Try.func5, Try.ntmps5
        go_wp2_with fail
        refine (HLT.out).mono ?_
        rintro e u ⟨rfl, hw⟩
        replace hw := hw.symm
        subst hw
        go_wp2_with fail
        refine (Put_any _ _ _ A _ NA.out).mono ?_
        rintro e u ⟨vX, rfl, hO, hb⟩
        replace HB := hide (bel_next HB.out hb)
        replace NA := hide (NA.out.below hb)
        replace BB := hide (BB.out.below hb)
        clear hb
        obtain ⟨pX, cX, hv, hbs, hcp⟩ := hO.open (putC_by A)
        subst hv
        have BX := hide hbs
        have CX := hide hcp
        clear hbs hcp hO
        obtain ⟨L, hL⟩ : ∃ L, L = putC A := ⟨_, rfl⟩
        rw [← hL] at BX CX ⊢
        have HL := hide hL
        have hL99 : L.length ≤ 99 := by rw [hL]; exact putC_len A
        clear hL
        have HBu := HB
        have NAu := NA
        have BBu := BB
        have BXu := BX
        go_wp2_with (at_builtin; refine Stop.at ?_)
        unfold Stop
        refine append_bytes rfl _ _ rfl u.heap.size (.slice (some ⟨u.heap.size, 0, none⟩) 0 0) [] L rfl (Own.made u u.heap.size _ rfl (Nat.le_refl _)) pX L.length cX rfl CX.out.2.2 (BX.out.alloc _) (by simp; omega) (by simp) ?_
        intro v1 w1 hO1 _ hbel1
        have Hu1 := hide (hbel1 u (bel1 u _))
        have HO1 := hide hO1
        have hszu := Hu1.out.size
        clear hO1 hbel1
        obtain ⟨p1, c1, hv1, _, _⟩ := HO1.out.open (By.append By.nil (by rw [HL.out]; exact putC_by A))
        subst hv1
        rw [List.nil_append] at HO1 ⊢
        go_wp2_with (at_builtin; refine Stop.at ?_)
        unfold Stop
        refine append_bytes rfl _ _ rfl u.heap.size (.slice p1 L.length c1) L B rfl HO1.out b nb' cb rfl CB.out.2.2 (BBu.out.below Hu1.out) (by omega) hszu ?_
        intro v2 w2 hO2 _ hbel2
        have Hu2 := hide (hbel2 u Hu1.out)
        obtain ⟨p2, c2, hv2, hbs2, hcp2⟩ := hO2.open (By.append (by rw [HL.out]; exact putC_by A) hby.out)
        subst hv2
        have B2 := hide hbs2
        have C2 := hide hcp2
        clear hO2 hbel2 hbs2 hcp2 HO1
        replace HB := hide (bel_next HBu.out Hu2.out)
        replace NA := hide (NAu.out.below Hu2.out)
        replace BB := hide (BBu.out.below Hu2.out)
        replace BX := hide (BXu.out.below Hu2.out)
        clear HBu NAu BBu BXu Hu1 Hu2 hszu
        have hrp : rdC (L ++ B) = some (pln (vec A), L.length) := by rw [HL.out]; exact rd_put A B
        obtain ⟨q, hq⟩ : ∃ q, q = (L ++ B).length := ⟨_, rfl⟩
        rw [← hq] at B2 C2 ⊢
        clear hq
        go_wp2_with fail
        refine (Read_yes _ _ _ _ _ _ _ hrp B2.out C2.out).mono ?_
        rintro e u ⟨vY, rfl, hO, hb⟩
        replace HB := hide (bel_next HB.out hb)
        replace NA := hide (NA.out.below hb)
        replace BB := hide (BB.out.below hb)
        replace BX := hide (BX.out.below hb)
        clear hb
        obtain ⟨pY, cY, hv, hns, _⟩ := hO.open
        subst hv
        have NY := hide hns
        clear hns hO
        go_wp2_with fail
        refine (Read_no _ _ _ _ _ hrd BB.out CB.out).mono ?_
        rintro e u ⟨rfl, hb⟩
        replace HB := hide (bel_next HB.out hb)
        replace NA := hide (NA.out.below hb)
        replace BB := hide (BB.out.below hb)
        replace BX := hide (BX.out.below hb)
        replace NY := hide (NY.out.below hb)
        clear hb
        go_wp2_with fail
        refine (rRead_no _ _ _ _ _ hrd BB.out CB.out).mono ?_
        rintro e u ⟨rfl, hb⟩
        replace HB := hide (bel_next HB.out hb)
        replace NA := hide (NA.out.below hb)
        replace BB := hide (BB.out.below hb)
        replace BX := hide (BX.out.below hb)
        replace NY := hide (NY.out.below hb)
        clear hb
        go_wp2_with fail
        refine (put_ref _ _ _ A _ NA.out).mono ?_
        rintro e u ⟨vR, rfl, hO, hb⟩
        replace HB := hide (bel_next HB.out hb)
        replace NA := hide (NA.out.below hb)
        replace BB := hide (BB.out.below hb)
        replace BX := hide (BX.out.below hb)
        replace NY := hide (NY.out.below hb)
        clear hb
        obtain ⟨pR, cR, hv, hbs, hcp⟩ := hO.open (putC_by A)
        subst hv
        have BR := hide hbs
        have CR := hide hcp
        clear hbs hcp hO
        rw [← HL.out] at BR CR ⊢
        go_wp2_with fail
        refine (bytes_as _ _ _ _ _ _ L L _ true (by simp) BX.out BR.out).mono ?_
        rintro e u ⟨rfl, hb⟩
        replace HB := hide (bel_next HB.out hb)
        replace NA := hide (NA.out.below hb)
        replace BB := hide (BB.out.below hb)
        replace BX := hide (BX.out.below hb)
        replace NY := hide (NY.out.below hb)
        replace BR := hide (BR.out.below hb)
        clear hb
        go_wp2_with fail
        refine (plain_ref _ _ _ A _ NA.out).mono ?_
        rintro e u ⟨vP, rfl, hO, hb⟩
        replace HB := hide (bel_next HB.out hb)
        replace NA := hide (NA.out.below hb)
        replace BB := hide (BB.out.below hb)
        replace BX := hide (BX.out.below hb)
        replace NY := hide (NY.out.below hb)
        replace BR := hide (BR.out.below hb)
        clear hb
        obtain ⟨pP, cP, hv, hns, _⟩ := hO.open
        subst hv
        have NP := hide hns
        clear hns hO
        go_wp2_with fail
        refine (same_any _ _ _ _ _ _ _ _ _ NY.out NP.out).mono ?_
        rintro e u ⟨rfl, hb⟩
        replace HB := hide (bel_next HB.out hb)
        replace NA := hide (NA.out.below hb)
        replace BB := hide (BB.out.below hb)
        replace BX := hide (BX.out.below hb)
        replace NY := hide (NY.out.below hb)
        replace BR := hide (BR.out.below hb)
        replace NP := hide (NP.out.below hb)
        clear hb
        rw [decide_eq_true (rfl : pln (vec A) = pln (vec A))]
        go_wp2_with fail
        refine (same_any none none 0 0 0 0 [] [] _ (NS.nil _ _) (NS.nil _ _)).mono ?_
        rintro e u ⟨rfl, hb⟩
        replace HB := hide (bel_next HB.out hb)
        replace NA := hide (NA.out.below hb)
        replace BB := hide (BB.out.below hb)
        replace BX := hide (BX.out.below hb)
        replace NY := hide (NY.out.below hb)
        replace BR := hide (BR.out.below hb)
        replace NP := hide (NP.out.below hb)
        clear hb
        rw [decide_eq_true (rfl : ([] : List Int) = [])]
        go_wp2_with fail
        refine (awake3 _).mono ?_
        rintro e u ⟨rfl, hb⟩
        replace HB := hide (bel_next HB.out hb)
        replace NA := hide (NA.out.below hb)
        replace BB := hide (BB.out.below hb)
        replace BX := hide (BX.out.below hb)
        replace NY := hide (NY.out.below hb)
        replace BR := hide (BR.out.below hb)
        replace NP := hide (NP.out.below hb)
        clear hb
        go_wp2
        go_ret
        exact ⟨rfl, HB.out⟩
      · have hmm := rdC_pos hby.out hrd
        have hmm1 : (mm : Int) > 0 := by omega
        have hmm2 : ((mm : Int) == 0) = false := by simp; omega
        have hmm3 : ¬ ((mm : Int) = 0) := by omega
        go_enter Try.func5, Try.ntmps5
        go_wp2_with fail
        refine (HLT.out).mono ?_
        rintro e u ⟨rfl, hw⟩
        replace hw := hw.symm
        subst hw
        go_wp2_with fail
        refine (Put_any _ _ _ A _ NA.out).mono ?_
        rintro e u ⟨vX, rfl, hO, hb⟩
        replace HB := hide (bel_next HB.out hb)
        replace NA := hide (NA.out.below hb)
        replace BB := hide (BB.out.below hb)
        clear hb
        obtain ⟨pX, cX, hv, hbs, hcp⟩ := hO.open (putC_by A)
        subst hv
        have BX := hide hbs
        have CX := hide hcp
        clear hbs hcp hO
        obtain ⟨L, hL⟩ : ∃ L, L = putC A := ⟨_, rfl⟩
        rw [← hL] at BX CX ⊢
        have HL := hide hL
        have hL99 : L.length ≤ 99 := by rw [hL]; exact putC_len A
        clear hL
        have HBu := HB
        have NAu := NA
        have BBu := BB
        have BXu := BX
        go_wp2_with (at_builtin; refine Stop.at ?_)
        unfold Stop
        refine append_bytes rfl _ _ rfl u.heap.size (.slice (some ⟨u.heap.size, 0, none⟩) 0 0) [] L rfl (Own.made u u.heap.size _ rfl (Nat.le_refl _)) pX L.length cX rfl CX.out.2.2 (BX.out.alloc _) (by simp; omega) (by simp) ?_
        intro v1 w1 hO1 _ hbel1
        have Hu1 := hide (hbel1 u (bel1 u _))
        have HO1 := hide hO1
        have hszu := Hu1.out.size
        clear hO1 hbel1
        obtain ⟨p1, c1, hv1, _, _⟩ := HO1.out.open (By.append By.nil (by rw [HL.out]; exact putC_by A))
        subst hv1
        rw [List.nil_append] at HO1 ⊢
        go_wp2_with (at_builtin; refine Stop.at ?_)
        unfold Stop
        refine append_bytes rfl _ _ rfl u.heap.size (.slice p1 L.length c1) L B rfl HO1.out b nb' cb rfl CB.out.2.2 (BBu.out.below Hu1.out) (by omega) hszu ?_
        intro v2 w2 hO2 _ hbel2
        have Hu2 := hide (hbel2 u Hu1.out)
        obtain ⟨p2, c2, hv2, hbs2, hcp2⟩ := hO2.open (By.append (by rw [HL.out]; exact putC_by A) hby.out)
        subst hv2
        have B2 := hide hbs2
        have C2 := hide hcp2
        clear hO2 hbel2 hbs2 hcp2 HO1
        replace HB := hide (bel_next HBu.out Hu2.out)
        replace NA := hide (NAu.out.below Hu2.out)
        replace BB := hide (BBu.out.below Hu2.out)
        replace BX := hide (BXu.out.below Hu2.out)
        clear HBu NAu BBu BXu Hu1 Hu2 hszu
        have hrp : rdC (L ++ B) = some (pln (vec A), L.length) := by rw [HL.out]; exact rd_put A B
        obtain ⟨q, hq⟩ : ∃ q, q = (L ++ B).length := ⟨_, rfl⟩
        rw [← hq] at B2 C2 ⊢
        clear hq
        go_wp2_with fail
        refine (Read_yes _ _ _ _ _ _ _ hrp B2.out C2.out).mono ?_
        rintro e u ⟨vY, rfl, hO, hb⟩
        replace HB := hide (bel_next HB.out hb)
        replace NA := hide (NA.out.below hb)
        replace BB := hide (BB.out.below hb)
        replace BX := hide (BX.out.below hb)
        clear hb
        obtain ⟨pY, cY, hv, hns, _⟩ := hO.open
        subst hv
        have NY := hide hns
        clear hns hO
        go_wp2_with fail
        refine (Read_yes _ _ _ _ _ _ _ hrd BB.out CB.out).mono ?_
        rintro e u ⟨vZ, rfl, hO, hb⟩
        replace HB := hide (bel_next HB.out hb)
        replace NA := hide (NA.out.below hb)
        replace BB := hide (BB.out.below hb)
        replace BX := hide (BX.out.below hb)
        replace NY := hide (NY.out.below hb)
        clear hb
        obtain ⟨pZ, cZ, hv, hns, _⟩ := hO.open
        subst hv
        have NZ := hide hns
        clear hns hO
        go_wp2_with fail
        refine (rRead_yes _ _ _ _ _ _ _ hrd BB.out CB.out).mono ?_
        rintro e u ⟨vV, rfl, hO, hb⟩
        replace HB := hide (bel_next HB.out hb)
        replace NA := hide (NA.out.below hb)
        replace BB := hide (BB.out.below hb)
        replace BX := hide (BX.out.below hb)
        replace NY := hide (NY.out.below hb)
        replace NZ := hide (NZ.out.below hb)
        clear hb
        obtain ⟨pV, cV, hv, hns, _⟩ := hO.open
        subst hv
        have NV := hide hns
        clear hns hO
        go_wp2_with fail
        refine (put_ref _ _ _ A _ NA.out).mono ?_
        rintro e u ⟨vR, rfl, hO, hb⟩
        replace HB := hide (bel_next HB.out hb)
        replace NA := hide (NA.out.below hb)
        replace BB := hide (BB.out.below hb)
        replace BX := hide (BX.out.below hb)
        replace NY := hide (NY.out.below hb)
        replace NZ := hide (NZ.out.below hb)
        replace NV := hide (NV.out.below hb)
        clear hb
        obtain ⟨pR, cR, hv, hbs, hcp⟩ := hO.open (putC_by A)
        subst hv
        have BR := hide hbs
        have CR := hide hcp
        clear hbs hcp hO
        rw [← HL.out] at BR CR ⊢
        go_wp2_with fail
        refine (bytes_as _ _ _ _ _ _ L L _ true (by simp) BX.out BR.out).mono ?_
        rintro e u ⟨rfl, hb⟩
        replace HB := hide (bel_next HB.out hb)
        replace NA := hide (NA.out.below hb)
        replace BB := hide (BB.out.below hb)
        replace BX := hide (BX.out.below hb)
        replace NY := hide (NY.out.below hb)
        replace NZ := hide (NZ.out.below hb)
        replace NV := hide (NV.out.below hb)
        replace BR := hide (BR.out.below hb)
        clear hb
        go_wp2_with fail
        refine (plain_ref _ _ _ A _ NA.out).mono ?_
        rintro e u ⟨vP, rfl, hO, hb⟩
        replace HB := hide (bel_next HB.out hb)
        replace NA := hide (NA.out.below hb)
        replace BB := hide (BB.out.below hb)
        replace BX := hide (BX.out.below hb)
        replace NY := hide (NY.out.below hb)
        replace NZ := hide (NZ.out.below hb)
        replace NV := hide (NV.out.below hb)
        replace BR := hide (BR.out.below hb)
        clear hb
        obtain ⟨pP, cP, hv, hns, _⟩ := hO.open
        subst hv
        have NP := hide hns
        clear hns hO
        go_wp2_with fail
        refine (same_any _ _ _ _ _ _ _ _ _ NY.out NP.out).mono ?_
        rintro e u ⟨rfl, hb⟩
        replace HB := hide (bel_next HB.out hb)
        replace NA := hide (NA.out.below hb)
        replace BB := hide (BB.out.below hb)
        replace BX := hide (BX.out.below hb)
        replace NY := hide (NY.out.below hb)
        replace NZ := hide (NZ.out.below hb)
        replace NV := hide (NV.out.below hb)
        replace BR := hide (BR.out.below hb)
        replace NP := hide (NP.out.below hb)
        clear hb
        rw [decide_eq_true (rfl : pln (vec A) = pln (vec A))]
        go_wp2_with fail
        refine (same_any _ _ _ _ _ _ _ _ _ NZ.out NV.out).mono ?_
        rintro e u ⟨rfl, hb⟩
        replace HB := hide (bel_next HB.out hb)
        replace NA := hide (NA.out.below hb)
        replace BB := hide (BB.out.below hb)
        replace BX := hide (BX.out.below hb)
        replace NY := hide (NY.out.below hb)
        replace NZ := hide (NZ.out.below hb)
        replace NV := hide (NV.out.below hb)
        replace BR := hide (BR.out.below hb)
        replace NP := hide (NP.out.below hb)
        clear hb
        rw [decide_eq_true (rfl : cc = cc)]
        go_wp2_with fail
        refine (awake3 _).mono ?_
        rintro e u ⟨rfl, hb⟩
        replace HB := hide (bel_next HB.out hb)
        replace NA := hide (NA.out.below hb)
        replace BB := hide (BB.out.below hb)
        replace BX := hide (BX.out.below hb)
        replace NY := hide (NY.out.below hb)
        replace NZ := hide (NZ.out.below hb)
        replace NV := hide (NV.out.below hb)
        replace BR := hide (BR.out.below hb)
        replace NP := hide (NP.out.below hb)
        clear hb
        go_wp2
        go_ret
        exact ⟨rfl, HB.out⟩
  · have HLT := hide (light3_as a none na ca 0 0 w hna (by decide) false (decide_eq_false hl))
    clear hl hna
    go_enter Try.func5, Try.ntmps5
    go_wp2_with fail
    refine (HLT.out).mono ?_
    rintro e u ⟨rfl, hw⟩
    replace hw := hw.symm
    subst hw
    go_wp2_with fail
    refine (awake3 _).mono ?_
    rintro e u ⟨rfl, hb⟩
    replace HB := hide (bel_next HB.out hb)
    replace NA := hide (NA.out.below hb)
    replace BB := hide (BB.out.below hb)
    clear hb
    go_wp2
    go_ret
    exact ⟨rfl, HB.out⟩

/-! ### The row's step -/
set_option maxRecDepth 100000 in
theorem lifted (os : Os) (started : os.Started) (H : Type) (enc : TypeId × Value → H) :
    ReturnsInHanded {} Try.checked os 5 .any (Rows.clockReadsSpec.pre6 enc Try.prog Try.f5 Rows.clockReadsRow.domain false) (Rows.clockReadsSpec.post enc Try.prog Try.f5 false true false false) := by
  refine returnsInHanded_of_change_sized (C := Try.checked) own started (by kernel_rfl) Try.func5
    (ChangeSpec.witness6 (enc := enc) (C := Try.checked) false ⟨#[], #[.slice none 0 0, .slice none 0 0], []⟩ 8 (by kernel_rfl) (by kernel_rfl) (by kernel_rfl) (by kernel_rfl)) ?_
  intro W base args ds gs before hval0 hW hcnd hz0 _
  have hval : ∀ (j : Nat) t v, Try.f5.params[j]? = some t → args[j]? = some v → Value.okWide Try.prog W .any base t v := hval0
  have hz : (DataW.weightsEach Try.prog (Try.f5.params.toList ++ Rows.clockReadsSpec.plain.varTypes Try.prog) (ds ++ gs)).all (· ≤ reachBytes) = true := hz0
  have hW' := hW
  obtain ⟨p, q, hA0, hV, rfl, hfz, hnd⟩ := hW
  have hA : DataW.TrodAll enc Try.prog W 0 (fun _ => true) true Try.f5.params.toList args.toList ds p := hA0
  rw [Try.params5] at hA hval hz
  obtain ⟨v0, vs0, d0, ds0, p0, q0, hargs, rfl, rfl, h0, r0⟩ := trodAll_cons hA
  obtain ⟨v1, vs1, d1, ds1, p1, q1, rfl, rfl, rfl, h1, r1⟩ := trodAll_cons r0
  obtain ⟨rfl, rfl, rfl⟩ := trodAll_nil r1
  obtain rfl : args = #[v0, v1] := by cases args; simp_all
  obtain ⟨rfl, rfl⟩ := trodVars_none hV
  have k0 := h0
  have lt0 : ∀ x ∈ p0, x.block < W.heap.size := by obtain ⟨m, hm⟩ := k0; exact DataW.trod_lt m _ _ _ hm
  have w0 : InN W v0 := in_nums (hval 0 23 v0 rfl rfl) h0 (fun n hn => by have := List.all_eq_true.1 hz n (DataW.weights_mem_each (j := 0) (t := 23) rfl rfl n hn); simpa using this)
  have k1 := h1
  have lt1 : ∀ x ∈ p1, x.block < W.heap.size := by obtain ⟨m, hm⟩ := k1; exact DataW.trod_lt m _ _ _ hm
  have w1 : InB W v1 := in_bytes (hval 1 40 v1 rfl rfl) h1 (fun n hn => by have := List.all_eq_true.1 hz n (DataW.weights_mem_each (j := 1) (t := 40) rfl rfl n hn); simpa using this)
  clear hA0 hval0 hz0
  refine (walk v0 v1 W w0 w1).mono fun e W' ⟨he, bel⟩ => ?_
  subst he
  exact ⟨_, rfl, _, _, _, [], _, [], hW', trodAll_mk1 (shut_bool Try.underlying4 _), (trodAll_cons_mk (Below.trod laidOut (by kernel_rfl) (of_decide_eq_true (by kernel_rfl)) k0 bel lt0) (trodAll_cons_mk (Below.trod laidOut (by kernel_rfl) (of_decide_eq_true (by kernel_rfl)) k1 bel lt1) trodAll_mk0)), rfl, bel.frame _, fun h => by cases h⟩

theorem over : Rows.clockReadsRow.holds Try.pinned (OpenSpec.ofChange Rows.clockReadsSpec) :=
  OpenClaim.holds_of_wide 5 Try.f5 rfl rfl rfl rfl rfl rfl rfl ⟨rfl, rfl, rfl, rfl, rfl⟩ rfl rfl rfl rfl rfl (by kernel_rfl) Try.func5 (by kernel_rfl)
    (of_decide_eq_true (by kernel_rfl)) (by unfold Func.isWrapper; first | (rw [if_pos (by decide +kernel)]; kernel_rfl) | (rw [if_neg (by decide +kernel)]; exact ⟨rfl, rfl⟩))
    (fun os started H enc _ => lifted os started H enc)
end Go.Proofs.Ytbeknlpoialgiaa.clockReads
namespace Go.Proofs.Ytbeknlpoialgiaa
theorem clockReads_holds : Rows.ClockReadsSaid := clockReads.over
end Go.Proofs.Ytbeknlpoialgiaa
