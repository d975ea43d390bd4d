/- Texts of this claim, joined: LP, N8, NP. -/
import Derived.Test.YtomppblgalepjaaGreatDoorJ13
import Derived.Test.YtomppblgalepjaaGreatDoorJ14
import Derived.Test.YtomppblgalepjaaGreatDoorJ18
import Derived.Test.YtomppblgalepjaaGreatDoorJ8
/- The program's read and Read (layer 14). -/
namespace Go.Proofs.YtomppblgalepjaaGreatDoor
open Go.RowKit Go.Lib
set_option linter.unusedVariables false
section
variable {α : Type} {enc : α → List Value} {k : Nat} {T : TypeId}
theorem OwnR.iterAt {N : Nat} {w : World} {v : Value} {l : List α} {j : Nat} {s : ByteArray} {p : Nat} (h : OwnR enc k T N w v l) (hj : w.heap[j]? = some (.stringIter s p)) (s' : ByteArray) (p' : Nat) : OwnR enc k T N (w.iterAt j s' p') v l := by
 refine ⟨h.1, ?_⟩
 rcases h.2 with hn | ⟨g, cap, cur, rfl, hb', hgg, rest⟩
 ·exact .inl hn
 ·refine .inr ⟨g, cap, cur, rfl, hb', ?_, rest⟩
  rw [iterAt_other w j g s' p' (fun e => by rw [e, hj] at hgg; cases hgg)]
  exact hgg
end
theorem RD14.iterAt {N d : Nat} {w : World} {out : List Tk} {ln : Int} {pt : List Int} {rm : Bool} {j : Nat} {s : ByteArray} {p : Nat} (h : RD14 N w d out ln pt rm) (hj : w.heap[j]? = some (.stringIter s p)) (s' : ByteArray) (p' : Nat) : RD14 N (w.iterAt j s' p') d out ln pt rm := by
 obtain ⟨hd, vT, vP, hx, ht, hp⟩ := h
 refine ⟨hd, vT, vP, ?_, ht.iterAt hj s' p', hp.iterAt hj s' p'⟩
 unfold BX at hx ⊢
 rw [iterAt_other w j d s' p' (fun e => by rw [e, hj] at hx; cases hx)]
 exact hx
theorem nextS_bd {out : List Tk} {ln : Int} {pt : List Int} {rm : Bool} {r : Int} {c : Int} {o : List Tk} {l : Int} {p : List Int} {m : Bool} (h : nextS out ln pt rm r = (c, o, l, p, m)) : ln ≤ l ∧ l ≤ ln + 1 ∧ p.length ≤ pt.length + 1 := by
 have hm : ∀ o2, ln ≤ (mkS o2 ln rm r).2.2.1 ∧ (mkS o2 ln rm r).2.2.1 ≤ ln + 1 := fun o2 => by
  unfold mkS
  repeat' split
  all_goals (simp only; omega)
 unfold nextS at h
 split at h
 ·cases h
  omega
 ·split at h
  ·cases h
   refine ⟨by omega, by omega, ?_⟩
   simp
  ·split at h
   ·have q := hm (epS out ln pt).2
    generalize mkS (epS out ln pt).2 ln rm r = z at h q
    cases h
    exact ⟨q.1, q.2, by simp⟩
   ·generalize epS out ln pt = z at h
    cases h
    exact ⟨by omega, by omega, by simp⟩
set_option maxHeartbeats 8000000 in
theorem read14 {N d : Nat} (s : ByteArray) (w : World) (hs : s.size ≤ 4096) (hr : RD14 N w d [] 1 [] false) (hN : N ≤ w.heap.size) (hv : LVN N w) : Calls Tryz.prog 71 #[.pointer (some ⟨d, 0, none⟩), .string s] w fun e w' => ∃ c out' ln' pt' rm', e = .returned (.int .i64 c) ∧ RD14 N w' d out' ln' pt' rm' ∧ Below N w w' ∧ ((c = 0 ∧ finL (lexS (bytesL s) 1 []) = (out', 0, 0)) ∨ (c ≠ 0 ∧ finL (lexS (bytesL s) 1 []) = ([], ln', c))) := by
 obtain ⟨n, hn⟩ : ∃ n, s.size = n := ⟨_, rfl⟩
 have HV := hide hv
 have bq := bel1 w (.stringIter s 0)
 have hk0 : Hid ((w.iter s 0).heap[w.heap.size]? = some (.stringIter s 0)) := World.iter_heap w s 0
 have hb0 : Hid (Below N w (w.iter s 0)) := bq.mono hN
 have hr0 : Hid (RD14 N (w.iter s 0) d [] 1 [] false) := hr.below bq
 have hd := hr.1
 clear bq hr hv
 go_enter Tryz.func71, Tryz.ntmps71
 go_wp2
 go_loopw [6, 7] (fun _ _ wr => ∃ (i : Nat) (out : List Tk) (ln : Int) (pt : List Int) (rm : Bool), i ≤ n ∧ Hid (wr.heap[w.heap.size]? = some (.stringIter s i)) ∧ Hid (RD14 N wr d out ln pt rm) ∧ Hid (GoodR out pt rm) ∧ Hid (0 ≤ ln ∧ ln ≤ (i : Int) + 1 ∧ pt.length ≤ i ∧ i ≤ 4096) ∧ Hid (lexC out ln pt rm ((bytesL s).drop i) = lexS (bytesL s) 1 []) ∧ Hid (Below N w wr)) (fun _ _ wr => n - wr.iterPos w.heap.size)
 case atStart => exact ⟨0, [], 1, [], false, by omega, hk0, hr0, ⟨by simp, by simp, fun _ => rfl⟩, ⟨by omega, by omega, by simp, by omega⟩, rfl, hb0⟩
 case round =>
  obtain ⟨i, out, ln, pt, rm, hi, HK, HR, HG, HL, HF, HB⟩ := hrel
  clear hk0 hb0 hr0
  have HMU : Hid (wr.iterPos w.heap.size = i) := by unfold Hid; simp [World.iterPos, HK.out]
  by_cases hlt : i < n
  ·have hls : i < s.size := by rw [hn]; exact hlt
   have HAT := hide (bytesL_at hls)
   have hnext0 := fun ty => run_next_any_at (P := Tryz.prog) wr w.heap.size s i ty HK.out hls
   rcases rune14 s i hls with ⟨h1, h2⟩ | ⟨h1, h2, h3, h4, h5⟩
   ·have hc : (((byS s i).toNat : Nat) : Int) = byS s i := by have := byS_bd s i; omega
    have hnext : ∀ ty, (Instr.next (.pointer (some ⟨w.heap.size, 0, none⟩)) true ty).run Tryz.prog wr = .ok (.tuple #[.bool true, .int .i64 i, .int .i32 (byS s i)]) (wr.iterAt w.heap.size s (i + 1)) := fun ty => by
     have q := hnext0 ty
     rw [h2] at q
     rw [q, ← hc]
     rfl
    have HK1 := hide (iterAt_heap wr w.heap.size s i (i + 1) HK.out)
    have HR1 := hide (HR.out.iterAt HK.out s (i + 1))
    have HB1 := hide (below_iterAt HB.out hN s (i + 1))
    have HV1 := hide (HV.out.below HB1.out)
    have HN1 : N ≤ (wr.iterAt w.heap.size s (i + 1)).heap.size := Nat.le_trans hN HB1.out.size
    generalize wr.iterAt w.heap.size s (i + 1) = W1 at hnext HK1 HR1 HB1 HV1 HN1
    clear hnext0 h1 h2 hc HK HR HB
    generalize byS s i = c at hnext HAT
    obtain ⟨c1, o1, l1, p1, m1, hn1⟩ : ∃ c1 o1 l1 p1 m1, nextS out ln pt rm c = (c1, o1, l1, p1, m1) := ⟨_, _, _, _, _, rfl⟩
    have HNX : Hid (∀ W, N ≤ W.heap.size → LVN N W → RD14 N W d out ln pt rm → Calls Tryz.prog 82 #[.pointer (some ⟨d, 0, none⟩), .int .i32 c] W fun e w' => e = .returned (.int .i64 c1) ∧ RD14 N w' d o1 l1 p1 m1 ∧ Below N W w' ∧ IK W w') := fun W h1 h2 h3 => by
     have q := next14 W h3 h1 c h2 HG.out.1 (by have := HL.out; omega) (by have := HL.out; omega) HG.out.2.1
     rw [hn1] at q
     exact q
    have hq := next_is HG.out ln c ((bytesL s).drop (i + 1)) hn1
    rw [← drop_at HAT.out, HF.out] at hq
    have hbd := nextS_bd hn1
    by_cases h0 : c1 = 0
    ·subst h0
     have HE := hide (hq.1 rfl).1.symm
     have HG1 := hide (hq.1 rfl).2
     have HBD : Hid (0 ≤ l1 ∧ l1 ≤ ((i + 1 : Nat) : Int) + 1 ∧ p1.length ≤ i + 1 ∧ i + 1 ≤ 4096) := by have := HL.out; unfold Hid; omega
     clear hq hbd
     clear hn1 HG HL HF HAT hls
     go_wp2_with (go_at_call 82; refine (HNX.out _ HN1 HV1.out HR1.out).mono ?_; rintro e w3 ⟨rfl, hr2, hb2, hi2⟩; replace HR1 := hide hr2; replace HK1 := hide (hi2 _ _ _ HK1.out); replace HB1 := hide (HB1.out.trans hb2); clear hr2 hb2 hi2)
     go_roundw
     case rel => exact ⟨i + 1, o1, l1, p1, m1, by omega, HK1, HR1, HG1, HBD, HE, HB1⟩
     case measure =>
      have hmu2 : w3.iterPos w.heap.size = i + 1 := by simp [World.iterPos, HK1.out]
      rw [HMU.out, hmu2]
      omega
    ·have HE := hide (hq.2 h0)
     clear hq hbd
     have g0 : (c1 != 0) = true := by simpa using h0
     clear hn1 h0 HG HL HF HAT hls
     go_wp2_with (go_at_call 82; refine (HNX.out _ HN1 HV1.out HR1.out).mono ?_; rintro e w3 ⟨rfl, hr2, hb2, hi2⟩; replace HR1 := hide hr2; replace HK1 := hide (hi2 _ _ _ HK1.out); replace HB1 := hide (HB1.out.trans hb2); clear hr2 hb2 hi2)
     go_ret
     exact ⟨c1, o1, l1, p1, m1, rfl, HR1.out, HB1.out, .inr ⟨by simpa using g0, by rw [HE.out]; rfl⟩⟩
   ·obtain ⟨R, hR⟩ : ∃ R : Int, (((Utf8.decode s i).1 : Nat) : Int) = R := ⟨_, rfl⟩
    obtain ⟨K, hK⟩ : ∃ K : Nat, (Utf8.decode s i).2 = K := ⟨_, rfl⟩
    rw [hR, hK] at hnext0
    rw [hK] at h4 h5
    have hR1 : 128 ≤ R := by omega
    have HK1 := hide (iterAt_heap wr w.heap.size s i (i + K) HK.out)
    have HR1 := hide (HR.out.iterAt HK.out s (i + K))
    have HB1 := hide (below_iterAt HB.out hN s (i + K))
    have HV1 := hide (HV.out.below HB1.out)
    have HN1 : N ≤ (wr.iterAt w.heap.size s (i + K)).heap.size := Nat.le_trans hN HB1.out.size
    generalize wr.iterAt w.heap.size s (i + K) = W1 at hnext0 HK1 HR1 HB1 HV1 HN1
    clear h2 h3 hR hK HK HR HB
    obtain ⟨c1, o1, l1, p1, m1, hn1⟩ : ∃ c1 o1 l1 p1 m1, nextS out ln pt rm R = (c1, o1, l1, p1, m1) := ⟨_, _, _, _, _, rfl⟩
    have HNX : Hid (∀ W, N ≤ W.heap.size → LVN N W → RD14 N W d out ln pt rm → Calls Tryz.prog 82 #[.pointer (some ⟨d, 0, none⟩), .int .i32 R] W fun e w' => e = .returned (.int .i64 c1) ∧ RD14 N w' d o1 l1 p1 m1 ∧ Below N W w' ∧ IK W w') := fun W h1 h2 h3 => by
     have q := next14 W h3 h1 R h2 HG.out.1 (by have := HL.out; omega) (by have := HL.out; omega) HG.out.2.1
     rw [hn1] at q
     exact q
    rcases hrm : rm with _ | _
    ·rw [hrm] at hn1 HG HF
     have hq := next_hi HG.out ln hR1 h1 ((bytesL s).drop (i + 1)) hn1
     rw [← drop_at HAT.out, HF.out] at hq
     have h0 := hq.1
     have HE := hide hq.2
     clear hq h5 h4 hR1 h1
     subst hrm
     have g0 : (c1 != 0) = true := by simpa using h0
     clear hn1 h0 HG HL HF HAT hls
     go_wp2_with (go_at_call 82; refine (HNX.out _ HN1 HV1.out HR1.out).mono ?_; rintro e w3 ⟨rfl, hr2, hb2, hi2⟩; replace HR1 := hide hr2; replace HK1 := hide (hi2 _ _ _ HK1.out); replace HB1 := hide (HB1.out.trans hb2); clear hr2 hb2 hi2)
     go_ret
     exact ⟨c1, o1, l1, p1, m1, rfl, HR1.out, HB1.out, .inr ⟨by simpa using g0, by rw [HE.out]; rfl⟩⟩
    ·rw [hrm] at hn1 HG HF
     have hS : nextS out ln pt true R = (0, out, ln, pt, true) := by
      unfold nextS
      rw [if_pos ⟨rfl, by omega⟩]
     rw [hS] at hn1
     cases hn1
     have hdw := dropW_skip (bytesL s) i K (fun j hj => ⟨byS s (i + j), bytesL_at (h5 j hj).1, by have := (h5 j hj).2; omega⟩)
     have hle : i + K ≤ n := by
      have := h5 (K - 1) (by omega)
      omega
     have HE : Hid (lexC out ln pt true ((bytesL s).drop (i + K)) = lexS (bytesL s) 1 []) := by
      unfold Hid
      rw [← HF.out]
      unfold lexC
      rw [if_pos rfl, if_pos rfl, hdw]
     have HG1 := HG
     have HBD : Hid (0 ≤ ln ∧ ln ≤ ((i + K : Nat) : Int) + 1 ∧ pt.length ≤ i + K ∧ i + K ≤ 4096) := by have := HL.out; unfold Hid; omega
     subst hrm
     have hn1 : True := trivial
     clear hdw h5 hR1 h1 hS
     generalize out = o1 at *
     generalize ln = l1 at *
     generalize pt = p1 at *
     generalize hm1 : true = m1 at HNX HR1 HG1 HE
     subst hm1
     clear HG HL HF HAT hls hn1
     go_wp2_with (go_at_call 82; refine (HNX.out _ HN1 HV1.out HR1.out).mono ?_; rintro e w3 ⟨rfl, hr2, hb2, hi2⟩; replace HR1 := hide hr2; replace HK1 := hide (hi2 _ _ _ HK1.out); replace HB1 := hide (HB1.out.trans hb2); clear hr2 hb2 hi2)
     go_roundw
     case rel => exact ⟨i + K, o1, l1, p1, true, hle, HK1, HR1, HG1, HBD, HE, HB1⟩
     case measure =>
      have hmu2 : w3.iterPos w.heap.size = i + K := by simp [World.iterPos, HK1.out]
      rw [HMU.out, hmu2]
      omega
  ·obtain rfl : i = n := by omega
   have hnext0 := fun ty => run_next_end_at (P := Tryz.prog) wr w.heap.size s i ty HK.out (by omega)
   have hdr : (bytesL s).drop i = [] := List.drop_eq_nil_of_le (by rw [bytesL_sz]; omega)
   rw [hdr] at HF
   obtain ⟨c1, o1, hn1⟩ : ∃ c1 o1, endS out ln pt = (c1, o1) := ⟨_, _, rfl⟩
   have HED : Hid (∀ W, N ≤ W.heap.size → LVN N W → RD14 N W d out ln pt rm → Calls Tryz.prog 83 #[.pointer (some ⟨d, 0, none⟩)] W fun e w' => e = .returned (.int .i64 c1) ∧ RD14 N w' d o1 ln [] rm ∧ Below N W w' ∧ IK W w') := fun W h1 h2 h3 => by
    have q := end14 W h3 h1 h2 HG.out.1 (by have := HL.out; omega) HG.out.2.1
    rw [hn1] at q
    exact q
   have hq := end_is HG.out ln hn1
   rw [HF.out] at hq
   have HQ := hide hq
   have HV1 := hide (HV.out.below HB.out)
   have HN1 : N ≤ wr.heap.size := Nat.le_trans hN HB.out.size
   clear hq hn1 HG HL HF hdr
   go_wp2_with (go_at_call 83; refine (HED.out _ HN1 HV1.out HR.out).mono ?_; rintro e w3 ⟨rfl, hr2, hb2, hi2⟩; replace HR := hide hr2; replace HB := hide (HB.out.trans hb2); clear hr2 hb2 hi2)
   go_ret
   refine ⟨c1, o1, ln, [], rm, rfl, HR.out, HB.out, ?_⟩
   by_cases h0 : c1 = 0
   ·exact .inl ⟨h0, HQ.out.1 h0⟩
   ·exact .inr ⟨h0, HQ.out.2 h0⟩
set_option maxHeartbeats 4000000 in
theorem ReadP14 (s : ByteArray) (w : World) (hm : s.size ≤ maxLen) (hv : LV w) : Calls Tryz.prog 52 #[.string s] w (RdP s w) := by
 obtain ⟨n, hn⟩ : ∃ n, s.size = n := ⟨_, rfl⟩
 by_cases hs : s.size ≤ 4096
 ·have h4 : ¬ (4096 : Int) < (n : Int) := by omega
  have HR0 := hide (RD14.start w _ rfl)
  have bq := bel1 w (.cells #[.slice none 0 0, .int .i64 1, .slice none 0 0, .bool false] 109)
  have HV := hide (hv.lvn.below bq)
  have HB := hide bq
  have hN := bq.size
  clear bq hv
  go_enter Tryz.func52, Tryz.ntmps52
  go_upto_region 4 with fail
  have HRD := hide (fun (W : World) h1 h2 h3 => read14 (N := w.heap.size) (d := w.heap.size) s W hs h1 h2 h3)
  generalize w.alloc (.cells #[.slice none 0 0, .int .i64 1, .slice none 0 0, .bool false] 109) = w1 at *
  go_upto_region 5 with (go_at_call 71; refine (HRD.out _ HR0.out hN HV.out).mono ?_; rintro e w2 ⟨c, out, ln, pt, rm, rfl, hr2, hb2, hq⟩; have HR := hide hr2; have HQ := hide hq; replace HB := hide (HB.out.trans hb2); clear hr2 hb2 hq)
  obtain ⟨hd, vT, vP, hx, ht, hp⟩ := HR.out
  obtain ⟨pT, cT, rfl, hks, hcp⟩ := ht.open encTk_len
  have x0 := hx.cell 0 _ rfl
  have x1 := hx.cell 1 _ rfl
  have HK := hide hks
  have HC := hide hcp
  clear hx ht hp hks hcp HR HRD HR0 HV
  have hlb : Hid (lexB (bytesL s) = finL (lexS (bytesL s) 1 [])) := by
   unfold Hid lexB
   rw [if_neg (by rw [bytesL_sz]; omega)]
   rfl
  rcases HQ.out with ⟨rfl, hq⟩ | ⟨h0, hq⟩
  ·have HL : Hid (lexB (bytesL s) = (out, 0, 0)) := by unfold Hid; rw [hlb.out, hq]
   clear HQ hq hlb
   go_wp2
   go_ret3
   exact ⟨pT, cT, out, 0, 0, rfl, HL.out, HK.out, HC.out, HB.out⟩
  ·have HL : Hid (lexB (bytesL s) = ([], ln, c)) := by unfold Hid; rw [hlb.out, hq]
   have g0 : (c != 0) = true := by simpa using h0
   clear HQ hq hlb h0
   go_upto_region 6 with fail
   go_region
   go_wp2
   go_ret3
   exact ⟨none, 0, [], ln, c, rfl, HL.out, RS.nil _ _, by simp [CP, maxLen], HB.out.drew⟩
 ·have HB : Hid (lexB (bytesL s) = ([], 0, 7)) := by unfold Hid lexB; rw [if_pos (by rw [bytesL_sz]; omega)]
  have hn4 : (4096 : Int) < (n : Int) := by omega
  have hnm : n ≤ maxLen := by omega
  go_enter Tryz.func52, Tryz.ntmps52
  go_wp2
  go_ret3
  exact ⟨none, 0, [], 0, 7, rfl, HB.out, RS.nil _ _, by simp [CP, maxLen], Below.refl _ _⟩
end Go.Proofs.YtomppblgalepjaaGreatDoor

/- Same of the document (layer 15). -/
namespace Go.Proofs.YtomppblgalepjaaGreatDoor
open Go.RowKit Go.Lib
set_option linter.unusedVariables false
theorem SF.dc {w : World} {b off n : Nat} {l : List Dc} (h : SF 7 RDc w (some ⟨b, off, none⟩) n l) (i : Nat) (hi : i < n) : ∃ (d : Dc) (p : Option Addr) (c : Nat), l[i]? = some d ∧ RS encDd 3 w p d.2.2.2.2.2.1.length d.2.2.2.2.2.1 ∧ CP p d.2.2.2.2.2.1.length c ∧ w.cell? ⟨b, off + i * 7, none⟩ = some (.int .i64 d.1) ∧ w.cell? ⟨b, off + i * 7 + 1, none⟩ = some (.bool d.2.1) ∧ w.cell? ⟨b, off + i * 7 + 2, none⟩ = some (.string d.2.2.1) ∧ w.cell? ⟨b, off + i * 7 + 3, none⟩ = some (.string d.2.2.2.1) ∧ w.cell? ⟨b, off + i * 7 + 4, none⟩ = some (.int .i64 d.2.2.2.2.1) ∧ w.cell? ⟨b, off + i * 7 + 5, none⟩ = some (.slice p d.2.2.2.2.2.1.length c) ∧ w.cell? ⟨b, off + i * 7 + 6, none⟩ = some (.int .i64 d.2.2.2.2.2.2) := by
 obtain ⟨r, d, F, hx, ⟨p, m, c, hr, h2, h3, _⟩, hc⟩ := h.at i hi
 have e := h2.1
 subst e
 refine ⟨d, p, c, hx, h2, h3, ?_, ?_, ?_, ?_, ?_, ?_, ?_⟩
 ·exact hc 0 _ (by rw [hr]; rfl)
 ·exact hc 1 _ (by rw [hr]; rfl)
 ·exact hc 2 _ (by rw [hr]; rfl)
 ·exact hc 3 _ (by rw [hr]; rfl)
 ·exact hc 4 _ (by rw [hr]; rfl)
 ·exact hc 5 _ (by rw [hr]; rfl)
 ·exact hc 6 _ (by rw [hr]; rfl)
end Go.Proofs.YtomppblgalepjaaGreatDoor

/- What the program tells of a text's lines (layer 15). -/
namespace Go.Proofs.YtomppblgalepjaaGreatDoor
open Go.RowKit Go.Lib
set_option linter.unusedVariables false
def GiP (s : ByteArray) (w : World) (e : Ending) (w' : World) : Prop := ∃ v ds x e0, e = .returned (.tuple #[v, .int .i64 x, .int .i64 e0]) ∧ linG (bytesL s) = (ds, x, e0) ∧ OwnF 7 RDc 38 w.heap.size w' v ds ∧ Below w.heap.size w w'
theorem lexB_ne {l : List Int} {ts : List Tk} {x : Int} (h : lexB l = (ts, x, 0)) : ts ≠ [] := by
 unfold lexB at h
 split at h
 ·cases h
 ·have hc := lexP_err l.length l 1 []
  rcases hr : lexP l.length l 1 [] with ⟨y, e⟩ | ⟨ln, A⟩
  ·rw [hr] at h hc
   cases h
   exact absurd rfl hc
  ·rw [hr] at h
   unfold finL at h
   simp only at h
   split at h
   ·cases h
   ·cases h
    simp
theorem ks_lt {w : World} {a : Option Addr} {l : List Tk} (h : KS w a l.length l) (h0 : l ≠ []) : ∀ b, a = some b → b.block < w.heap.size := fun b hb => by
 obtain ⟨t, r, rfl⟩ := List.exists_cons_of_ne_nil h0
 rcases h.2.2 with hz | ⟨b', off, rfl, hc⟩
 ·simp at hz
 ·cases hb
  exact World.block_lt_of_cell? w _ (hc 0 t rfl 0 _ rfl)
theorem gQ_is {l : List Int} {ts : List Tk} {x : Int} (h : lexB l = (ts, x, 0)) : linG l = gQ (linX ts []) := by
 unfold linG
 rw [h]
 exact if_neg (by simp)
theorem lexB_bad {l : List Int} {ts : List Tk} {x e : Int} (h : lexB l = (ts, x, e)) (he : e ≠ 0) : ts = [] := by
 unfold lexB at h
 split at h
 ·cases h; rfl
 ·rcases hr : lexP l.length l 1 [] with ⟨y, e'⟩ | ⟨ln, A⟩
  ·rw [hr] at h
   cases h
   rfl
  ·rw [hr] at h
   unfold finL at h
   simp only at h
   split at h
   ·cases h; rfl
   ·cases h
    exact absurd rfl he
set_option maxRecDepth 2000 in
set_option maxHeartbeats 4000000 in
theorem LinesP15 (s : ByteArray) (w : World) (hm : s.size ≤ maxLen) (hv : LV w) : Calls Tryz.prog 35 #[.string s] w (GiP s w) := by
 have HRD := hide (fun W hW => ReadP14 s W hm hW)
 clear hm
 go_enter Tryz.func35, Tryz.ntmps35
 go_upto_region 2 with (go_at_call 52; refine (HRD.out _ hv).mono ?_; rintro e w1 ⟨p, c, ts, x, e0, rfl, hl, hk, hc, hb⟩; have HL := hide hl; have HK := hide hk; have HC := hide hc; have HB := hide hb; clear hl hk hc hb)
 clear HRD
 by_cases he : e0 = 0
 ·subst he
  have hne := lexB_ne HL.out
  have hA := ks_lt HK.out hne
  have hen := lexB_ends HL.out
  have h8 : ts.length ≤ 800 := by have q := lexB_l15 (bytesL s); rw [HL.out] at q; exact q
  have HGQ := hide (gQ_is HL.out)
  rcases hR : linX ts [] with y | ds
  ·have HTL : Hid (∀ W, Below w1.heap.size w1 W → Calls Tryz.prog 53 #[.slice p ts.length c] W fun e w' => e = .returned (.tuple #[.slice none 0 0, .int .i64 y, .int .i64 2]) ∧ Below W.heap.size W w') := fun W hW => (tell15 p c ts W (HK.out.below hW) HC.out (fun b hb => Nat.lt_of_lt_of_le (hA b hb) hW.size) hen.1 hen.2 (lexB_num0 HL.out) (lexB_endz HL.out) h8 hR).mono (by
    rintro e w' (⟨_, v, h, _⟩ | ⟨y', h, rfl, hb⟩)
    ·cases h
    ·cases h; exact ⟨rfl, hb⟩)
   rw [hR] at HGQ
   clear hne hA hen h8 hR HL HC
   have hb0 := Below.refl w1.heap.size w1
   go_wp2_with (go_at_call 53; refine (HTL.out _ hb0).mono ?_; rintro e w2 ⟨rfl, hb⟩; have HB2 := hide (bel_next HB.out hb); clear hb)
   go_ret3
   exact ⟨_, [], y, 2, rfl, HGQ.out, OwnF.nil _ _, HB2.out⟩
  ·have HTL : Hid (∀ W, Below w1.heap.size w1 W → Calls Tryz.prog 53 #[.slice p ts.length c] W fun e w' => ∃ v, e = .returned (.tuple #[v, .int .i64 0, .int .i64 0]) ∧ OwnF 7 RDc 38 W.heap.size w' v ds ∧ ds.length ≤ 800 ∧ Below W.heap.size W w') := fun W hW => (tell15 p c ts W (HK.out.below hW) HC.out (fun b hb => Nat.lt_of_lt_of_le (hA b hb) hW.size) hen.1 hen.2 (lexB_num0 HL.out) (lexB_endz HL.out) h8 hR).mono (by
    rintro e w' (⟨_, v, h, rfl, h2⟩ | ⟨y', h, _⟩)
    ·cases h; exact ⟨v, rfl, h2⟩
    ·cases h)
   rw [hR] at HGQ
   clear hne hA hen h8 hR HL HC
   have hb0 := Below.refl w1.heap.size w1
   go_upto_region 5 with (go_at_call 53; refine (HTL.out _ hb0).mono ?_; rintro e w2 ⟨v, rfl, ho, h8, hb⟩; have HB2 := hide (bel_next HB.out hb); have HO := hide (OwnF.mono ho HB.out.size); clear ho hb)
   clear hb0 HTL HK
   obtain ⟨pv, cv, hv2, hsf, hcp⟩ := HO.out.open
   subst hv2
   by_cases h60 : 60 < ds.length
   ·have h60i : (ds.length : Int) > 60 := by omega
    obtain ⟨b, off, rfl⟩ := hsf.addr (by omega)
    obtain ⟨r, d, F, hd, hrd, hcl⟩ := hsf.at 60 h60
    obtain ⟨p6, n6, c6, hr6, _⟩ := hrd
    have z6 := hcl 6 (.int .i64 d.2.2.2.2.2.2) (by rw [hr6]; rfl)
    have HGQ2 : Hid (linG (bytesL s) = ([], d.2.2.2.2.2.2, 7)) := by
     unfold Hid
     rw [HGQ.out]
     show (if 60 < ds.length then _ else _) = _
     rw [if_pos h60, hd]
     rfl
    obtain ⟨m, hm⟩ : ∃ m, ds.length = m := ⟨_, rfl⟩
    rw [hm] at h60i
    have hm0 : (60 : Int) < (m : Int) := h60i
    rw [hm]
    clear hsf hcp hd hr6 hcl HGQ HO hm h60 h8
    go_upto_region 8 with fail
    go_region
    go_wp2
    go_ret3
    exact ⟨_, [], _, 7, rfl, HGQ2.out, OwnF.nil _ _, HB2.out.drew⟩
   ·have h60i : ¬ (ds.length : Int) > 60 := by omega
    have HGQ2 : Hid (linG (bytesL s) = (ds, 0, 0)) := by
     unfold Hid
     rw [HGQ.out]
     exact if_neg h60
    obtain ⟨m, hm⟩ : ∃ m, ds.length = m := ⟨_, rfl⟩
    rw [hm] at h60i HO
    rw [hm]
    clear hsf hcp HGQ hm h60 h8
    go_wp2
    go_ret3
    exact ⟨_, ds, 0, 0, rfl, HGQ2.out, HO.out, HB2.out⟩
 ·have HGL : Hid (ts = [] ∧ linG (bytesL s) = ([], x, e0)) := by
   have q := lexB_bad HL.out he
   subst q
   exact ⟨rfl, linG_lex HL.out he⟩
  have he2 : (e0 == 0) = false := by simpa using he
  clear HL HK HC
  go_wp2
  go_ret3
  exact ⟨_, [], x, e0, rfl, HGL.out.2, OwnF.nil _ _, HB.out⟩
end Go.Proofs.YtomppblgalepjaaGreatDoor

