/- The program's read and Read (layer 14). -/
import Derived.Test.YtadmibfnjhockaaDoorLF
namespace Go.Proofs.YtadmibfnjhockaaDoor
open Go.RowKit Go.Lib
set_option linter.unusedVariables false
section
variable {α : Type} {enc : α → List Value} {k : Nat} {T : TypeId}
theorem OwnR.iterAt {N : Nat} {w : World} {v : Value} {l : List α} {j : Nat} {s : ByteArray} {p : Nat} (h : OwnR enc k T N w v l) (hj : w.heap[j]? = some (.stringIter s p)) (s' : ByteArray) (p' : Nat) : OwnR enc k T N (w.iterAt j s' p') v l := by
  refine ⟨h.1, ?_⟩
  rcases h.2 with hn | ⟨g, cap, cur, rfl, hb', hgg, rest⟩
  · exact .inl hn
  · refine .inr ⟨g, cap, cur, rfl, hb', ?_, rest⟩
    rw [iterAt_other w j g s' p' (fun e => by rw [e, hj] at hgg; cases hgg)]
    exact hgg
end
theorem RD14.iterAt {N d : Nat} {w : World} {out : List Tk} {ln : Int} {pt : List Int} {rm : Bool} {j : Nat} {s : ByteArray} {p : Nat} (h : RD14 N w d out ln pt rm) (hj : w.heap[j]? = some (.stringIter s p)) (s' : ByteArray) (p' : Nat) : RD14 N (w.iterAt j s' p') d out ln pt rm := by
  obtain ⟨hd, vT, vP, hx, ht, hp⟩ := h
  refine ⟨hd, vT, vP, ?_, ht.iterAt hj s' p', hp.iterAt hj s' p'⟩
  unfold BX at hx ⊢
  rw [iterAt_other w j d s' p' (fun e => by rw [e, hj] at hx; cases hx)]
  exact hx
/-- How far a rune goes. -/
theorem nextS_bd {out : List Tk} {ln : Int} {pt : List Int} {rm : Bool} {r : Int} {c : Int} {o : List Tk} {l : Int} {p : List Int} {m : Bool} (h : nextS out ln pt rm r = (c, o, l, p, m)) : ln ≤ l ∧ l ≤ ln + 1 ∧ p.length ≤ pt.length + 1 := by
  have hm : ∀ o2, ln ≤ (mkS o2 ln rm r).2.2.1 ∧ (mkS o2 ln rm r).2.2.1 ≤ ln + 1 := fun o2 => by
    unfold mkS
    repeat' split
    all_goals (simp only; omega)
  unfold nextS at h
  split at h
  · cases h
    omega
  · split at h
    · cases h
      refine ⟨by omega, by omega, ?_⟩
      simp
    · split at h
      · have q := hm (epS out ln pt).2
        generalize mkS (epS out ln pt).2 ln rm r = z at h q
        cases h
        exact ⟨q.1, q.2, by simp⟩
      · generalize epS out ln pt = z at h
        cases h
        exact ⟨by omega, by omega, by simp⟩
set_option maxHeartbeats 8000000 in
theorem read14 {N d : Nat} (s : ByteArray) (w : World) (hs : s.size ≤ 4096) (hr : RD14 N w d [] 1 [] false) (hN : N ≤ w.heap.size) (hv : LVN N w) : Calls Tryd.prog 22 #[.pointer (some ⟨d, 0, none⟩), .string s] w fun e w' => ∃ c out' ln' pt' rm', e = .returned (.int .i64 c) ∧ RD14 N w' d out' ln' pt' rm' ∧ Below N w w' ∧ ((c = 0 ∧ finL (lexS (bytesL s) 1 []) = (out', 0, 0)) ∨ (c ≠ 0 ∧ finL (lexS (bytesL s) 1 []) = ([], ln', c))) := by
  obtain ⟨n, hn⟩ : ∃ n, s.size = n := ⟨_, rfl⟩
  have HV := hide hv
  have bq := bel1 w (.stringIter s 0)
  have hk0 : Hid ((w.iter s 0).heap[w.heap.size]? = some (.stringIter s 0)) := World.iter_heap w s 0
  have hb0 : Hid (Below N w (w.iter s 0)) := bq.mono hN
  have hr0 : Hid (RD14 N (w.iter s 0) d [] 1 [] false) := hr.below bq
  have hd := hr.1
  clear bq hr hv
  go_enter Tryd.func22, Tryd.ntmps22
  go_wp2
  go_loopw [6, 7] (fun _ _ wr => ∃ (i : Nat) (out : List Tk) (ln : Int) (pt : List Int) (rm : Bool), i ≤ n ∧ Hid (wr.heap[w.heap.size]? = some (.stringIter s i)) ∧ Hid (RD14 N wr d out ln pt rm) ∧ Hid (GoodR out pt rm) ∧ Hid (0 ≤ ln ∧ ln ≤ (i : Int) + 1 ∧ pt.length ≤ i ∧ i ≤ 4096) ∧ Hid (lexC out ln pt rm ((bytesL s).drop i) = lexS (bytesL s) 1 []) ∧ Hid (Below N w wr)) (fun _ _ wr => n - wr.iterPos w.heap.size)
  case atStart => exact ⟨0, [], 1, [], false, by omega, hk0, hr0, ⟨by simp, by simp, fun _ => rfl⟩, ⟨by omega, by omega, by simp, by omega⟩, rfl, hb0⟩
  case round =>
    obtain ⟨i, out, ln, pt, rm, hi, HK, HR, HG, HL, HF, HB⟩ := hrel
    clear hk0 hb0 hr0
    have HMU : Hid (wr.iterPos w.heap.size = i) := by unfold Hid; simp [World.iterPos, HK.out]
    by_cases hlt : i < n
    · have hls : i < s.size := by rw [hn]; exact hlt
      have HAT := hide (bytesL_at hls)
      have hnext0 := fun ty => run_next_any_at (P := Tryd.prog) wr w.heap.size s i ty HK.out hls
      rcases rune14 s i hls with ⟨h1, h2⟩ | ⟨h1, h2, h3, h4, h5⟩
      · have hc : (((byS s i).toNat : Nat) : Int) = byS s i := by have := byS_bd s i; omega
        have hnext : ∀ ty, (Instr.next (.pointer (some ⟨w.heap.size, 0, none⟩)) true ty).run Tryd.prog wr = .ok (.tuple #[.bool true, .int .i64 i, .int .i32 (byS s i)]) (wr.iterAt w.heap.size s (i + 1)) := fun ty => by
          have q := hnext0 ty
          rw [h2] at q
          rw [q, ← hc]
          rfl
        have HK1 := hide (iterAt_heap wr w.heap.size s i (i + 1) HK.out)
        have HR1 := hide (HR.out.iterAt HK.out s (i + 1))
        have HB1 := hide (below_iterAt HB.out hN s (i + 1))
        have HV1 := hide (HV.out.below HB1.out)
        have HN1 : N ≤ (wr.iterAt w.heap.size s (i + 1)).heap.size := Nat.le_trans hN HB1.out.size
        generalize wr.iterAt w.heap.size s (i + 1) = W1 at hnext HK1 HR1 HB1 HV1 HN1
        clear hnext0 h1 h2 hc HK HR HB
        generalize byS s i = c at hnext HAT
        obtain ⟨c1, o1, l1, p1, m1, hn1⟩ : ∃ c1 o1 l1 p1 m1, nextS out ln pt rm c = (c1, o1, l1, p1, m1) := ⟨_, _, _, _, _, rfl⟩
        have HNX : Hid (∀ W, N ≤ W.heap.size → LVN N W → RD14 N W d out ln pt rm → Calls Tryd.prog 33 #[.pointer (some ⟨d, 0, none⟩), .int .i32 c] W fun e w' => e = .returned (.int .i64 c1) ∧ RD14 N w' d o1 l1 p1 m1 ∧ Below N W w' ∧ IK W w') := fun W h1 h2 h3 => by
          have q := next14 W h3 h1 c h2 HG.out.1 (by have := HL.out; omega) (by have := HL.out; omega) HG.out.2.1
          rw [hn1] at q
          exact q
        have hq := next_is HG.out ln c ((bytesL s).drop (i + 1)) hn1
        rw [← drop_at HAT.out, HF.out] at hq
        have hbd := nextS_bd hn1
        by_cases h0 : c1 = 0
        · subst h0
          have HE := hide (hq.1 rfl).1.symm
          have HG1 := hide (hq.1 rfl).2
          have HBD : Hid (0 ≤ l1 ∧ l1 ≤ ((i + 1 : Nat) : Int) + 1 ∧ p1.length ≤ i + 1 ∧ i + 1 ≤ 4096) := by have := HL.out; unfold Hid; omega
          clear hq hbd
          clear hn1 HG HL HF HAT hls
          go_wp2_with (go_at_call 33; refine (HNX.out _ HN1 HV1.out HR1.out).mono ?_; rintro e w3 ⟨rfl, hr2, hb2, hi2⟩; replace HR1 := hide hr2; replace HK1 := hide (hi2 _ _ _ HK1.out); replace HB1 := hide (HB1.out.trans hb2); clear hr2 hb2 hi2)
          go_roundw
          case rel => exact ⟨i + 1, o1, l1, p1, m1, by omega, HK1, HR1, HG1, HBD, HE, HB1⟩
          case measure =>
            have hmu2 : w3.iterPos w.heap.size = i + 1 := by simp [World.iterPos, HK1.out]
            rw [HMU.out, hmu2]
            omega
        · have HE := hide (hq.2 h0)
          clear hq hbd
          have g0 : (c1 != 0) = true := by simpa using h0
          clear hn1 h0 HG HL HF HAT hls
          go_wp2_with (go_at_call 33; refine (HNX.out _ HN1 HV1.out HR1.out).mono ?_; rintro e w3 ⟨rfl, hr2, hb2, hi2⟩; replace HR1 := hide hr2; replace HK1 := hide (hi2 _ _ _ HK1.out); replace HB1 := hide (HB1.out.trans hb2); clear hr2 hb2 hi2)
          go_ret
          exact ⟨c1, o1, l1, p1, m1, rfl, HR1.out, HB1.out, .inr ⟨by simpa using g0, by rw [HE.out]; rfl⟩⟩
      · obtain ⟨R, hR⟩ : ∃ R : Int, (((Utf8.decode s i).1 : Nat) : Int) = R := ⟨_, rfl⟩
        obtain ⟨K, hK⟩ : ∃ K : Nat, (Utf8.decode s i).2 = K := ⟨_, rfl⟩
        rw [hR, hK] at hnext0
        rw [hK] at h4 h5
        have hR1 : 128 ≤ R := by omega
        have HK1 := hide (iterAt_heap wr w.heap.size s i (i + K) HK.out)
        have HR1 := hide (HR.out.iterAt HK.out s (i + K))
        have HB1 := hide (below_iterAt HB.out hN s (i + K))
        have HV1 := hide (HV.out.below HB1.out)
        have HN1 : N ≤ (wr.iterAt w.heap.size s (i + K)).heap.size := Nat.le_trans hN HB1.out.size
        generalize wr.iterAt w.heap.size s (i + K) = W1 at hnext0 HK1 HR1 HB1 HV1 HN1
        clear h2 h3 hR hK HK HR HB
        obtain ⟨c1, o1, l1, p1, m1, hn1⟩ : ∃ c1 o1 l1 p1 m1, nextS out ln pt rm R = (c1, o1, l1, p1, m1) := ⟨_, _, _, _, _, rfl⟩
        have HNX : Hid (∀ W, N ≤ W.heap.size → LVN N W → RD14 N W d out ln pt rm → Calls Tryd.prog 33 #[.pointer (some ⟨d, 0, none⟩), .int .i32 R] W fun e w' => e = .returned (.int .i64 c1) ∧ RD14 N w' d o1 l1 p1 m1 ∧ Below N W w' ∧ IK W w') := fun W h1 h2 h3 => by
          have q := next14 W h3 h1 R h2 HG.out.1 (by have := HL.out; omega) (by have := HL.out; omega) HG.out.2.1
          rw [hn1] at q
          exact q
        rcases hrm : rm with _ | _
        · rw [hrm] at hn1 HG HF
          have hq := next_hi HG.out ln hR1 h1 ((bytesL s).drop (i + 1)) hn1
          rw [← drop_at HAT.out, HF.out] at hq
          have h0 := hq.1
          have HE := hide hq.2
          clear hq h5 h4 hR1 h1
          subst hrm
          have g0 : (c1 != 0) = true := by simpa using h0
          clear hn1 h0 HG HL HF HAT hls
          go_wp2_with (go_at_call 33; refine (HNX.out _ HN1 HV1.out HR1.out).mono ?_; rintro e w3 ⟨rfl, hr2, hb2, hi2⟩; replace HR1 := hide hr2; replace HK1 := hide (hi2 _ _ _ HK1.out); replace HB1 := hide (HB1.out.trans hb2); clear hr2 hb2 hi2)
          go_ret
          exact ⟨c1, o1, l1, p1, m1, rfl, HR1.out, HB1.out, .inr ⟨by simpa using g0, by rw [HE.out]; rfl⟩⟩
        · rw [hrm] at hn1 HG HF
          have hS : nextS out ln pt true R = (0, out, ln, pt, true) := by
            unfold nextS
            rw [if_pos ⟨rfl, by omega⟩]
          rw [hS] at hn1
          cases hn1
          have hdw := dropW_skip (bytesL s) i K (fun j hj => ⟨byS s (i + j), bytesL_at (h5 j hj).1, by have := (h5 j hj).2; omega⟩)
          have hle : i + K ≤ n := by
            have := h5 (K - 1) (by omega)
            omega
          have HE : Hid (lexC out ln pt true ((bytesL s).drop (i + K)) = lexS (bytesL s) 1 []) := by
            unfold Hid
            rw [← HF.out]
            unfold lexC
            rw [if_pos rfl, if_pos rfl, hdw]
          have HG1 := HG
          have HBD : Hid (0 ≤ ln ∧ ln ≤ ((i + K : Nat) : Int) + 1 ∧ pt.length ≤ i + K ∧ i + K ≤ 4096) := by have := HL.out; unfold Hid; omega
          subst hrm
          have hn1 : True := trivial
          clear hdw h5 hR1 h1 hS
          generalize out = o1 at *
          generalize ln = l1 at *
          generalize pt = p1 at *
          generalize hm1 : true = m1 at HNX HR1 HG1 HE
          subst hm1
          clear HG HL HF HAT hls hn1
          go_wp2_with (go_at_call 33; refine (HNX.out _ HN1 HV1.out HR1.out).mono ?_; rintro e w3 ⟨rfl, hr2, hb2, hi2⟩; replace HR1 := hide hr2; replace HK1 := hide (hi2 _ _ _ HK1.out); replace HB1 := hide (HB1.out.trans hb2); clear hr2 hb2 hi2)
          go_roundw
          case rel => exact ⟨i + K, o1, l1, p1, true, hle, HK1, HR1, HG1, HBD, HE, HB1⟩
          case measure =>
            have hmu2 : w3.iterPos w.heap.size = i + K := by simp [World.iterPos, HK1.out]
            rw [HMU.out, hmu2]
            omega
    · obtain rfl : i = n := by omega
      have hnext0 := fun ty => run_next_end_at (P := Tryd.prog) wr w.heap.size s i ty HK.out (by omega)
      have hdr : (bytesL s).drop i = [] := List.drop_eq_nil_of_le (by rw [bytesL_sz]; omega)
      rw [hdr] at HF
      obtain ⟨c1, o1, hn1⟩ : ∃ c1 o1, endS out ln pt = (c1, o1) := ⟨_, _, rfl⟩
      have HED : Hid (∀ W, N ≤ W.heap.size → LVN N W → RD14 N W d out ln pt rm → Calls Tryd.prog 34 #[.pointer (some ⟨d, 0, none⟩)] W fun e w' => e = .returned (.int .i64 c1) ∧ RD14 N w' d o1 ln [] rm ∧ Below N W w' ∧ IK W w') := fun W h1 h2 h3 => by
        have q := end14 W h3 h1 h2 HG.out.1 (by have := HL.out; omega) HG.out.2.1
        rw [hn1] at q
        exact q
      have hq := end_is HG.out ln hn1
      rw [HF.out] at hq
      have HQ := hide hq
      have HV1 := hide (HV.out.below HB.out)
      have HN1 : N ≤ wr.heap.size := Nat.le_trans hN HB.out.size
      clear hq hn1 HG HL HF hdr
      go_wp2_with (go_at_call 34; refine (HED.out _ HN1 HV1.out HR.out).mono ?_; rintro e w3 ⟨rfl, hr2, hb2, hi2⟩; replace HR := hide hr2; replace HB := hide (HB.out.trans hb2); clear hr2 hb2 hi2)
      go_ret
      refine ⟨c1, o1, ln, [], rm, rfl, HR.out, HB.out, ?_⟩
      by_cases h0 : c1 = 0
      · exact .inl ⟨h0, HQ.out.1 h0⟩
      · exact .inr ⟨h0, HQ.out.2 h0⟩
set_option maxHeartbeats 4000000 in
theorem ReadP14 (s : ByteArray) (w : World) (hm : s.size ≤ maxLen) (hv : LV w) : Calls Tryd.prog 14 #[.string s] w (RdP s w) := by
  obtain ⟨n, hn⟩ : ∃ n, s.size = n := ⟨_, rfl⟩
  by_cases hs : s.size ≤ 4096
  · have h4 : ¬ (4096 : Int) < (n : Int) := by omega
    have HR0 := hide (RD14.start w _ rfl)
    have bq := bel1 w (.cells #[.slice none 0 0, .int .i64 1, .slice none 0 0, .bool false] 48)
    have HV := hide (hv.lvn.below bq)
    have HB := hide bq
    have hN := bq.size
    clear bq hv
    go_enter Tryd.func14, Tryd.ntmps14
    go_upto_region 4 with fail
    have HRD := hide (fun (W : World) h1 h2 h3 => read14 (N := w.heap.size) (d := w.heap.size) s W hs h1 h2 h3)
    generalize w.alloc (.cells #[.slice none 0 0, .int .i64 1, .slice none 0 0, .bool false] 48) = w1 at *
    go_upto_region 5 with (go_at_call 22; refine (HRD.out _ HR0.out hN HV.out).mono ?_; rintro e w2 ⟨c, out, ln, pt, rm, rfl, hr2, hb2, hq⟩; have HR := hide hr2; have HQ := hide hq; replace HB := hide (HB.out.trans hb2); clear hr2 hb2 hq)
    obtain ⟨hd, vT, vP, hx, ht, hp⟩ := HR.out
    obtain ⟨pT, cT, rfl, hks, hcp⟩ := ht.open encTk_len
    have x0 := hx.cell 0 _ rfl
    have x1 := hx.cell 1 _ rfl
    have HK := hide hks
    have HC := hide hcp
    clear hx ht hp hks hcp HR HRD HR0 HV
    have hlb : Hid (lexB (bytesL s) = finL (lexS (bytesL s) 1 [])) := by
      unfold Hid lexB
      rw [if_neg (by rw [bytesL_sz]; omega)]
      rfl
    rcases HQ.out with ⟨rfl, hq⟩ | ⟨h0, hq⟩
    · have HL : Hid (lexB (bytesL s) = (out, 0, 0)) := by unfold Hid; rw [hlb.out, hq]
      clear HQ hq hlb
      go_wp2
      go_ret3
      exact ⟨pT, cT, out, 0, 0, rfl, HL.out, HK.out, HC.out, HB.out⟩
    · have HL : Hid (lexB (bytesL s) = ([], ln, c)) := by unfold Hid; rw [hlb.out, hq]
      have g0 : (c != 0) = true := by simpa using h0
      clear HQ hq hlb h0
      go_upto_region 6 with fail
      go_region
      go_wp2
      go_ret3
      exact ⟨none, 0, [], ln, c, rfl, HL.out, RS.nil _ _, by simp [CP, maxLen], HB.out.drew⟩
  · have HB : Hid (lexB (bytesL s) = ([], 0, 7)) := by unfold Hid lexB; rw [if_pos (by rw [bytesL_sz]; omega)]
    have hn4 : (4096 : Int) < (n : Int) := by omega
    have hnm : n ≤ maxLen := by omega
    go_enter Tryd.func14, Tryd.ntmps14
    go_wp2
    go_ret3
    exact ⟨none, 0, [], 0, 7, rfl, HB.out, RS.nil _ _, by simp [CP, maxLen], Below.refl _ _⟩
end Go.Proofs.YtadmibfnjhockaaDoor
