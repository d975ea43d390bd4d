/- Behind a drop a key is not there, whatever adds come that do not know it; behind one that knows all it is. -/
import Derived.Test.YtiodlpoeifmldaaRows
import Derived.WalkKit
import Derived.ProofKit
import Derived.OpenShut
import Derived.ShutString
import Derived.ChangeOld
import Derived.Below
import Derived.SizedLaws
import Derived.Test.YtiodlpoeifmldaaZ17
namespace Go.Proofs.Ytiodlpoeifmldaa.rwsetDrops
open Go.ChangeShapes Go.WideShapes Go.ChangeAt Go.RowKit
set_option linter.unusedVariables false

theorem own : ownKnob Try.prog.godebug = none := by kernel_rfl
theorem laidOut : laidOutB Try.prog = true := by kernel_rfl

theorem drop9_facts {s : List En} (hs : mayS9 s = true) {t : ByteArray} (hk : mayK t = true) {d : Dot} (hd : mayD d = true) (c : List Int) (hn : s.length ≤ 30) (hf : ∀ x ∈ s, x.2.1.length ≤ 30 ∧ x.2.2.length ≤ 30) : mayS9 (dropP s t d c) = true ∧ (dropP s t d c).length ≤ 31 ∧ (∀ x ∈ dropP s t d c, x.2.1.length ≤ 31 ∧ x.2.2.length ≤ 31) ∧ (getP (dropP s t d c) t).1 = [] :=
  ⟨mayS9_drop hs hk hd c (by omega), by have := putP_len s t ([], putD (leftD (getP s t).2 c) d); unfold dropP; omega, few9_drop hf t d c, by rw [drop9_get (mayS9_iff.1 hs).2.1]⟩
set_option maxHeartbeats 8000000 in
set_option maxRecDepth 2000 in
theorem walk (v0 : Value) (v1 : Value) (v2 : Value) (w : World) (w0 : InNs w v0) (w1 : InDd w v1) (w2 : InDd w v2) :
    Calls Try.prog 6 #[v0, v1, v2] w fun e w' => e = .returned (.bool true) ∧ Below w.heap.size w w' := by
  obtain ⟨a, n, cap, s, rfl, hA, hcp⟩ := w0
  obtain ⟨t, r, q, pa, na, ca, c, rfl, hP, _⟩ := w1
  obtain ⟨t', r', q', pa', na', ca', c', rfl, hP2, _⟩ := w2
  have HV := hide hA
  have HP := hide hP
  have HP2 := hide hP2
  have BX1 := hide (bel1 w (.cells #[.string t, .int .i64 r, .int .i64 q, .slice pa na ca] 28))
  have BX2 := hide (bel1 (w.alloc (.cells #[.string t, .int .i64 r, .int .i64 q, .slice pa na ca] 28)) (.cells #[.string t', .int .i64 r', .int .i64 q', .slice pa' na' ca'] 28))
  have BB := hide (bel_next BX1.out BX2.out)
  have b0 := bcell BX2.out (cell_new w #[.string t, .int .i64 r, .int .i64 q, .slice pa na ca] 28 _ rfl 0 _ rfl)
  have b1 := bcell BX2.out (cell_new w #[.string t, .int .i64 r, .int .i64 q, .slice pa na ca] 28 _ rfl 1 _ rfl)
  have b2 := bcell BX2.out (cell_new w #[.string t, .int .i64 r, .int .i64 q, .slice pa na ca] 28 _ rfl 2 _ rfl)
  have b3 := bcell BX2.out (cell_new w #[.string t, .int .i64 r, .int .i64 q, .slice pa na ca] 28 _ rfl 3 _ rfl)
  have y1 := cell_new (w.alloc (.cells #[.string t, .int .i64 r, .int .i64 q, .slice pa na ca] 28)) #[.string t', .int .i64 r', .int .i64 q', .slice pa' na' ca'] 28 (w.heap.size + 1) (by simp) 1 _ rfl
  have y2 := cell_new (w.alloc (.cells #[.string t, .int .i64 r, .int .i64 q, .slice pa na ca] 28)) #[.string t', .int .i64 r', .int .i64 q', .slice pa' na' ca'] 28 (w.heap.size + 1) (by simp) 2 _ rfl
  have y3 := cell_new (w.alloc (.cells #[.string t, .int .i64 r, .int .i64 q, .slice pa na ca] 28)) #[.string t', .int .i64 r', .int .i64 q', .slice pa' na' ca'] 28 (w.heap.size + 1) (by simp) 3 _ rfl
  have HLEN := hide hA.len
  clear hA hcp hP hP2 BX1 BX2
  go_enter Try.func6, Try.ntmps6
  go_wp2_with (go_at_call 7; refine (light8 a n cap s _ (HV.out.below BB.out)).mono ?_; rintro e w1 ⟨bl, rfl, hl, rfl⟩; refine Stop.at ?_)
  unfold Stop
  generalize hwb : (w.alloc (.cells #[.string t, .int .i64 r, .int .i64 q, .slice pa na ca] 28)).alloc (.cells #[.string t', .int .i64 r', .int .i64 q', .slice pa' na' ca'] 28) = wb at *
  clear hwb
  cases bl
  · clear hl
    go_wp2_with (go_at_call 8; refine (awake9 _).mono ?_; rintro e wz ⟨rfl, hb⟩)
    go_ret
    exact ⟨rfl, bel_next BB.out hb⟩
  · obtain ⟨hn30, hfew⟩ := hl rfl
    have HFW : Hid (∀ x ∈ s, x.2.1.length ≤ 900000 ∧ x.2.2.length ≤ 900000) := fun x hx => ⟨Nat.le_trans (hfew x hx).2.1 (by decide), Nat.le_trans (hfew x hx).2.2 (by decide)⟩
    have HFW9 : Hid (∀ x ∈ s, x.2.1.length ≤ 90000 ∧ x.2.2.length ≤ 90000) := fun x hx => ⟨Nat.le_trans (hfew x hx).2.1 (by decide), Nat.le_trans (hfew x hx).2.2 (by decide)⟩
    have HFM : Hid (∀ x ∈ s, x.2.1.length ≤ 100000 ∧ x.2.2.length ≤ 100000) := fun x hx => ⟨Nat.le_trans (hfew x hx).2.1 (by decide), Nat.le_trans (hfew x hx).2.2 (by decide)⟩
    have HFEW := hide hfew
    clear hl hfew
    by_cases h1 : (t.size : Int) ≤ 100
    · by_cases h2 : (na : Int) ≤ 20
      · by_cases h3 : (na' : Int) ≤ 20
        · by_cases h4 : q ≤ 1000
          · rcases hx : done9 s t (r, q) c with _ | _
            · have HNO := hide hx
              clear hx
              go_wp2_with (first | (go_at_call 10; refine (Drop9_bad a n cap s t r q pa na ca c _ (HV.out.below BB.out) (HP.out.below BB.out) HNO.out).mono ?_; rintro e w2 ⟨rfl, hb⟩; replace BB := hide (bel_next BB.out hb); (try replace b0 := bcell hb b0); (try replace b1 := bcell hb b1); (try replace b2 := bcell hb b2); (try replace b3 := bcell hb b3); clear hb) | (go_at_call 8; refine (awake9 _).mono ?_; rintro e wz ⟨rfl, hb⟩))
              go_ret
              exact ⟨rfl, bel_next BB.out hb⟩
            · have HYES := hide hx
              obtain ⟨hm1, hm2, hm3, hm4⟩ := done9_iff.1 hx
              obtain ⟨f1, f2, f3, f4⟩ := drop9_facts hm1 hm2 hm3 c (by rw [HLEN.out]; exact hn30) (fun x hx => (HFEW.out x hx).2)
              have HALL := hide (add9_all hm1 hm3 c (r, q) (k := t))
              have HNON : Hid (getZ c' r < q → addP (dropP s t (r, q) c) t (r', q') c' = dropP s t (r, q) c) := fun h => add9_none (mayS9_iff.1 hm1).2.1 t (r, q) c (r', q') c' h
              have HDD : Hid (∀ W, NSS W a n s → NS W pa na c → Calls Try.prog 10 #[.slice a n cap, .string t, .agg #[.int .i64 r, .int .i64 q], .slice pa na ca] W fun e w' => ∃ p cp, e = .returned (.tuple #[.slice p (dropP s t (r, q) c).length cp, .int .i64 0]) ∧ NSS w' p (dropP s t (r, q) c).length (dropP s t (r, q) c) ∧ CP p (dropP s t (r, q) c).length cp ∧ Below W.heap.size W w') := fun W g1 g3 => Drop9_good a n cap s t r q pa na ca c W g1 g3 HYES.out HFW.out (by omega)
              generalize dropP s t (r, q) c = D at *
              have HFD : Hid (∀ x ∈ D, x.2.1.length ≤ 900000 ∧ x.2.2.length ≤ 900000) := fun x hx => ⟨Nat.le_trans (f3 x hx).1 (by decide), Nat.le_trans (f3 x hx).2 (by decide)⟩
              have HFC : Hid (∀ (c : List Int) (d : Dot) (x) (_ : x ∈ addP D t d c), x.2.1.length ≤ 900000 ∧ x.2.2.length ≤ 900000) := fun c d x hx => ⟨Nat.le_trans (few9_add f3 t d c x hx).1 (by decide), Nat.le_trans (few9_add f3 t d c x hx).2 (by decide)⟩
              have hdn : D.length < 4000 := by omega
              have HHD : Hid (∀ {p : Option Addr} {cap : Nat} W, NSS W p D.length D → Calls Try.prog 22 #[.slice p D.length cap, .string t] W fun e w' => e = .returned (.bool false) ∧ Below W.heap.size W w') := fun {p} {cap} W g => by
                have q := Has9_any p D.length cap D t W g HFD.out
                rw [f4] at q
                simpa using q
              have HC9 : Hid (∀ (p pa : Option Addr) (n cap na ca : Nat) (W : World), NSS W p n D → NS W pa na allC → Calls Try.prog 9 #[.slice p n cap, .string t, .agg #[.int .i64 r, .int .i64 q], .slice pa na ca] W fun e w' => ∃ p cp, e = .returned (.tuple #[.slice p (addP D t (r, q) allC).length cp, .int .i64 0]) ∧ NSS w' p (addP D t (r, q) allC).length (addP D t (r, q) allC) ∧ CP p (addP D t (r, q) allC).length cp ∧ Below W.heap.size W w') := fun p pa n cap na ca W g1 g3 => Add9_good p n cap D t r q pa na ca allC W g1 g3 (done9_iff.2 ⟨f1, hm2, hm3, by decide⟩) HFD.out (by have := g1.len; omega)
              have hCM : mayS9 (addP D t (r, q) allC) = true := mayS9_add f1 hm2 hm3 allC hdn
              have HHC : Hid (∀ (p : Option Addr) (n cap : Nat) W, NSS W p n (addP D t (r, q) allC) → Calls Try.prog 22 #[.slice p n cap, .string t] W fun e w' => e = .returned (.bool true) ∧ Below W.heap.size W w') := fun p n cap W g => by
                have q := Has9_any p n cap _ t W g (HFC.out _ _)
                rw [hCM, decide_eq_true HALL.out] at q
                exact q
              have HMD := hide f1
              have HMK := hide hm2
              clear hx hm1 hm2 hm3 hm4 f1 f2 f3 hCM HALL
              generalize addP D t (r, q) allC = C at *
              generalize C.length = nC at *
              rcases hy : done9 D t (r', q') c' with _ | _
              · have HNO := hide hy
                have hf4 := hide f4
                clear hy f4
                generalize D.length = nD at *
                go_upto_region 4 with (go_at_call 10; refine (HDD.out _ (HV.out.below BB.out) (HP.out.below BB.out)).mono ?_; rintro e w2 ⟨pD, cD, rfl, hn2, hc2, hb⟩; have HNDx := hide hn2; replace BB := hide (bel_next BB.out hb); (try replace b0 := bcell hb b0); (try replace b1 := bcell hb b1); (try replace b2 := bcell hb b2); (try replace b3 := bcell hb b3); (try replace y1 := bcell hb y1); (try replace y2 := bcell hb y2); (try replace y3 := bcell hb y3); clear hb; have HND := HNDx; clear HNDx hn2 hc2 HDD)
                go_upto_region 7 with (go_at_call 9; refine (Add9_bad pD nD cD D t r' q' pa' na' ca' c' _ HND.out (HP2.out.below BB.out) HNO.out).mono ?_; rintro e u ⟨rfl, hb⟩; replace BB := hide (bel_next BB.out hb); (try replace b0 := bcell hb b0); (try replace b1 := bcell hb b1); (try replace b2 := bcell hb b2); (try replace b3 := bcell hb b3); (try replace y1 := bcell hb y1); (try replace y2 := bcell hb y2); (try replace y3 := bcell hb y3); (try replace HND := hide (HND.out.below hb)); (try replace HNB := hide (HNB.out.below hb)); clear hb)
                by_cases hkn : q ≤ getZ c' r
                · have hkz : decide (q ≤ getZ c' r) = true := decide_eq_true hkn
                  refine wp_region_held_drew (S := fun W => Below u.heap.size u W) (by kernel_rfl) ((Below.refl _ u).drew) (fun hS0 => ?_)
                  refine takeInH 0 68 ?v1 rfl rfl (by kernel_rfl) (by kernel_rfl) (by kernel_rfl) (fun _ _ _ h => h) (by kernel_rfl) hS0 ?hy1 ?_
                  case hy1 => (intro W hW; clear hW; go_simp; try rfl)
                  simp only [Act.put, List.setIfInBounds_toArray, List.set_cons_zero, List.set_cons_succ]
                  refine takeInH 1 69 ?v2 rfl rfl (by kernel_rfl) (by kernel_rfl) (by kernel_rfl) (fun _ _ _ h => h) (by kernel_rfl) hS0 ?hy2 ?_
                  case hy2 => (intro W hW; have e0 := bcell hW b1; have e1 := bcell hW b2; have e2 := bcell hW y3; clear hW; go_simp; try rfl)
                  simp only [Act.put, List.setIfInBounds_toArray, List.set_cons_zero, List.set_cons_succ]
                  refine takeInH 2 70 ?v3 rfl rfl (by kernel_rfl) (by kernel_rfl) (by kernel_rfl) (fun _ _ _ h => h) (by kernel_rfl) hS0 ?hy3 ?_
                  case hy3 => (intro W hW; clear hW; go_simp; try rfl)
                  simp only [Act.put, List.setIfInBounds_toArray, List.set_cons_zero, List.set_cons_succ]
                  refine takeInH 3 71 ?v4 rfl rfl (by kernel_rfl) (by kernel_rfl) (by kernel_rfl) (fun _ _ _ h => h) (by kernel_rfl) hS0 ?hy4 ?_
                  case hy4 => (intro W hW; clear hW; go_simp; try rfl)
                  simp only [Act.put, List.setIfInBounds_toArray, List.set_cons_zero, List.set_cons_succ]
                  refine takeInH 4 72 ?v5 rfl rfl (by kernel_rfl) (by kernel_rfl) (by kernel_rfl) (fun _ _ _ h => h) (by kernel_rfl) hS0 ?hy5 ?_
                  case hy5 => (intro W hW; have e0 := bcell hW b1; have e1 := bcell hW b2; have e2 := bcell hW y3; clear hW; go_simp; try rfl)
                  simp only [Act.put, List.setIfInBounds_toArray, List.set_cons_zero, List.set_cons_succ]
                  refine takeInH 6 74 ?v6 rfl rfl (by kernel_rfl) (by kernel_rfl) (by kernel_rfl) (fun _ _ _ h => h) (by kernel_rfl) hS0 ?hy6 ?_
                  case hy6 => (intro W hW; clear hW; go_simp; try rfl)
                  simp only [Act.put, List.setIfInBounds_toArray, List.set_cons_zero, List.set_cons_succ]
                  refine takeInH 7 75 ?v7 rfl rfl (by kernel_rfl) (by kernel_rfl) (by kernel_rfl) (fun _ _ _ h => h) (by kernel_rfl) hS0 ?hy7 ?_
                  case hy7 => (intro W hW; clear hW; go_simp; try rfl)
                  simp only [Act.put, List.setIfInBounds_toArray, List.set_cons_zero, List.set_cons_succ]
                  refine takeInH 8 76 ?v8 rfl rfl (by kernel_rfl) (by kernel_rfl) (by kernel_rfl) (fun _ _ _ h => h) (by kernel_rfl) hS0 ?hy8 ?_
                  case hy8 => (intro W hW; have e0 := bcell hW b1; have e1 := bcell hW b2; have e2 := bcell hW y3; clear hW; go_simp; try rfl)
                  simp only [Act.put, List.setIfInBounds_toArray, List.set_cons_zero, List.set_cons_succ]
                  refine wpAnyH_ready (rs := [5]) (by kernel_rfl) (by simp) ?_
                  refine AllReadyH.cons rfl (fun K hK => ?_) AllReadyH.nil
                  go_simp
                  refine (get_refZ pa' na' ca' c' r _ (HP2.out.below (bel_next BB.out hS0))).mono ?_
                  rintro e w' ⟨rfl, hw⟩
                  replace hw := hw.symm
                  subst hw
                  refine hK.out _ _ ?hs9 (fun hS1 => ?_)
                  case hs9 => exact hS0
                  clear hK K
                  try simp only [Act.put, List.setIfInBounds_toArray, List.set_cons_zero, List.set_cons_succ]
                  refine takeInH 9 77 ?v10 rfl rfl (by kernel_rfl) (by kernel_rfl) (by kernel_rfl) (fun _ _ _ h => h) (by kernel_rfl) hS1 ?hy10 ?_
                  case hy10 => (intro W hW; clear hW; go_simp; try rfl)
                  simp only [Act.put, List.setIfInBounds_toArray, List.set_cons_zero, List.set_cons_succ]
                  refine takeInH 10 11 ?v11 rfl rfl (by kernel_rfl) (by kernel_rfl) (by kernel_rfl) (fun _ _ _ h => h) (by kernel_rfl) hS1 ?hy11 ?_
                  case hy11 => (intro W hW; clear hW; go_simp; try rfl)
                  simp only [Act.put, List.setIfInBounds_toArray, List.set_cons_zero, List.set_cons_succ]
                  refine wpAnyH_done (by kernel_rfl) ?_ _
                  have hb := hS1
                  replace BB := hide (bel_next BB.out hb)
                  (try replace b0 := bcell hb b0)
                  (try replace b1 := bcell hb b1)
                  (try replace b2 := bcell hb b2)
                  (try replace b3 := bcell hb b3)
                  (try replace y1 := bcell hb y1)
                  (try replace y2 := bcell hb y2)
                  (try replace y3 := bcell hb y3)
                  (try replace HND := hide (HND.out.below hb))
                  (try replace HNB := hide (HNB.out.below hb))
                  clear hb
                  generalize u.drew = wq at *
                  clear hS0
                  go_upto_region 11 with fail
                  have hb := bel1 wq (.cells #[.int .i64 1048576, .int .i64 1048576, .int .i64 1048576, .int .i64 1048576, .int .i64 1048576] 3)
                  have HNA := hide (NS.new wq _ rfl allC #[.int .i64 1048576, .int .i64 1048576, .int .i64 1048576, .int .i64 1048576, .int .i64 1048576] (by simp [allC]) 3 (0, 0) 5 rfl (by decide))
                  replace BB := hide (bel_next BB.out hb)
                  (try replace b0 := bcell hb b0)
                  (try replace b1 := bcell hb b1)
                  (try replace b2 := bcell hb b2)
                  (try replace b3 := bcell hb b3)
                  (try replace y1 := bcell hb y1)
                  (try replace y2 := bcell hb y2)
                  (try replace y3 := bcell hb y3)
                  (try replace HND := hide (HND.out.below hb))
                  (try replace HNB := hide (HNB.out.below hb))
                  clear hb
                  go_upto_region 12 with (go_at_call 9; refine (HC9.out pD _ nD cD _ _ _ HND.out HNA.out).mono ?_; rintro e w9 ⟨p9, c9, rfl, hn9, hc9, hb⟩; have HN9 := hide hn9; replace BB := hide (bel_next BB.out hb); (try replace b0 := bcell hb b0); (try replace b1 := bcell hb b1); (try replace b2 := bcell hb b2); (try replace b3 := bcell hb b3); (try replace y1 := bcell hb y1); (try replace y2 := bcell hb y2); (try replace y3 := bcell hb y3); (try replace HND := hide (HND.out.below hb)); (try replace HNB := hide (HNB.out.below hb)); clear hb; clear hn9 hc9 HC9)
                  go_wp2_with (go_at_call 22; refine (HHD.out _ HND.out).mono ?_; rintro e wh ⟨rfl, hb⟩; replace HN9 := hide (HN9.out.below hb); replace BB := hide (bel_next BB.out hb); (try replace b0 := bcell hb b0); (try replace b1 := bcell hb b1); (try replace b2 := bcell hb b2); (try replace b3 := bcell hb b3); (try replace y1 := bcell hb y1); (try replace y2 := bcell hb y2); (try replace y3 := bcell hb y3); (try replace HND := hide (HND.out.below hb)); (try replace HNB := hide (HNB.out.below hb)); clear hb; refine Stop.at ?_)
                  unfold Stop
                  go_wp2_with (go_at_call 22; refine (HHC.out _ _ _ _ HN9.out).mono ?_; rintro e wi ⟨rfl, hb⟩; replace BB := hide (bel_next BB.out hb); (try replace b0 := bcell hb b0); (try replace b1 := bcell hb b1); (try replace b2 := bcell hb b2); (try replace b3 := bcell hb b3); (try replace y1 := bcell hb y1); (try replace y2 := bcell hb y2); (try replace y3 := bcell hb y3); (try replace HND := hide (HND.out.below hb)); (try replace HNB := hide (HNB.out.below hb)); clear hb; refine Stop.at ?_)
                  unfold Stop
                  go_wp2_with (go_at_call 8; refine (awake9 _).mono ?_; rintro e wz ⟨rfl, hb⟩)
                  go_ret
                  exact ⟨rfl, bel_next BB.out hb⟩
                · have hkz : decide (q ≤ getZ c' r) = false := decide_eq_false hkn
                  refine wp_region_held_drew (S := fun W => Below u.heap.size u W) (by kernel_rfl) ((Below.refl _ u).drew) (fun hS0 => ?_)
                  refine takeInH 0 68 ?v12 rfl rfl (by kernel_rfl) (by kernel_rfl) (by kernel_rfl) (fun _ _ _ h => h) (by kernel_rfl) hS0 ?hy12 ?_
                  case hy12 => (intro W hW; clear hW; go_simp; try rfl)
                  simp only [Act.put, List.setIfInBounds_toArray, List.set_cons_zero, List.set_cons_succ]
                  refine takeInH 1 69 ?v13 rfl rfl (by kernel_rfl) (by kernel_rfl) (by kernel_rfl) (fun _ _ _ h => h) (by kernel_rfl) hS0 ?hy13 ?_
                  case hy13 => (intro W hW; have e0 := bcell hW b1; have e1 := bcell hW b2; have e2 := bcell hW y3; clear hW; go_simp; try rfl)
                  simp only [Act.put, List.setIfInBounds_toArray, List.set_cons_zero, List.set_cons_succ]
                  refine takeInH 2 70 ?v14 rfl rfl (by kernel_rfl) (by kernel_rfl) (by kernel_rfl) (fun _ _ _ h => h) (by kernel_rfl) hS0 ?hy14 ?_
                  case hy14 => (intro W hW; clear hW; go_simp; try rfl)
                  simp only [Act.put, List.setIfInBounds_toArray, List.set_cons_zero, List.set_cons_succ]
                  refine takeInH 3 71 ?v15 rfl rfl (by kernel_rfl) (by kernel_rfl) (by kernel_rfl) (fun _ _ _ h => h) (by kernel_rfl) hS0 ?hy15 ?_
                  case hy15 => (intro W hW; clear hW; go_simp; try rfl)
                  simp only [Act.put, List.setIfInBounds_toArray, List.set_cons_zero, List.set_cons_succ]
                  refine takeInH 4 72 ?v16 rfl rfl (by kernel_rfl) (by kernel_rfl) (by kernel_rfl) (fun _ _ _ h => h) (by kernel_rfl) hS0 ?hy16 ?_
                  case hy16 => (intro W hW; have e0 := bcell hW b1; have e1 := bcell hW b2; have e2 := bcell hW y3; clear hW; go_simp; try rfl)
                  simp only [Act.put, List.setIfInBounds_toArray, List.set_cons_zero, List.set_cons_succ]
                  refine takeInH 6 74 ?v17 rfl rfl (by kernel_rfl) (by kernel_rfl) (by kernel_rfl) (fun _ _ _ h => h) (by kernel_rfl) hS0 ?hy17 ?_
                  case hy17 => (intro W hW; clear hW; go_simp; try rfl)
                  simp only [Act.put, List.setIfInBounds_toArray, List.set_cons_zero, List.set_cons_succ]
                  refine takeInH 7 75 ?v18 rfl rfl (by kernel_rfl) (by kernel_rfl) (by kernel_rfl) (fun _ _ _ h => h) (by kernel_rfl) hS0 ?hy18 ?_
                  case hy18 => (intro W hW; clear hW; go_simp; try rfl)
                  simp only [Act.put, List.setIfInBounds_toArray, List.set_cons_zero, List.set_cons_succ]
                  refine takeInH 8 76 ?v19 rfl rfl (by kernel_rfl) (by kernel_rfl) (by kernel_rfl) (fun _ _ _ h => h) (by kernel_rfl) hS0 ?hy19 ?_
                  case hy19 => (intro W hW; have e0 := bcell hW b1; have e1 := bcell hW b2; have e2 := bcell hW y3; clear hW; go_simp; try rfl)
                  simp only [Act.put, List.setIfInBounds_toArray, List.set_cons_zero, List.set_cons_succ]
                  refine wpAnyH_ready (rs := [5]) (by kernel_rfl) (by simp) ?_
                  refine AllReadyH.cons rfl (fun K hK => ?_) AllReadyH.nil
                  go_simp
                  refine (get_refZ pa' na' ca' c' r _ (HP2.out.below (bel_next BB.out hS0))).mono ?_
                  rintro e w' ⟨rfl, hw⟩
                  replace hw := hw.symm
                  subst hw
                  refine hK.out _ _ ?hs20 (fun hS1 => ?_)
                  case hs20 => exact hS0
                  clear hK K
                  try simp only [Act.put, List.setIfInBounds_toArray, List.set_cons_zero, List.set_cons_succ]
                  refine takeInH 9 77 ?v21 rfl rfl (by kernel_rfl) (by kernel_rfl) (by kernel_rfl) (fun _ _ _ h => h) (by kernel_rfl) hS1 ?hy21 ?_
                  case hy21 => (intro W hW; clear hW; go_simp; try rfl)
                  simp only [Act.put, List.setIfInBounds_toArray, List.set_cons_zero, List.set_cons_succ]
                  refine takeInH 10 11 ?v22 rfl rfl (by kernel_rfl) (by kernel_rfl) (by kernel_rfl) (fun _ _ _ h => h) (by kernel_rfl) hS1 ?hy22 ?_
                  case hy22 => (intro W hW; clear hW; go_simp; try rfl)
                  simp only [Act.put, List.setIfInBounds_toArray, List.set_cons_zero, List.set_cons_succ]
                  refine wpAnyH_done (by kernel_rfl) ?_ _
                  have hb := hS1
                  replace BB := hide (bel_next BB.out hb)
                  (try replace b0 := bcell hb b0)
                  (try replace b1 := bcell hb b1)
                  (try replace b2 := bcell hb b2)
                  (try replace b3 := bcell hb b3)
                  (try replace y1 := bcell hb y1)
                  (try replace y2 := bcell hb y2)
                  (try replace y3 := bcell hb y3)
                  (try replace HND := hide (HND.out.below hb))
                  (try replace HNB := hide (HNB.out.below hb))
                  clear hb
                  generalize u.drew = wq at *
                  clear hS0
                  go_upto_region 11 with fail
                  have hb := bel1 wq (.cells #[.int .i64 1048576, .int .i64 1048576, .int .i64 1048576, .int .i64 1048576, .int .i64 1048576] 3)
                  have HNA := hide (NS.new wq _ rfl allC #[.int .i64 1048576, .int .i64 1048576, .int .i64 1048576, .int .i64 1048576, .int .i64 1048576] (by simp [allC]) 3 (0, 0) 5 rfl (by decide))
                  replace BB := hide (bel_next BB.out hb)
                  (try replace b0 := bcell hb b0)
                  (try replace b1 := bcell hb b1)
                  (try replace b2 := bcell hb b2)
                  (try replace b3 := bcell hb b3)
                  (try replace y1 := bcell hb y1)
                  (try replace y2 := bcell hb y2)
                  (try replace y3 := bcell hb y3)
                  (try replace HND := hide (HND.out.below hb))
                  (try replace HNB := hide (HNB.out.below hb))
                  clear hb
                  go_upto_region 12 with (go_at_call 9; refine (HC9.out pD _ nD cD _ _ _ HND.out HNA.out).mono ?_; rintro e w9 ⟨p9, c9, rfl, hn9, hc9, hb⟩; have HN9 := hide hn9; replace BB := hide (bel_next BB.out hb); (try replace b0 := bcell hb b0); (try replace b1 := bcell hb b1); (try replace b2 := bcell hb b2); (try replace b3 := bcell hb b3); (try replace y1 := bcell hb y1); (try replace y2 := bcell hb y2); (try replace y3 := bcell hb y3); (try replace HND := hide (HND.out.below hb)); (try replace HNB := hide (HNB.out.below hb)); clear hb; clear hn9 hc9 HC9)
                  go_wp2_with (go_at_call 22; refine (HHD.out _ HND.out).mono ?_; rintro e wh ⟨rfl, hb⟩; replace HN9 := hide (HN9.out.below hb); replace BB := hide (bel_next BB.out hb); (try replace b0 := bcell hb b0); (try replace b1 := bcell hb b1); (try replace b2 := bcell hb b2); (try replace b3 := bcell hb b3); (try replace y1 := bcell hb y1); (try replace y2 := bcell hb y2); (try replace y3 := bcell hb y3); (try replace HND := hide (HND.out.below hb)); (try replace HNB := hide (HNB.out.below hb)); clear hb; refine Stop.at ?_)
                  unfold Stop
                  go_wp2_with (go_at_call 22; refine (HHC.out _ _ _ _ HN9.out).mono ?_; rintro e wi ⟨rfl, hb⟩; replace BB := hide (bel_next BB.out hb); (try replace b0 := bcell hb b0); (try replace b1 := bcell hb b1); (try replace b2 := bcell hb b2); (try replace b3 := bcell hb b3); (try replace y1 := bcell hb y1); (try replace y2 := bcell hb y2); (try replace y3 := bcell hb y3); (try replace HND := hide (HND.out.below hb)); (try replace HNB := hide (HNB.out.below hb)); clear hb; refine Stop.at ?_)
                  unfold Stop
                  go_wp2_with (go_at_call 8; refine (awake9 _).mono ?_; rintro e wz ⟨rfl, hb⟩)
                  go_ret
                  exact ⟨rfl, bel_next BB.out hb⟩
              · have HBO : Hid (∀ (p : Option Addr) (n cap : Nat) (W : World), NSS W p n D → NS W pa' na' c' → Calls Try.prog 9 #[.slice p n cap, .string t, .agg #[.int .i64 r', .int .i64 q'], .slice pa' na' ca'] W fun e w' => ∃ p cp, e = .returned (.tuple #[.slice p (addP D t (r', q') c').length cp, .int .i64 0]) ∧ NSS w' p (addP D t (r', q') c').length (addP D t (r', q') c') ∧ CP p (addP D t (r', q') c').length cp ∧ Below W.heap.size W w') := fun p n cap W g1 g3 => Add9_good p n cap D t r' q' pa' na' ca' c' W g1 g3 hy HFD.out (by have := g1.len; omega)
                by_cases hkn : q ≤ getZ c' r
                · have hkz : decide (q ≤ getZ c' r) = true := decide_eq_true hkn
                  clear hy f4
                  generalize addP D t (r', q') c' = B at *
                  generalize B.length = nB at *
                  generalize D.length = nD at *
                  go_upto_region 4 with (go_at_call 10; refine (HDD.out _ (HV.out.below BB.out) (HP.out.below BB.out)).mono ?_; rintro e w2 ⟨pD, cD, rfl, hn2, hc2, hb⟩; have HNDx := hide hn2; replace BB := hide (bel_next BB.out hb); (try replace b0 := bcell hb b0); (try replace b1 := bcell hb b1); (try replace b2 := bcell hb b2); (try replace b3 := bcell hb b3); (try replace y1 := bcell hb y1); (try replace y2 := bcell hb y2); (try replace y3 := bcell hb y3); clear hb; have HND := HNDx; clear HNDx hn2 hc2 HDD)
                  go_upto_region 7 with (go_at_call 9; refine (HBO.out pD nD cD _ HND.out (HP2.out.below BB.out)).mono ?_; rintro e u ⟨pB, cB, rfl, hn2, hc2, hb⟩; replace BB := hide (bel_next BB.out hb); (try replace b0 := bcell hb b0); (try replace b1 := bcell hb b1); (try replace b2 := bcell hb b2); (try replace b3 := bcell hb b3); (try replace y1 := bcell hb y1); (try replace y2 := bcell hb y2); (try replace y3 := bcell hb y3); (try replace HND := hide (HND.out.below hb)); (try replace HNB := hide (HNB.out.below hb)); clear hb; clear hn2 hc2)
                  refine wp_region_held_drew (S := fun W => Below u.heap.size u W) (by kernel_rfl) ((Below.refl _ u).drew) (fun hS0 => ?_)
                  refine takeInH 0 68 ?v23 rfl rfl (by kernel_rfl) (by kernel_rfl) (by kernel_rfl) (fun _ _ _ h => h) (by kernel_rfl) hS0 ?hy23 ?_
                  case hy23 => (intro W hW; clear hW; go_simp; try rfl)
                  simp only [Act.put, List.setIfInBounds_toArray, List.set_cons_zero, List.set_cons_succ]
                  refine takeInH 1 69 ?v24 rfl rfl (by kernel_rfl) (by kernel_rfl) (by kernel_rfl) (fun _ _ _ h => h) (by kernel_rfl) hS0 ?hy24 ?_
                  case hy24 => (intro W hW; have e0 := bcell hW b1; have e1 := bcell hW b2; have e2 := bcell hW y3; clear hW; go_simp; try rfl)
                  simp only [Act.put, List.setIfInBounds_toArray, List.set_cons_zero, List.set_cons_succ]
                  refine takeInH 2 70 ?v25 rfl rfl (by kernel_rfl) (by kernel_rfl) (by kernel_rfl) (fun _ _ _ h => h) (by kernel_rfl) hS0 ?hy25 ?_
                  case hy25 => (intro W hW; clear hW; go_simp; try rfl)
                  simp only [Act.put, List.setIfInBounds_toArray, List.set_cons_zero, List.set_cons_succ]
                  refine takeInH 3 71 ?v26 rfl rfl (by kernel_rfl) (by kernel_rfl) (by kernel_rfl) (fun _ _ _ h => h) (by kernel_rfl) hS0 ?hy26 ?_
                  case hy26 => (intro W hW; clear hW; go_simp; try rfl)
                  simp only [Act.put, List.setIfInBounds_toArray, List.set_cons_zero, List.set_cons_succ]
                  refine takeInH 4 72 ?v27 rfl rfl (by kernel_rfl) (by kernel_rfl) (by kernel_rfl) (fun _ _ _ h => h) (by kernel_rfl) hS0 ?hy27 ?_
                  case hy27 => (intro W hW; have e0 := bcell hW b1; have e1 := bcell hW b2; have e2 := bcell hW y3; clear hW; go_simp; try rfl)
                  simp only [Act.put, List.setIfInBounds_toArray, List.set_cons_zero, List.set_cons_succ]
                  refine takeInH 6 74 ?v28 rfl rfl (by kernel_rfl) (by kernel_rfl) (by kernel_rfl) (fun _ _ _ h => h) (by kernel_rfl) hS0 ?hy28 ?_
                  case hy28 => (intro W hW; clear hW; go_simp; try rfl)
                  simp only [Act.put, List.setIfInBounds_toArray, List.set_cons_zero, List.set_cons_succ]
                  refine takeInH 7 75 ?v29 rfl rfl (by kernel_rfl) (by kernel_rfl) (by kernel_rfl) (fun _ _ _ h => h) (by kernel_rfl) hS0 ?hy29 ?_
                  case hy29 => (intro W hW; clear hW; go_simp; try rfl)
                  simp only [Act.put, List.setIfInBounds_toArray, List.set_cons_zero, List.set_cons_succ]
                  refine takeInH 8 76 ?v30 rfl rfl (by kernel_rfl) (by kernel_rfl) (by kernel_rfl) (fun _ _ _ h => h) (by kernel_rfl) hS0 ?hy30 ?_
                  case hy30 => (intro W hW; have e0 := bcell hW b1; have e1 := bcell hW b2; have e2 := bcell hW y3; clear hW; go_simp; try rfl)
                  simp only [Act.put, List.setIfInBounds_toArray, List.set_cons_zero, List.set_cons_succ]
                  refine wpAnyH_ready (rs := [5]) (by kernel_rfl) (by simp) ?_
                  refine AllReadyH.cons rfl (fun K hK => ?_) AllReadyH.nil
                  go_simp
                  refine (get_refZ pa' na' ca' c' r _ (HP2.out.below (bel_next BB.out hS0))).mono ?_
                  rintro e w' ⟨rfl, hw⟩
                  replace hw := hw.symm
                  subst hw
                  refine hK.out _ _ ?hs31 (fun hS1 => ?_)
                  case hs31 => exact hS0
                  clear hK K
                  try simp only [Act.put, List.setIfInBounds_toArray, List.set_cons_zero, List.set_cons_succ]
                  refine takeInH 9 77 ?v32 rfl rfl (by kernel_rfl) (by kernel_rfl) (by kernel_rfl) (fun _ _ _ h => h) (by kernel_rfl) hS1 ?hy32 ?_
                  case hy32 => (intro W hW; clear hW; go_simp; try rfl)
                  simp only [Act.put, List.setIfInBounds_toArray, List.set_cons_zero, List.set_cons_succ]
                  refine takeInH 10 11 ?v33 rfl rfl (by kernel_rfl) (by kernel_rfl) (by kernel_rfl) (fun _ _ _ h => h) (by kernel_rfl) hS1 ?hy33 ?_
                  case hy33 => (intro W hW; clear hW; go_simp; try rfl)
                  simp only [Act.put, List.setIfInBounds_toArray, List.set_cons_zero, List.set_cons_succ]
                  refine wpAnyH_done (by kernel_rfl) ?_ _
                  have hb := hS1
                  replace BB := hide (bel_next BB.out hb)
                  (try replace b0 := bcell hb b0)
                  (try replace b1 := bcell hb b1)
                  (try replace b2 := bcell hb b2)
                  (try replace b3 := bcell hb b3)
                  (try replace y1 := bcell hb y1)
                  (try replace y2 := bcell hb y2)
                  (try replace y3 := bcell hb y3)
                  (try replace HND := hide (HND.out.below hb))
                  (try replace HNB := hide (HNB.out.below hb))
                  clear hb
                  generalize u.drew = wq at *
                  clear hS0
                  go_upto_region 11 with fail
                  have hb := bel1 wq (.cells #[.int .i64 1048576, .int .i64 1048576, .int .i64 1048576, .int .i64 1048576, .int .i64 1048576] 3)
                  have HNA := hide (NS.new wq _ rfl allC #[.int .i64 1048576, .int .i64 1048576, .int .i64 1048576, .int .i64 1048576, .int .i64 1048576] (by simp [allC]) 3 (0, 0) 5 rfl (by decide))
                  replace BB := hide (bel_next BB.out hb)
                  (try replace b0 := bcell hb b0)
                  (try replace b1 := bcell hb b1)
                  (try replace b2 := bcell hb b2)
                  (try replace b3 := bcell hb b3)
                  (try replace y1 := bcell hb y1)
                  (try replace y2 := bcell hb y2)
                  (try replace y3 := bcell hb y3)
                  (try replace HND := hide (HND.out.below hb))
                  (try replace HNB := hide (HNB.out.below hb))
                  clear hb
                  go_upto_region 12 with (go_at_call 9; refine (HC9.out pD _ nD cD _ _ _ HND.out HNA.out).mono ?_; rintro e w9 ⟨p9, c9, rfl, hn9, hc9, hb⟩; have HN9 := hide hn9; replace BB := hide (bel_next BB.out hb); (try replace b0 := bcell hb b0); (try replace b1 := bcell hb b1); (try replace b2 := bcell hb b2); (try replace b3 := bcell hb b3); (try replace y1 := bcell hb y1); (try replace y2 := bcell hb y2); (try replace y3 := bcell hb y3); (try replace HND := hide (HND.out.below hb)); (try replace HNB := hide (HNB.out.below hb)); clear hb; clear hn9 hc9 HC9)
                  go_wp2_with (go_at_call 22; refine (HHD.out _ HND.out).mono ?_; rintro e wh ⟨rfl, hb⟩; replace HN9 := hide (HN9.out.below hb); replace BB := hide (bel_next BB.out hb); (try replace b0 := bcell hb b0); (try replace b1 := bcell hb b1); (try replace b2 := bcell hb b2); (try replace b3 := bcell hb b3); (try replace y1 := bcell hb y1); (try replace y2 := bcell hb y2); (try replace y3 := bcell hb y3); (try replace HND := hide (HND.out.below hb)); (try replace HNB := hide (HNB.out.below hb)); clear hb; refine Stop.at ?_)
                  unfold Stop
                  go_wp2_with (go_at_call 22; refine (HHC.out _ _ _ _ HN9.out).mono ?_; rintro e wi ⟨rfl, hb⟩; replace BB := hide (bel_next BB.out hb); (try replace b0 := bcell hb b0); (try replace b1 := bcell hb b1); (try replace b2 := bcell hb b2); (try replace b3 := bcell hb b3); (try replace y1 := bcell hb y1); (try replace y2 := bcell hb y2); (try replace y3 := bcell hb y3); (try replace HND := hide (HND.out.below hb)); (try replace HNB := hide (HNB.out.below hb)); clear hb; refine Stop.at ?_)
                  unfold Stop
                  go_wp2_with (go_at_call 8; refine (awake9 _).mono ?_; rintro e wz ⟨rfl, hb⟩)
                  go_ret
                  exact ⟨rfl, bel_next BB.out hb⟩
                · have hkz : decide (q ≤ getZ c' r) = false := decide_eq_false hkn
                  have e9 := HNON.out (by omega)
                  rw [e9] at HBO
                  have HHB : Hid (∀ {p : Option Addr} {n cap : Nat} W, NSS W p n D → Calls Try.prog 22 #[.slice p n cap, .string t] W fun e w' => e = .returned (.bool false) ∧ Below W.heap.size W w') := fun {p} {n} {cap} W g => by
                    have q := Has9_any p n cap D t W g HFD.out
                    rw [f4] at q
                    simpa using q
                  clear hy f4 e9 HNON
                  generalize D.length = nD at *
                  go_upto_region 4 with (go_at_call 10; refine (HDD.out _ (HV.out.below BB.out) (HP.out.below BB.out)).mono ?_; rintro e w2 ⟨pD, cD, rfl, hn2, hc2, hb⟩; have HNDx := hide hn2; replace BB := hide (bel_next BB.out hb); (try replace b0 := bcell hb b0); (try replace b1 := bcell hb b1); (try replace b2 := bcell hb b2); (try replace b3 := bcell hb b3); (try replace y1 := bcell hb y1); (try replace y2 := bcell hb y2); (try replace y3 := bcell hb y3); clear hb; have HND := HNDx; clear HNDx hn2 hc2 HDD)
                  go_upto_region 7 with (go_at_call 9; refine (HBO.out pD nD cD _ HND.out (HP2.out.below BB.out)).mono ?_; rintro e u ⟨pB, cB, rfl, hn2, hc2, hb⟩; have HNBx := hide hn2; replace BB := hide (bel_next BB.out hb); (try replace b0 := bcell hb b0); (try replace b1 := bcell hb b1); (try replace b2 := bcell hb b2); (try replace b3 := bcell hb b3); (try replace y1 := bcell hb y1); (try replace y2 := bcell hb y2); (try replace y3 := bcell hb y3); (try replace HND := hide (HND.out.below hb)); (try replace HNB := hide (HNB.out.below hb)); clear hb; have HNB := HNBx; clear HNBx hn2 hc2)
                  refine wp_region_held_drew (S := fun W => Below u.heap.size u W) (by kernel_rfl) ((Below.refl _ u).drew) (fun hS0 => ?_)
                  refine takeInH 0 68 ?v34 rfl rfl (by kernel_rfl) (by kernel_rfl) (by kernel_rfl) (fun _ _ _ h => h) (by kernel_rfl) hS0 ?hy34 ?_
                  case hy34 => (intro W hW; clear hW; go_simp; try rfl)
                  simp only [Act.put, List.setIfInBounds_toArray, List.set_cons_zero, List.set_cons_succ]
                  refine takeInH 1 69 ?v35 rfl rfl (by kernel_rfl) (by kernel_rfl) (by kernel_rfl) (fun _ _ _ h => h) (by kernel_rfl) hS0 ?hy35 ?_
                  case hy35 => (intro W hW; have e0 := bcell hW b1; have e1 := bcell hW b2; have e2 := bcell hW y3; clear hW; go_simp; try rfl)
                  simp only [Act.put, List.setIfInBounds_toArray, List.set_cons_zero, List.set_cons_succ]
                  refine takeInH 2 70 ?v36 rfl rfl (by kernel_rfl) (by kernel_rfl) (by kernel_rfl) (fun _ _ _ h => h) (by kernel_rfl) hS0 ?hy36 ?_
                  case hy36 => (intro W hW; clear hW; go_simp; try rfl)
                  simp only [Act.put, List.setIfInBounds_toArray, List.set_cons_zero, List.set_cons_succ]
                  refine takeInH 3 71 ?v37 rfl rfl (by kernel_rfl) (by kernel_rfl) (by kernel_rfl) (fun _ _ _ h => h) (by kernel_rfl) hS0 ?hy37 ?_
                  case hy37 => (intro W hW; clear hW; go_simp; try rfl)
                  simp only [Act.put, List.setIfInBounds_toArray, List.set_cons_zero, List.set_cons_succ]
                  refine takeInH 4 72 ?v38 rfl rfl (by kernel_rfl) (by kernel_rfl) (by kernel_rfl) (fun _ _ _ h => h) (by kernel_rfl) hS0 ?hy38 ?_
                  case hy38 => (intro W hW; have e0 := bcell hW b1; have e1 := bcell hW b2; have e2 := bcell hW y3; clear hW; go_simp; try rfl)
                  simp only [Act.put, List.setIfInBounds_toArray, List.set_cons_zero, List.set_cons_succ]
                  refine takeInH 6 74 ?v39 rfl rfl (by kernel_rfl) (by kernel_rfl) (by kernel_rfl) (fun _ _ _ h => h) (by kernel_rfl) hS0 ?hy39 ?_
                  case hy39 => (intro W hW; clear hW; go_simp; try rfl)
                  simp only [Act.put, List.setIfInBounds_toArray, List.set_cons_zero, List.set_cons_succ]
                  refine takeInH 7 75 ?v40 rfl rfl (by kernel_rfl) (by kernel_rfl) (by kernel_rfl) (fun _ _ _ h => h) (by kernel_rfl) hS0 ?hy40 ?_
                  case hy40 => (intro W hW; clear hW; go_simp; try rfl)
                  simp only [Act.put, List.setIfInBounds_toArray, List.set_cons_zero, List.set_cons_succ]
                  refine takeInH 8 76 ?v41 rfl rfl (by kernel_rfl) (by kernel_rfl) (by kernel_rfl) (fun _ _ _ h => h) (by kernel_rfl) hS0 ?hy41 ?_
                  case hy41 => (intro W hW; have e0 := bcell hW b1; have e1 := bcell hW b2; have e2 := bcell hW y3; clear hW; go_simp; try rfl)
                  simp only [Act.put, List.setIfInBounds_toArray, List.set_cons_zero, List.set_cons_succ]
                  refine wpAnyH_ready (rs := [5]) (by kernel_rfl) (by simp) ?_
                  refine AllReadyH.cons rfl (fun K hK => ?_) AllReadyH.nil
                  go_simp
                  refine (get_refZ pa' na' ca' c' r _ (HP2.out.below (bel_next BB.out hS0))).mono ?_
                  rintro e w' ⟨rfl, hw⟩
                  replace hw := hw.symm
                  subst hw
                  refine hK.out _ _ ?hs42 (fun hS1 => ?_)
                  case hs42 => exact hS0
                  clear hK K
                  try simp only [Act.put, List.setIfInBounds_toArray, List.set_cons_zero, List.set_cons_succ]
                  refine takeInH 9 77 ?v43 rfl rfl (by kernel_rfl) (by kernel_rfl) (by kernel_rfl) (fun _ _ _ h => h) (by kernel_rfl) hS1 ?hy43 ?_
                  case hy43 => (intro W hW; clear hW; go_simp; try rfl)
                  simp only [Act.put, List.setIfInBounds_toArray, List.set_cons_zero, List.set_cons_succ]
                  refine takeInH 10 11 ?v44 rfl rfl (by kernel_rfl) (by kernel_rfl) (by kernel_rfl) (fun _ _ _ h => h) (by kernel_rfl) hS1 ?hy44 ?_
                  case hy44 => (intro W hW; clear hW; go_simp; try rfl)
                  simp only [Act.put, List.setIfInBounds_toArray, List.set_cons_zero, List.set_cons_succ]
                  refine wpAnyH_done (by kernel_rfl) ?_ _
                  have hb := hS1
                  replace BB := hide (bel_next BB.out hb)
                  (try replace b0 := bcell hb b0)
                  (try replace b1 := bcell hb b1)
                  (try replace b2 := bcell hb b2)
                  (try replace b3 := bcell hb b3)
                  (try replace y1 := bcell hb y1)
                  (try replace y2 := bcell hb y2)
                  (try replace y3 := bcell hb y3)
                  (try replace HND := hide (HND.out.below hb))
                  (try replace HNB := hide (HNB.out.below hb))
                  clear hb
                  generalize u.drew = wq at *
                  clear hS0
                  go_upto_region 11 with (go_at_call 22; refine (HHB.out _ HNB.out).mono ?_; rintro e wq2 ⟨rfl, hb⟩; replace BB := hide (bel_next BB.out hb); (try replace b0 := bcell hb b0); (try replace b1 := bcell hb b1); (try replace b2 := bcell hb b2); (try replace b3 := bcell hb b3); (try replace y1 := bcell hb y1); (try replace y2 := bcell hb y2); (try replace y3 := bcell hb y3); (try replace HND := hide (HND.out.below hb)); (try replace HNB := hide (HNB.out.below hb)); clear hb)
                  have hb := bel1 wq2 (.cells #[.int .i64 1048576, .int .i64 1048576, .int .i64 1048576, .int .i64 1048576, .int .i64 1048576] 3)
                  have HNA := hide (NS.new wq2 _ rfl allC #[.int .i64 1048576, .int .i64 1048576, .int .i64 1048576, .int .i64 1048576, .int .i64 1048576] (by simp [allC]) 3 (0, 0) 5 rfl (by decide))
                  replace BB := hide (bel_next BB.out hb)
                  (try replace b0 := bcell hb b0)
                  (try replace b1 := bcell hb b1)
                  (try replace b2 := bcell hb b2)
                  (try replace b3 := bcell hb b3)
                  (try replace y1 := bcell hb y1)
                  (try replace y2 := bcell hb y2)
                  (try replace y3 := bcell hb y3)
                  (try replace HND := hide (HND.out.below hb))
                  (try replace HNB := hide (HNB.out.below hb))
                  clear hb
                  go_upto_region 12 with (go_at_call 9; refine (HC9.out pD _ nD cD _ _ _ HND.out HNA.out).mono ?_; rintro e w9 ⟨p9, c9, rfl, hn9, hc9, hb⟩; have HN9 := hide hn9; replace BB := hide (bel_next BB.out hb); (try replace b0 := bcell hb b0); (try replace b1 := bcell hb b1); (try replace b2 := bcell hb b2); (try replace b3 := bcell hb b3); (try replace y1 := bcell hb y1); (try replace y2 := bcell hb y2); (try replace y3 := bcell hb y3); (try replace HND := hide (HND.out.below hb)); (try replace HNB := hide (HNB.out.below hb)); clear hb; clear hn9 hc9 HC9)
                  go_wp2_with (go_at_call 22; refine (HHD.out _ HND.out).mono ?_; rintro e wh ⟨rfl, hb⟩; replace HN9 := hide (HN9.out.below hb); replace BB := hide (bel_next BB.out hb); (try replace b0 := bcell hb b0); (try replace b1 := bcell hb b1); (try replace b2 := bcell hb b2); (try replace b3 := bcell hb b3); (try replace y1 := bcell hb y1); (try replace y2 := bcell hb y2); (try replace y3 := bcell hb y3); (try replace HND := hide (HND.out.below hb)); (try replace HNB := hide (HNB.out.below hb)); clear hb; refine Stop.at ?_)
                  unfold Stop
                  go_wp2_with (go_at_call 22; refine (HHC.out _ _ _ _ HN9.out).mono ?_; rintro e wi ⟨rfl, hb⟩; replace BB := hide (bel_next BB.out hb); (try replace b0 := bcell hb b0); (try replace b1 := bcell hb b1); (try replace b2 := bcell hb b2); (try replace b3 := bcell hb b3); (try replace y1 := bcell hb y1); (try replace y2 := bcell hb y2); (try replace y3 := bcell hb y3); (try replace HND := hide (HND.out.below hb)); (try replace HNB := hide (HNB.out.below hb)); clear hb; refine Stop.at ?_)
                  unfold Stop
                  go_wp2_with (go_at_call 8; refine (awake9 _).mono ?_; rintro e wz ⟨rfl, hb⟩)
                  go_ret
                  exact ⟨rfl, bel_next BB.out hb⟩
          · go_wp2_with (go_at_call 8; refine (awake9 _).mono ?_; rintro e wz ⟨rfl, hb⟩)
            go_ret
            exact ⟨rfl, bel_next BB.out hb⟩
        · go_wp2_with (go_at_call 8; refine (awake9 _).mono ?_; rintro e wz ⟨rfl, hb⟩)
          go_ret
          exact ⟨rfl, bel_next BB.out hb⟩
      · go_wp2_with (go_at_call 8; refine (awake9 _).mono ?_; rintro e wz ⟨rfl, hb⟩)
        go_ret
        exact ⟨rfl, bel_next BB.out hb⟩
    · go_wp2_with (go_at_call 8; refine (awake9 _).mono ?_; rintro e wz ⟨rfl, hb⟩)
      go_ret
      exact ⟨rfl, bel_next BB.out hb⟩

/-! ### The row's step -/
set_option maxRecDepth 100000 in
theorem lifted (os : Os) (started : os.Started) (H : Type) (enc : TypeId × Value → H) :
    ReturnsInHanded {} Try.checked os 6 .any (Rows.rwsetDropsSpec.pre6 enc Try.prog Try.f6 Rows.rwsetDropsRow.domain false) (Rows.rwsetDropsSpec.post enc Try.prog Try.f6 false true false false) := by
  refine returnsInHanded_of_change_sized (C := Try.checked) own started (by kernel_rfl) Try.func6
    (ChangeSpec.witness6 (enc := enc) (C := Try.checked) false ⟨#[], #[.slice none 0 0, .agg #[.string ⟨#[]⟩, .int .i64 0, .int .i64 0, .slice none 0 0], .agg #[.string ⟨#[]⟩, .int .i64 0, .int .i64 0, .slice none 0 0]], []⟩ 8 (by kernel_rfl) (by kernel_rfl) (by kernel_rfl) (by kernel_rfl)) ?_
  intro W base args ds gs before hval0 hW hcnd hz0 _
  have hval : ∀ (j : Nat) t v, Try.f6.params[j]? = some t → args[j]? = some v → Value.okWide Try.prog W .any base t v := hval0
  have hz : (DataW.weightsEach Try.prog (Try.f6.params.toList ++ Rows.rwsetDropsSpec.plain.varTypes Try.prog) (ds ++ gs)).all (· ≤ reachBytes) = true := hz0
  have hW' := hW
  obtain ⟨p, q, hA0, hV, rfl, hfz, hnd⟩ := hW
  have hA : DataW.TrodAll enc Try.prog W 0 (fun _ => true) true Try.f6.params.toList args.toList ds p := hA0
  rw [Try.params6] at hA hval hz
  obtain ⟨v0, vs0, d0, ds0, p0, q0, hargs, rfl, rfl, h0, r0⟩ := trodAll_cons hA
  obtain ⟨v1, vs1, d1, ds1, p1, q1, rfl, rfl, rfl, h1, r1⟩ := trodAll_cons r0
  obtain ⟨v2, vs2, d2, ds2, p2, q2, rfl, rfl, rfl, h2, r2⟩ := trodAll_cons r1
  obtain ⟨rfl, rfl, rfl⟩ := trodAll_nil r2
  obtain rfl : args = #[v0, v1, v2] := by cases args; simp_all
  obtain ⟨rfl, rfl⟩ := trodVars_none hV
  have k0 := h0
  have lt0 : ∀ x ∈ p0, x.block < W.heap.size := by obtain ⟨m, hm⟩ := k0; exact DataW.trod_lt m _ _ _ hm
  have w0 : InNs W v0 := in_ents (hval 0 22 v0 rfl rfl) h0 (fun n hn => by have := List.all_eq_true.1 hz n (DataW.weights_mem_each (j := 0) (t := 22) rfl rfl n hn); simpa using this)
  have k1 := h1
  have lt1 : ∀ x ∈ p1, x.block < W.heap.size := by obtain ⟨m, hm⟩ := k1; exact DataW.trod_lt m _ _ _ hm
  have w1 : InDd W v1 := in_deed (hval 1 28 v1 rfl rfl) h1 (fun n hn => by have := List.all_eq_true.1 hz n (DataW.weights_mem_each (j := 1) (t := 28) rfl rfl n hn); simpa using this)
  have k2 := h2
  have lt2 : ∀ x ∈ p2, x.block < W.heap.size := by obtain ⟨m, hm⟩ := k2; exact DataW.trod_lt m _ _ _ hm
  have w2 : InDd W v2 := in_deed (hval 2 28 v2 rfl rfl) h2 (fun n hn => by have := List.all_eq_true.1 hz n (DataW.weights_mem_each (j := 2) (t := 28) rfl rfl n hn); simpa using this)
  clear hA0 hval0 hz0
  refine (walk v0 v1 v2 W w0 w1 w2).mono fun e W' ⟨he, bel⟩ => ?_
  subst he
  exact ⟨_, rfl, _, _, _, [], _, [], hW', trodAll_mk1 (shut_bool Try.underlying4 _), (trodAll_cons_mk (Below.trod laidOut (by kernel_rfl) (of_decide_eq_true (by kernel_rfl)) k0 bel lt0) (trodAll_cons_mk (Below.trod laidOut (by kernel_rfl) (of_decide_eq_true (by kernel_rfl)) k1 bel lt1) (trodAll_cons_mk (Below.trod laidOut (by kernel_rfl) (of_decide_eq_true (by kernel_rfl)) k2 bel lt2) trodAll_mk0))), rfl, bel.frame _, fun h => by cases h⟩

theorem over : Rows.rwsetDropsRow.holds Try.pinned (OpenSpec.ofChange Rows.rwsetDropsSpec) :=
  OpenClaim.holds_of_wide 6 Try.f6 rfl rfl rfl rfl rfl rfl rfl ⟨rfl, rfl, rfl, rfl, rfl⟩ rfl rfl rfl rfl rfl (by kernel_rfl) Try.func6 (by kernel_rfl)
    (of_decide_eq_true (by kernel_rfl)) (by unfold Func.isWrapper; first | (rw [if_pos (by decide +kernel)]; kernel_rfl) | (rw [if_neg (by decide +kernel)]; exact ⟨rfl, rfl⟩))
    (fun os started H enc _ => lifted os started H enc)
end Go.Proofs.Ytiodlpoeifmldaa.rwsetDrops
namespace Go.Proofs.Ytiodlpoeifmldaa
theorem rwsetDrops_holds : Rows.RwsetDropsSaid := rwsetDrops.over
end Go.Proofs.Ytiodlpoeifmldaa
