/- The document's Add of layer 11. -/
import Derived.Test.YtbihgcmnllajpaaGE3
import Derived.Test.YtbihgcmnllajpaaGT2
namespace Go.Proofs.Ytbihgcmnllajpaa
open Go.RowKit Go.Lib
set_option linter.unusedVariables false
theorem Try.infoAcc : (Try.prog.info? 52).map (fun i => (i.zero, i.size, i.bytes)) = some (some (.agg #[.string ⟨#[]⟩, .int .i64 0, .int .i64 0, .int .i64 0, .int .i64 0, .int .i64 0]), 6, 56) := by kernel_rfl
def bd41 (h : List Int) : Prop := ∀ j, -2199023255552 ≤ atH h j ∧ atH h j ≤ 2199023255552
theorem bd41_of {h : List Int} (ha : h.all in40 = true) : bd41 h := fun j => by
  have := bd_of ha j
  omega
/-- An account's cells. -/
def cellsA (t : ByteArray) (p : List Int) : Array Value := #[.string t, .int .i64 (atH p 0), .int .i64 (atH p 1), .int .i64 (atH p 2), .int .i64 (atH p 3), .int .i64 (atH p 4)]
def partV (H : List Int) (q : Nat) : List Int := H.take q ++ List.replicate (5 - q) 0
theorem partV_set {H : List Int} (hl : H.length = 5) {q : Nat} (hq : q < 5) : (partV H q).set q (atH H q) = partV H (q + 1) := by
  match H, hl with
  | [a, b, c, d, e], _ => rcases (by omega : q = 0 ∨ q = 1 ∨ q = 2 ∨ q = 3 ∨ q = 4) with rfl | rfl | rfl | rfl | rfl <;> rfl
theorem partV_len {H : List Int} (hl : H.length = 5) {q : Nat} (hq : q ≤ 5) : (partV H q).length = 5 := by
  unfold partV
  rw [List.length_append, List.length_take, List.length_replicate]
  omega
theorem partV_all {H : List Int} (hl : H.length = 5) : partV H 5 = H := by
  unfold partV
  rw [List.take_of_length_le (by omega)]
  simp
theorem cellsA_set {t : ByteArray} {p : List Int} (hl : p.length = 5) {q : Nat} (hq : q < 5) (v : Int) : (cellsA t p).setIfInBounds (1 + q) (.int .i64 v) = cellsA t (p.set q v) := by
  match p, hl with
  | [a, b, c, d, e], _ => rcases (by omega : q = 0 ∨ q = 1 ∨ q = 2 ∨ q = 3 ∨ q = 4) with rfl | rfl | rfl | rfl | rfl <;> rfl
theorem cellsA_at {t : ByteArray} (p : List Int) {q : Nat} (hq : q < 5) : (cellsA t p)[1 + q]? = some (.int .i64 (atH p q)) := by
  rcases (by omega : q = 0 ∨ q = 1 ∨ q = 2 ∨ q = 3 ∨ q = 4) with rfl | rfl | rfl | rfl | rfl <;> rfl
theorem atH_set {p : List Int} {q : Nat} (hq : q < p.length) (v : Int) : atH (p.set q v) q = v := by
  unfold atH
  rw [List.getD_eq_getElem?_getD, List.getElem?_set, if_pos rfl, if_pos hq]
  rfl
theorem goA_is {s : List Ac} (hs : SrtG kA s) (t : ByteArray) (H : List Int) : goG kA t (t, H) s [] (!(H.any nz)) = setA s t H := by
  unfold setA accA
  rcases h : H.any nz with _ | _
  · rw [if_neg (by simp)]
    exact goG_none hs t _
  · rw [if_pos rfl]
    exact goG_some hs t _
set_option maxHeartbeats 8000000 in
theorem Add11_ref (a : Option Addr) (n cap : Nat) (s : List Ac) (t : ByteArray) (r : Nat) (hr : r < 5) (m : Int) (hm : -1000 ≤ m ∧ m ≤ 1000) (w : World) (hA : AC w a n s) (hS : SrtG kA s) (hn : n ≤ 100000) (hb : bd41 (havA s t)) : Calls Try.prog 14 #[.slice a n cap, .string t, .int .i64 ((r : Int) + 1), .int .i64 m] w fun e w' => ∃ p cp, e = .returned (.slice p (addA s t (r + 1) m).length cp) ∧ AC w' p (addA s t (r + 1) m).length (addA s t (r + 1) m) ∧ CP p (addA s t (r + 1) m).length cp ∧ Below w.heap.size w w' := by
  have HV := hide hA
  have HLEN := hide hA.1.1
  have hl0 := havA_len hA.2 t
  have HFV : Hid (FvA (addA s t (r + 1) m)) := setA_fv hA.2 t ((incA_len _ _ _).trans hl0)
  show Calls _ _ _ _ fun e w' => ∃ p cp, e = .returned (.slice p (setA s t (incA (havA s t) (r + 1) m)).length cp) ∧ AC w' p (setA s t (incA (havA s t) (r + 1) m)).length (setA s t (incA (havA s t) (r + 1) m)) ∧ CP p (setA s t (incA (havA s t) (r + 1) m)).length cp ∧ Below w.heap.size w w'
  have HFV2 : Hid (FvA (setA s t (incA (havA s t) (r + 1) m))) := HFV.out
  clear HFV
  have HAT : Hid (∀ j, atH (incA (havA s t) (r + 1) m) j = atH (havA s t) j + if j = r then m else 0) := fun j => incA_get hl0 (by omega) m j
  obtain ⟨H, hH⟩ : ∃ x, x = incA (havA s t) (r + 1) m := ⟨_, rfl⟩
  have hl : H.length = 5 := by rw [hH, incA_len, hl0]
  rw [← hH] at HFV2 HAT ⊢
  clear hH
  rw [← goA_is hS t H] at HFV2 ⊢
  have HBD := hide hb
  clear hA hS hb hl0
  obtain ⟨Fin, hFin⟩ : ∃ x, x = goG kA t (t, H) s [] (!(H.any nz)) := ⟨_, rfl⟩
  rw [← hFin] at HFV2 ⊢
  have HG0 : Hid (goG kA t (t, H) (s.drop 0) [] (!(H.any nz)) = Fin) := hFin.symm
  clear hFin
  have HX0 : Hid (BX (w.alloc (.cells (cellsA t (partV H 0)) 52)) w.heap.size (cellsA t (partV H 0)) 52) := BX.new w _ rfl _ _
  have HB0 := hide (bel1 w (.cells (cellsA t (partV H 0)) 52))
  go_enter Try.func14, Try.ntmps14
  go_wp2
  go_loopw [10, 11] (fun vb vi wr => ∃ (q : Nat) (sb : Bool), q ≤ 5 ∧ vi = .int .i64 ((q : Int) + 1) ∧ vb = .bool sb ∧ Hid ((H.take q).any nz = sb) ∧ Hid (BX wr w.heap.size (cellsA t (partV H q)) 52) ∧ Hid (Below w.heap.size w wr)) (fun _ vi _ => 6 - (intOf vi).toNat)
  case atStart => exact ⟨0, false, by omega, rfl, rfl, rfl, HX0, HB0⟩
  case round =>
    clear HX0 HB0
    obtain ⟨q, sb, hq, rfl, rfl, HSM, HX, HB⟩ := hrel
    by_cases hq5 : q < 5
    · have hq1 : (q : Int) + 1 ≤ 5 := by omega
      have hq2 : (q : Int) < 5 := by omega
      have hq3 : (0 : Int) ≤ (q : Int) := by omega
      have hwq := wrapT (show q ≤ 9223372036854775807 by omega)
      have e0 := HX.out.cell (1 + q) _ (cellsA_at _ hq5)
      have f0 := HX.out.free (1 + q)
      generalize hgb : w.heap.size = gb at *
      go_upto_region 7 with (go_at_call 30; refine (Get11_ref a n cap s t q hq5 _ (HV.out.below (hgb ▸ HB.out))).mono ?_; rintro e w1 ⟨rfl, hw1⟩; subst hw1)
      have HB1 : Hid (Below gb w (w1.setCell ⟨gb, 1 + q, none⟩ (.int .i64 (atH (havA s t) q)))) := HB.out.setCell (Nat.le_refl _) _
      have HX1 : Hid (BX (w1.setCell ⟨gb, 1 + q, none⟩ (.int .i64 (atH (havA s t) q))) gb (cellsA t ((partV H q).set q (atH (havA s t) q))) 52) := by
        have := HX.out.set (1 + q) (.int .i64 (atH (havA s t) q))
        rwa [cellsA_set (partV_len hl (by omega)) hq5] at this
      clear HX HB e0 f0
      generalize w1.setCell ⟨gb, 1 + q, none⟩ (.int .i64 (atH (havA s t) q)) = u1 at *
      by_cases hrq : q = r
      · subst hrq
        have hbq : ((q : Int) + 1 == (q : Int) + 1) = true := by simp
        have hwm : IntKind.i64.wrap (atH (havA s t) q + m) = atH H q := by
          have h1 := HBD.out q
          rw [HAT.out, if_pos rfl, IntKind.wrap_i64]
          omega
        have e1 := HX1.out.cell (1 + q) _ (cellsA_at _ hq5)
        rw [atH_set (by rw [partV_len hl (by omega)]; exact hq5)] at e1
        have f1 := HX1.out.free (1 + q)
        go_upto_region 9 with fail
        have HB9 : Hid (Below gb w (u1.setCell ⟨gb, 1 + q, none⟩ (.int .i64 (atH H q)))) := HB1.out.setCell (Nat.le_refl _) _
        have HX9 : Hid (BX (u1.setCell ⟨gb, 1 + q, none⟩ (.int .i64 (atH H q))) gb (cellsA t (partV H (q + 1))) 52) := by
          have := HX1.out.set (1 + q) (.int .i64 (atH H q))
          rwa [cellsA_set (by rw [List.length_set, partV_len hl (by omega)]) hq5, List.set_set, partV_set hl hq5] at this
        clear HX1 HB1 e1 f1 hwm
        generalize u1.setCell ⟨gb, 1 + q, none⟩ (.int .i64 (atH H q)) = u2 at *
        have e9 := HX9.out.cell (1 + q) _ (cellsA_at _ hq5)
        rw [show atH (partV H (q + 1)) q = atH H q by rw [← partV_set hl hq5, atH_set (by rw [partV_len hl (by omega)]; exact hq5)]] at e9
        have HS2 := hide (any_step (by omega : q < H.length) HSM.out)
        cases sb
        · by_cases m1 : atH H q = 0
          · have m2 : (atH H q == 0) = true := by rw [m1]; rfl
            have m3 := hide m1
            clear m1
            have HS3 : Hid ((H.take (q + 1)).any nz = false) := by unfold Hid; rw [HS2.out]; simp [m3.out]
            clear HS2
            go_wp2
            go_roundw
            case rel => exact ⟨q + 1, false, by omega, by go_num, (by first | rfl | (unfold bne; rw [m2]; rfl)), HS3, HX9, HB9⟩
            case measure => simp [intOf]; omega
          · have m2 : (atH H q == 0) = false := by rw [beq_eq_false_iff_ne]; exact m1
            have m3 := hide m1
            clear m1
            have HS3 : Hid ((H.take (q + 1)).any nz = true) := by unfold Hid; rw [HS2.out]; simp [m3.out]
            clear HS2
            go_wp2
            go_roundw
            case rel => exact ⟨q + 1, true, by omega, by go_num, (by first | rfl | (unfold bne; rw [m2]; rfl)), HS3, HX9, HB9⟩
            case measure => simp [intOf]; omega
        · skip
          have HS3 : Hid ((H.take (q + 1)).any nz = true) := by unfold Hid; rw [HS2.out]; simp
          clear HS2
          go_wp2
          go_roundw
          case rel => exact ⟨q + 1, true, by omega, by go_num, (by first | rfl | (unfold bne; rw [m2]; rfl)), HS3, HX9, HB9⟩
          case measure => simp [intOf]; omega
      · have hbq : ((q : Int) + 1 == (r : Int) + 1) = false := by rw [beq_eq_false_iff_ne]; omega
        have hbr : ¬ ((q : Int) + 1 = (r : Int) + 1) := by omega
        have hbs : ((q : Int) == (r : Int)) = false := by rw [beq_eq_false_iff_ne]; omega
        have hbt : ¬ ((q : Int) = (r : Int)) := by omega
        have HX9 : Hid (BX u1 gb (cellsA t (partV H (q + 1))) 52) := by
          have h1 := HX1.out
          have h2 := HAT.out q
          rw [if_neg hrq, Int.add_zero] at h2
          rwa [← h2, partV_set hl hq5] at h1
        have HB9 := HB1
        clear HX1 HB1
        go_upto_region 9 with fail
        have e9 := HX9.out.cell (1 + q) _ (cellsA_at _ hq5)
        rw [show atH (partV H (q + 1)) q = atH H q by rw [← partV_set hl hq5, atH_set (by rw [partV_len hl (by omega)]; exact hq5)]] at e9
        have HS2 := hide (any_step (by omega : q < H.length) HSM.out)
        cases sb
        · by_cases m1 : atH H q = 0
          · have m2 : (atH H q == 0) = true := by rw [m1]; rfl
            have m3 := hide m1
            clear m1
            have HS3 : Hid ((H.take (q + 1)).any nz = false) := by unfold Hid; rw [HS2.out]; simp [m3.out]
            clear HS2
            go_wp2
            go_roundw
            case rel => exact ⟨q + 1, false, by omega, by go_num, (by first | rfl | (unfold bne; rw [m2]; rfl)), HS3, HX9, HB9⟩
            case measure => simp [intOf]; omega
          · have m2 : (atH H q == 0) = false := by rw [beq_eq_false_iff_ne]; exact m1
            have m3 := hide m1
            clear m1
            have HS3 : Hid ((H.take (q + 1)).any nz = true) := by unfold Hid; rw [HS2.out]; simp [m3.out]
            clear HS2
            go_wp2
            go_roundw
            case rel => exact ⟨q + 1, true, by omega, by go_num, (by first | rfl | (unfold bne; rw [m2]; rfl)), HS3, HX9, HB9⟩
            case measure => simp [intOf]; omega
        · skip
          have HS3 : Hid ((H.take (q + 1)).any nz = true) := by unfold Hid; rw [HS2.out]; simp
          clear HS2
          go_wp2
          go_roundw
          case rel => exact ⟨q + 1, true, by omega, by go_num, (by first | rfl | (unfold bne; rw [m2]; rfl)), HS3, HX9, HB9⟩
          case measure => simp [intOf]; omega
    · obtain rfl : q = 5 := by omega
      rw [show ((5 : Nat) : Int) + 1 = 6 from rfl]
      have HXE : Hid (BX wr w.heap.size (cellsA t H) 52) := by have := HX.out; rwa [partV_all hl] at this
      have hsb : H.any nz = sb := by have := HSM.out; rwa [List.take_of_length_le (by omega)] at this
      rw [hsb] at HG0
      have HG1 := HG0
      clear HSM hsb HX HG0
      generalize hgb : w.heap.size = gb at *
      obtain ⟨u, hu⟩ : ∃ x, x = wr := ⟨_, rfl⟩
      rw [← hu] at HXE HB ⊢
      clear hu
      have HBU := HB
      have HVU := hide (HV.out.below (hgb ▸ HBU.out))
      clear HB
      have HO0 : Hid (OwnR encA 6 52 u.heap.size (u.alloc (.cells #[] 52)) (.slice (some ⟨u.heap.size, 0, none⟩) 0 0) []) := OwnR.made u u.heap.size u.heap.size rfl (Nat.le_refl _)
      have HB1 := hide (bel1 u (.cells #[] 52))
      go_wp2
      go_loopw [10, 12, 13] (fun vb V v wr => ∃ (k : Nat) (d : Bool) (out : List Ac), k ≤ n ∧ v = .int .i64 k ∧ vb = .bool (!d) ∧ Hid (OwnR encA 6 52 u.heap.size wr V out) ∧ Hid (goG kA t (t, H) (s.drop k) out d = Fin) ∧ Hid (out.length ≤ 2 * k) ∧ Hid (Below u.heap.size u wr)) (fun _ _ v _ => n - (intOf v).toNat)
      case atStart => exact ⟨0, !sb, [], by omega, rfl, by rw [Bool.not_not], HO0, HG1, (show _ ≤ _ by simp), HB1⟩
      case round =>
        clear HO0 HG1 HB1
        obtain ⟨k0, d, out, hk, rfl, hvb, HO, HG, HOL, HB⟩ := hrel
        have x0 := bcell HB.out (HXE.out.cell 0 _ rfl)
        have x1 := bcell HB.out (HXE.out.cell 1 _ rfl)
        have x2 := bcell HB.out (HXE.out.cell 2 _ rfl)
        have x3 := bcell HB.out (HXE.out.cell 3 _ rfl)
        have x4 := bcell HB.out (HXE.out.cell 4 _ rfl)
        have x5 := bcell HB.out (HXE.out.cell 5 _ rfl)
        by_cases hlt : k0 < n
        · obtain ⟨b, off, rfl⟩ := HVU.out.addr (by omega)
          obtain ⟨k, g0, g1, g2, g3, g4, hx, q0, q1, q2, q3, q4, q5⟩ := HVU.out.five k0 hlt
          have C0 := hide q0
          have C1 := hide q1
          have C2 := hide q2
          have C3 := hide q3
          have C4 := hide q4
          have C5 := hide q5
          have HX := hide hx
          have c0 := bcell HB.out q0
          have c1 := bcell HB.out q1
          have c2 := bcell HB.out q2
          have c3 := bcell HB.out q3
          have c4 := bcell HB.out q4
          have c5 := bcell HB.out q5
          have hk0 : (0 : Int) ≤ (k0 : Int) := by omega
          have hk1 : (k0 : Int) < (n : Int) := by omega
          have hq := eqK k t
          clear hx q0 q1 q2 q3 q4 q5
          cases d
          · replace hvb : _ = Value.bool true := hvb
            subst hvb
            rcases hl9 : Op.bytesLess k.toList t.toList with _ | _
            · by_cases he : k = t
              · rw [decide_eq_true he] at hq
                have HG2 : Hid (goG kA t (t, H) (s.drop (k0 + 1)) (out ++ [(t, H)]) true = Fin) := by
                  unfold Hid
                  rw [← HG.out, drop_cons HX.out, goG]
                  simp only [show ltK (kA (k, [g0, g1, g2, g3, g4])) t = false from hl9, if_pos (show kA (k, [g0, g1, g2, g3, g4]) = t from he)]
                  rfl
                have HOL2 : Hid (((out ++ [(t, H)])).length ≤ 2 * (k0 + 1)) := by have h9 := HOL.out; unfold Hid; first | omega | (simp; omega)
                clear he
                go_wp2_with (at_builtin; refine Stop.at ?_)
                unfold Stop
                have BQ1 := hide (bel1 wr (.cells #[.string t, .int .i64 (atH H 0), .int .i64 (atH H 1), .int .i64 (atH H 2), .int .i64 (atH H 3), .int .i64 (atH H 4)] 52))
                refine append_rows rfl _ _ 22 rfl Try.underlying22 Try.infoAcc rfl (by decide) (by decide) encA_len encA_one u.heap.size _ out [(t, H)] rfl (HO.out.below BQ1.out) (some ⟨wr.heap.size, 0, none⟩) 1 1 rfl (fun h => by cases h) (RS.new encA_len wr _ rfl [(t, H)] _ (by first | rfl | simp [encA, atH]) _ _ 1 rfl (by decide)) (by have h9 := HOL.out; simp at h9 ⊢; omega) (Nat.le_trans HB.out.size BQ1.out.size) ?_
                intro v1 w1 ho1 hg1 hbel1
                have HO1 := hide ho1
                have HB1 := hide (hbel1 _ (bel_next HB.out BQ1.out))
                clear ho1 hg1 hbel1 BQ1
                replace HO := HO1
                replace HB := HB1
                clear HO1 HB1
                replace c0 := bcell HB.out C0.out
                replace c1 := bcell HB.out C1.out
                replace c2 := bcell HB.out C2.out
                replace c3 := bcell HB.out C3.out
                replace c4 := bcell HB.out C4.out
                replace c5 := bcell HB.out C5.out
                go_wp2
                go_roundw
                case rel => exact ⟨k0 + 1, true, (out ++ [(t, H)]), by omega, by go_num, rfl, HO, HG2, HOL2, HB⟩
                case measure => simp [intOf]; omega
              · rw [decide_eq_false he] at hq
                have HG2 : Hid (goG kA t (t, H) (s.drop (k0 + 1)) ((out ++ [(t, H)]) ++ [(k, [g0, g1, g2, g3, g4])]) true = Fin) := by
                  unfold Hid
                  rw [← HG.out, drop_cons HX.out, goG]
                  simp only [show ltK (kA (k, [g0, g1, g2, g3, g4])) t = false from hl9, if_neg (show ¬ kA (k, [g0, g1, g2, g3, g4]) = t from he)]
                  rfl
                have HOL2 : Hid ((((out ++ [(t, H)]) ++ [(k, [g0, g1, g2, g3, g4])])).length ≤ 2 * (k0 + 1)) := by have h9 := HOL.out; unfold Hid; first | omega | (simp; omega)
                clear he
                go_wp2_with (at_builtin; refine Stop.at ?_)
                unfold Stop
                have BQ1 := hide (bel1 wr (.cells #[.string t, .int .i64 (atH H 0), .int .i64 (atH H 1), .int .i64 (atH H 2), .int .i64 (atH H 3), .int .i64 (atH H 4)] 52))
                refine append_rows rfl _ _ 22 rfl Try.underlying22 Try.infoAcc rfl (by decide) (by decide) encA_len encA_one u.heap.size _ out [(t, H)] rfl (HO.out.below BQ1.out) (some ⟨wr.heap.size, 0, none⟩) 1 1 rfl (fun h => by cases h) (RS.new encA_len wr _ rfl [(t, H)] _ (by first | rfl | simp [encA, atH]) _ _ 1 rfl (by decide)) (by have h9 := HOL.out; simp at h9 ⊢; omega) (Nat.le_trans HB.out.size BQ1.out.size) ?_
                intro v1 w1 ho1 hg1 hbel1
                have HO1 := hide ho1
                have HB1 := hide (hbel1 _ (bel_next HB.out BQ1.out))
                clear ho1 hg1 hbel1 BQ1
                replace HO := HO1
                replace HB := HB1
                clear HO1 HB1
                replace c0 := bcell HB.out C0.out
                replace c1 := bcell HB.out C1.out
                replace c2 := bcell HB.out C2.out
                replace c3 := bcell HB.out C3.out
                replace c4 := bcell HB.out C4.out
                replace c5 := bcell HB.out C5.out
                replace HOL : Hid ((out ++ [(t, H)]).length ≤ 2 * k0 + 1) := by have h9 := HOL.out; unfold Hid; simp; omega
                go_wp2_with (at_builtin; refine Stop.at ?_)
                unfold Stop
                have BQ2 := hide (bel1 w1 (.cells #[.string k, .int .i64 g0, .int .i64 g1, .int .i64 g2, .int .i64 g3, .int .i64 g4] 52))
                refine append_rows rfl _ _ 22 rfl Try.underlying22 Try.infoAcc rfl (by decide) (by decide) encA_len encA_one u.heap.size _ (out ++ [(t, H)]) [(k, [g0, g1, g2, g3, g4])] rfl (HO.out.below BQ2.out) (some ⟨w1.heap.size, 0, none⟩) 1 1 rfl (fun h => by cases h) (RS.new encA_len w1 _ rfl [(k, [g0, g1, g2, g3, g4])] _ (by first | rfl | simp [encA, atH]) _ _ 1 rfl (by decide)) (by have h9 := HOL.out; simp at h9 ⊢; omega) (Nat.le_trans HB.out.size BQ2.out.size) ?_
                intro v2 w2 ho2 hg2 hbel2
                have HO2 := hide ho2
                have HB2 := hide (hbel2 _ (bel_next HB.out BQ2.out))
                clear ho2 hg2 hbel2 BQ2
                replace HO := HO2
                replace HB := HB2
                clear HO2 HB2
                go_wp2
                go_roundw
                case rel => exact ⟨k0 + 1, true, ((out ++ [(t, H)]) ++ [(k, [g0, g1, g2, g3, g4])]), by omega, by go_num, rfl, HO, HG2, HOL2, HB⟩
                case measure => simp [intOf]; omega
            · have he : ¬ k = t := ltK_ne hl9
              rw [decide_eq_false he] at hq
              have HG2 : Hid (goG kA t (t, H) (s.drop (k0 + 1)) (out ++ [(k, [g0, g1, g2, g3, g4])]) false = Fin) := by
                unfold Hid
                rw [← HG.out, drop_cons HX.out, goG]
                simp only [show ltK (kA (k, [g0, g1, g2, g3, g4])) t = true from hl9, if_neg (show ¬ kA (k, [g0, g1, g2, g3, g4]) = t from he)]
                rfl
              have HOL2 : Hid (((out ++ [(k, [g0, g1, g2, g3, g4])])).length ≤ 2 * (k0 + 1)) := by have h9 := HOL.out; unfold Hid; first | omega | (simp; omega)
              clear he
              go_wp2_with (at_builtin; refine Stop.at ?_)
              unfold Stop
              have BQ2 := hide (bel1 wr (.cells #[.string k, .int .i64 g0, .int .i64 g1, .int .i64 g2, .int .i64 g3, .int .i64 g4] 52))
              refine append_rows rfl _ _ 22 rfl Try.underlying22 Try.infoAcc rfl (by decide) (by decide) encA_len encA_one u.heap.size _ out [(k, [g0, g1, g2, g3, g4])] rfl (HO.out.below BQ2.out) (some ⟨wr.heap.size, 0, none⟩) 1 1 rfl (fun h => by cases h) (RS.new encA_len wr _ rfl [(k, [g0, g1, g2, g3, g4])] _ (by first | rfl | simp [encA, atH]) _ _ 1 rfl (by decide)) (by have h9 := HOL.out; simp at h9 ⊢; omega) (Nat.le_trans HB.out.size BQ2.out.size) ?_
              intro v2 w2 ho2 hg2 hbel2
              have HO2 := hide ho2
              have HB2 := hide (hbel2 _ (bel_next HB.out BQ2.out))
              clear ho2 hg2 hbel2 BQ2
              replace HO := HO2
              replace HB := HB2
              clear HO2 HB2
              go_wp2
              go_roundw
              case rel => exact ⟨k0 + 1, false, (out ++ [(k, [g0, g1, g2, g3, g4])]), by omega, by go_num, rfl, HO, HG2, HOL2, HB⟩
              case measure => simp [intOf]; omega
          · replace hvb : _ = Value.bool false := hvb
            subst hvb
            rcases hl9 : Op.bytesLess k.toList t.toList with _ | _
            · by_cases he : k = t
              · rw [decide_eq_true he] at hq
                have HG2 : Hid (goG kA t (t, H) (s.drop (k0 + 1)) out true = Fin) := by
                  unfold Hid
                  rw [← HG.out, drop_cons HX.out, goG]
                  simp only [show ltK (kA (k, [g0, g1, g2, g3, g4])) t = false from hl9, if_pos (show kA (k, [g0, g1, g2, g3, g4]) = t from he)]
                  rfl
                have HOL2 : Hid ((out).length ≤ 2 * (k0 + 1)) := by have h9 := HOL.out; unfold Hid; first | omega | (simp; omega)
                clear he
                go_wp2
                go_roundw
                case rel => exact ⟨k0 + 1, true, out, by omega, by go_num, rfl, HO, HG2, HOL2, HB⟩
                case measure => simp [intOf]; omega
              · rw [decide_eq_false he] at hq
                have HG2 : Hid (goG kA t (t, H) (s.drop (k0 + 1)) (out ++ [(k, [g0, g1, g2, g3, g4])]) true = Fin) := by
                  unfold Hid
                  rw [← HG.out, drop_cons HX.out, goG]
                  simp only [show ltK (kA (k, [g0, g1, g2, g3, g4])) t = false from hl9, if_neg (show ¬ kA (k, [g0, g1, g2, g3, g4]) = t from he)]
                  rfl
                have HOL2 : Hid (((out ++ [(k, [g0, g1, g2, g3, g4])])).length ≤ 2 * (k0 + 1)) := by have h9 := HOL.out; unfold Hid; first | omega | (simp; omega)
                clear he
                go_wp2_with (at_builtin; refine Stop.at ?_)
                unfold Stop
                have BQ2 := hide (bel1 wr (.cells #[.string k, .int .i64 g0, .int .i64 g1, .int .i64 g2, .int .i64 g3, .int .i64 g4] 52))
                refine append_rows rfl _ _ 22 rfl Try.underlying22 Try.infoAcc rfl (by decide) (by decide) encA_len encA_one u.heap.size _ out [(k, [g0, g1, g2, g3, g4])] rfl (HO.out.below BQ2.out) (some ⟨wr.heap.size, 0, none⟩) 1 1 rfl (fun h => by cases h) (RS.new encA_len wr _ rfl [(k, [g0, g1, g2, g3, g4])] _ (by first | rfl | simp [encA, atH]) _ _ 1 rfl (by decide)) (by have h9 := HOL.out; simp at h9 ⊢; omega) (Nat.le_trans HB.out.size BQ2.out.size) ?_
                intro v2 w2 ho2 hg2 hbel2
                have HO2 := hide ho2
                have HB2 := hide (hbel2 _ (bel_next HB.out BQ2.out))
                clear ho2 hg2 hbel2 BQ2
                replace HO := HO2
                replace HB := HB2
                clear HO2 HB2
                go_wp2
                go_roundw
                case rel => exact ⟨k0 + 1, true, (out ++ [(k, [g0, g1, g2, g3, g4])]), by omega, by go_num, rfl, HO, HG2, HOL2, HB⟩
                case measure => simp [intOf]; omega
            · have he : ¬ k = t := ltK_ne hl9
              rw [decide_eq_false he] at hq
              have HG2 : Hid (goG kA t (t, H) (s.drop (k0 + 1)) (out ++ [(k, [g0, g1, g2, g3, g4])]) true = Fin) := by
                unfold Hid
                rw [← HG.out, drop_cons HX.out, goG]
                simp only [show ltK (kA (k, [g0, g1, g2, g3, g4])) t = true from hl9, if_neg (show ¬ kA (k, [g0, g1, g2, g3, g4]) = t from he)]
                rfl
              have HOL2 : Hid (((out ++ [(k, [g0, g1, g2, g3, g4])])).length ≤ 2 * (k0 + 1)) := by have h9 := HOL.out; unfold Hid; first | omega | (simp; omega)
              clear he
              go_wp2_with (at_builtin; refine Stop.at ?_)
              unfold Stop
              have BQ2 := hide (bel1 wr (.cells #[.string k, .int .i64 g0, .int .i64 g1, .int .i64 g2, .int .i64 g3, .int .i64 g4] 52))
              refine append_rows rfl _ _ 22 rfl Try.underlying22 Try.infoAcc rfl (by decide) (by decide) encA_len encA_one u.heap.size _ out [(k, [g0, g1, g2, g3, g4])] rfl (HO.out.below BQ2.out) (some ⟨wr.heap.size, 0, none⟩) 1 1 rfl (fun h => by cases h) (RS.new encA_len wr _ rfl [(k, [g0, g1, g2, g3, g4])] _ (by first | rfl | simp [encA, atH]) _ _ 1 rfl (by decide)) (by have h9 := HOL.out; simp at h9 ⊢; omega) (Nat.le_trans HB.out.size BQ2.out.size) ?_
              intro v2 w2 ho2 hg2 hbel2
              have HO2 := hide ho2
              have HB2 := hide (hbel2 _ (bel_next HB.out BQ2.out))
              clear ho2 hg2 hbel2 BQ2
              replace HO := HO2
              replace HB := HB2
              clear HO2 HB2
              go_wp2
              go_roundw
              case rel => exact ⟨k0 + 1, true, (out ++ [(k, [g0, g1, g2, g3, g4])]), by omega, by go_num, rfl, HO, HG2, HOL2, HB⟩
              case measure => simp [intOf]; omega
        · obtain rfl : k0 = n := by omega
          have HE : Hid ((if d then out else out ++ [(t, H)]) = Fin) := by
            have := HG.out
            rw [← HLEN.out, List.drop_length, goG] at this
            exact this
          clear HG
          cases d
          · replace hvb : _ = Value.bool true := hvb
            subst hvb
            have HE2 : Hid (out ++ [(t, H)] = Fin) := HE.out
            go_wp2_with (at_builtin; refine Stop.at ?_)
            unfold Stop
            have BQ1 := hide (bel1 wr (.cells #[.string t, .int .i64 (atH H 0), .int .i64 (atH H 1), .int .i64 (atH H 2), .int .i64 (atH H 3), .int .i64 (atH H 4)] 52))
            refine append_rows rfl _ _ 22 rfl Try.underlying22 Try.infoAcc rfl (by decide) (by decide) encA_len encA_one u.heap.size _ out [(t, H)] rfl (HO.out.below BQ1.out) (some ⟨wr.heap.size, 0, none⟩) 1 1 rfl (fun h => by cases h) (RS.new encA_len wr _ rfl [(t, H)] _ (by first | rfl | simp [encA, atH]) _ _ 1 rfl (by decide)) (by have h9 := HOL.out; simp at h9 ⊢; omega) (Nat.le_trans HB.out.size BQ1.out.size) ?_
            intro v1 w1 ho1 hg1 hbel1
            have HO1 := hide ho1
            have HB1 := hide (hbel1 _ (bel_next HB.out BQ1.out))
            clear ho1 hg1 hbel1 BQ1
            replace HO := HO1
            replace HB := HB1
            clear HO1 HB1
            rw [HE2.out] at HO
            obtain ⟨p, c, rfl, h1, h2⟩ := HO.out.open encA_len
            have H1 := hide h1
            have H2 := hide h2
            clear h1 h2
            go_wp2
            go_ret
            exact ⟨p, c, rfl, ⟨H1.out, HFV2.out⟩, H2.out, hgb ▸ (bel_next (hgb ▸ HBU.out) HB.out)⟩
          · replace hvb : _ = Value.bool false := hvb
            subst hvb
            have HE2 : Hid (out = Fin) := HE.out
            rw [HE2.out] at HO
            obtain ⟨p, c, rfl, h1, h2⟩ := HO.out.open encA_len
            have H1 := hide h1
            have H2 := hide h2
            clear h1 h2
            go_wp2
            go_ret
            exact ⟨p, c, rfl, ⟨H1.out, HFV2.out⟩, H2.out, hgb ▸ (bel_next (hgb ▸ HBU.out) HB.out)⟩
end Go.Proofs.Ytbihgcmnllajpaa
