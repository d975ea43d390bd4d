/- A disk's journal is opened (layer 7). -/
import Derived.Test.YtofalfaiamaapaaQ6
namespace Go.Proofs.Ytofalfaiamaapaa
open Go.RowKit
set_option linter.unusedVariables false
/-- What is known of a slot, a turn, records, and whether something stands behind, when one slot more is looked into. -/
def opn1 (st : Int × Int × List Rc × Bool) (i : Int) (l : List Int) : Int × Int × List Rc × Bool := if (scanRs l).1 > st.2.1 then (i, (scanRs l).1, (scanRs l).2.1, decide ((scanRs l).2.2 < l.length)) else st
def opnN (d : Dk) : Nat → Int × Int × List Rc × Bool
  | 0 => (1, 0, [], false)
  | i + 1 => opn1 (opnN d i) i (d.get i).l
abbrev opn (d : Dk) : Int × Int × List Rc × Bool := opnN d 2
theorem rec_take {l : List Int} (hb : By l) (h : (getRecord l).2.2.2 = 0) : record (getRecord l).1 (getRecord l).2.1 = l.take (getRecord l).2.2.1 := by
  match l, hb, h with
  | [], _, h => simp [getRecord] at h
  | k :: r, hb, h =>
    have hr : By r := fun n hn => hb n (List.mem_cons_of_mem _ hn)
    by_cases hk : k < 1 ∨ 200 < k
    · rw [rec_out hk] at h; cases h
    · by_cases hs : (getSize r).2.2 = 0
      · obtain ⟨s, m, e1, e2, e3, e4, e5, e6⟩ := getSize_ok hr hs
        have hf := rec_fits (k := k) hr (by omega) (by omega) e6 e2
        rw [hf] at h ⊢
        split at h
        · cases h
        · rename_i h1
          rw [if_neg h1]
          split at h
          · rename_i h2
            rw [if_pos h2]
            exact h2
          · cases h
      · rw [rec_cons, if_neg hk, if_pos hs] at h
        exact absurd h hs
theorem takeR_may : ∀ (f : Nat) (l : List Int), By l → (∀ x ∈ (takeR f l).1, mayRc x = true ∧ By x.b) ∧ (bytesRs (takeR f l).1).length = (takeR f l).2 := by
  intro f
  induction f with
  | zero => intro l _; exact ⟨fun x hx => by simp [takeR] at hx, rfl⟩
  | succ f ih =>
    intro l hb
    by_cases h : (getRecord l).2.2.2 = 0 ∧ 10 ≤ (getRecord l).1
    · have q := getRecord_ok hb h.1
      have r := rec_take hb h.1
      have i := ih _ (hb.drop (getRecord l).2.2.1)
      rw [takeR_go h]
      refine ⟨fun x hx => ?_, ?_⟩
      · rcases List.mem_cons.1 hx with rfl | hx
        · exact ⟨(mayRc_iff _).2 ⟨h.2, q.2.2.2.1, q.2.2.2.2.1⟩, q.2.2.2.2.2⟩
        · exact i.1 x hx
      · have e : bytesRs ((⟨(getRecord l).1, (getRecord l).2.1⟩ : Rc) :: (takeR f (l.drop (getRecord l).2.2.1)).1) = record (getRecord l).1 (getRecord l).2.1 ++ bytesRs (takeR f (l.drop (getRecord l).2.2.1)).1 := by simp [bytesRs]
        simp only []
        rw [e, List.length_append, i.2, r, List.length_take, Nat.min_eq_left q.2.1]
    · rw [takeR_no h]; exact ⟨fun x hx => by simp at hx, rfl⟩
theorem bytesRs_append (l m : List Rc) : bytesRs (l ++ m) = bytesRs l ++ bytesRs m := by simp [bytesRs]
/-- What is read of a slot may be, and has no more bytes than it. -/
theorem scan_may (l : List Int) (hb : By l) : allMay (scanRs l).2.1 = true ∧ (bytesRs (scanRs l).2.1).length ≤ l.length ∧ 0 ≤ (scanRs l).1 ∧ (scanRs l).1 ≤ 1099511627776 ∧ (scanRs l).2.2 ≤ l.length := by
  rw [scan_whole l hb]
  have hh := headP_le hb
  unfold wholeP
  split
  · exact ⟨rfl, Nat.zero_le _, by decide, by decide, Nat.zero_le _⟩
  · split
    · rename_i h1 h2
      have b1 := hb.drop (headP l).2
      have t1 := takeR_may ((l.drop (headP l).2).length + 1) (l.drop (headP l).2) b1
      have l1 := takeR_le ((l.drop (headP l).2).length + 1) (l.drop (headP l).2) b1
      change _ ∧ (bytesRs (tk (l.drop (headP l).2)).1).length = (tk (l.drop (headP l).2)).2 at t1
      change (tk (l.drop (headP l).2)).2 ≤ _ at l1
      have g := getRecord_ok (b1.drop (tk (l.drop (headP l).2)).2) h2.1
      rw [List.length_drop] at g
      have b2 := b1.drop ((tk (l.drop (headP l).2)).2 + (getRecord ((l.drop (headP l).2).drop (tk (l.drop (headP l).2)).2)).2.2.1)
      have t2 := takeR_may (((l.drop (headP l).2).drop ((tk (l.drop (headP l).2)).2 + (getRecord ((l.drop (headP l).2).drop (tk (l.drop (headP l).2)).2)).2.2.1)).length + 1) _ b2
      have l2 := takeR_le (((l.drop (headP l).2).drop ((tk (l.drop (headP l).2)).2 + (getRecord ((l.drop (headP l).2).drop (tk (l.drop (headP l).2)).2)).2.2.1)).length + 1) _ b2
      change _ ∧ (bytesRs (tk ((l.drop (headP l).2).drop ((tk (l.drop (headP l).2)).2 + (getRecord ((l.drop (headP l).2).drop (tk (l.drop (headP l).2)).2)).2.2.1))).1).length = (tk ((l.drop (headP l).2).drop ((tk (l.drop (headP l).2)).2 + (getRecord ((l.drop (headP l).2).drop (tk (l.drop (headP l).2)).2)).2.2.1))).2 at t2
      change (tk ((l.drop (headP l).2).drop ((tk (l.drop (headP l).2)).2 + (getRecord ((l.drop (headP l).2).drop (tk (l.drop (headP l).2)).2)).2.2.1))).2 ≤ _ at l2
      rw [List.length_drop] at l1
      rw [List.length_drop, List.length_drop] at l2
      rw [List.length_drop] at g
      refine ⟨(allMay_iff _).2 fun x hx => ?_, ?_, hh.1, hh.2.1, ?_⟩
      · rcases List.mem_append.1 hx with q | q
        · exact (t1.1 x q).1
        · exact (t2.1 x q).1
      · simp only []
        rw [bytesRs_append, List.length_append, t1.2, t2.2]
        omega
      · simp only []
        omega
    · exact ⟨rfl, Nat.zero_le _, by decide, by decide, Nat.zero_le _⟩
theorem opnN_good (d : Dk) (h : d.ok) : ∀ i : Nat, ((opnN d i).1 = 0 ∨ (opnN d i).1 = 1 ∨ 2 < i) ∧ 0 ≤ (opnN d i).2.1 ∧ (opnN d i).2.1 ≤ 1099511627776 ∧ allMay (opnN d i).2.2.1 = true ∧ (bytesRs (opnN d i).2.2.1).length ≤ 1048576 := by
  have hl := h.lens
  have hr : d.room ≤ 1048576 := h.2.2.2.1
  intro i
  induction i with
  | zero => exact ⟨.inr (.inl rfl), Int.le_refl 0, (by decide : (0 : Int) ≤ 1099511627776), rfl, Nat.zero_le _⟩
  | succ i ih =>
    have hb : By (d.get i).l := by
      unfold Dk.get
      split
      · exact h.1.1
      · exact h.2.1.1
    have hlen : (d.get i).l.length ≤ 1048576 := by
      unfold Dk.get
      split <;> omega
    have q := scan_may (d.get i).l hb
    simp only [opnN, opn1]
    split
    · refine ⟨by simp only []; omega, q.2.2.1, q.2.2.2.1, q.1, by simp only []; omega⟩
    · obtain ⟨h1, h2⟩ := ih
      exact ⟨by omega, h2⟩
theorem RO.setc {N : Nat} {w : World} {V : Value} {xs : List Rw} (h : RO N w V xs) {g : Nat} {C : Array Value} {t : TypeId} (hx : BX w g C t) (h1 : 71 ≠ t) (h2 : 5 ≠ t) (i : Nat) (v : Value) : RO N (w.setCell ⟨g, i, none⟩ v) V xs :=
  ⟨h.1.set (h.1.off hx h1) i v, fun x hh => ⟨(h.2 x hh).1.setc ((h.2 x hh).1.offt hx h2) i v, (h.2 x hh).2⟩⟩
theorem Own.sp {N : Nat} {X X' : Nat → Prop} {w w' : World} {v : Value} {l : List Int} (h : Own N w v l) (s : Sp X X' w w') (hn : ∀ b, v.ownBlock = some b → ¬ X b) : Own N w' v l := Own.rows.2 ((Own.rows.1 h).sp s hn)
/-- Records of the call's own are none of an elder disk's. -/
theorem RO.sp {N g jb M : Nat} {w w' : World} {va vb : Value} {d : Dk} {V : Value} {xs : List Rw} {X' : Nat → Prop} {s t : Int} {k : Bool} (h : RO M w V xs) (hp : PD N g w va vb d) (hx : ∀ b, Xs g va vb b → b < M) (hj : BJ w jb g s t k) (sp : Sp (XJ g va vb jb) X' w w') : RO M w' V xs := by
  refine ⟨h.1.sp sp fun b hb hq => ?_, fun x hh => ⟨(h.2 x hh).1.sp sp fun b hb hq => ?_, (h.2 x hh).2⟩⟩
  · rcases hq with q | rfl
    · have := (World.ownsRow.lt h.1 b hb).1
      have := hx b q
      omega
    · exact h.1.off hj (by decide) hb
  · rcases hq with q | rfl
    · have := ((h.2 x hh).1.lt b hb).1
      have := hx b q
      omega
    · exact (h.2 x hh).1.offt hj (by decide) hb
/-- What Open tells, and leaves. -/
def OPost (N g : Nat) (va vb : Value) (d : Dk) (w : World) (e : Ending) (w' : World) : Prop :=
  ((opn d).2.2.2 = false ∧ ∃ V xs, e = .returned (.tuple #[.pointer (some ⟨w.heap.size, 0, none⟩), V, .int .i64 0]) ∧ RO w.heap.size w' V xs ∧ xs.map Rw.rc = (opn d).2.2.1 ∧ PD N g w' va vb d ∧ BJ w' w.heap.size g (opn d).1 (opn d).2.1 false ∧ Below w.heap.size w w') ∨
  ((opn d).2.2.2 = true ∧ (renJ d (opn d).1 (opn d).2.1 (opn d).2.2.1).1 ≠ 0 ∧ e = .returned (.tuple #[.pointer none, .slice none 0 0, .int .i64 (renJ d (opn d).1 (opn d).2.1 (opn d).2.2.1).1]) ∧ Below N w w' ∧ ∃ X', Sp (Xs g va vb) X' w w') ∨
  ((opn d).2.2.2 = true ∧ (renJ d (opn d).1 (opn d).2.1 (opn d).2.2.1).1 = 0 ∧ ∃ V xs va' vb', e = .returned (.tuple #[.pointer (some ⟨w.heap.size, 0, none⟩), V, .int .i64 0]) ∧ RO w.heap.size w' V xs ∧ xs.map Rw.rc = (opn d).2.2.1 ∧ PD N g w' va' vb' (renJ d (opn d).1 (opn d).2.1 (opn d).2.2.1).2.1 ∧ BJ w' w.heap.size g (renJ d (opn d).1 (opn d).2.1 (opn d).2.2.1).2.2.1 (renJ d (opn d).1 (opn d).2.1 (opn d).2.2.1).2.2.2 false ∧ Sp (Xs g va vb) (XJ g va' vb' w.heap.size) w w' ∧ Below N w w')
theorem opn1_yes {st : Int × Int × List Rc × Bool} {i : Int} {l : List Int} (h : (scanRs l).1 > st.2.1) : opn1 st i l = (i, (scanRs l).1, (scanRs l).2.1, decide ((scanRs l).2.2 < l.length)) := if_pos h
theorem opn1_no {st : Int × Int × List Rc × Bool} {i : Int} {l : List Int} (h : ¬ (scanRs l).1 > st.2.1) : opn1 st i l = st := if_neg h
set_option maxHeartbeats 8000000 in
theorem Open_any {N g : Nat} {va vb : Value} {d : Dk} (w : World) (h : PD N g w va vb d) (hs : d.stop = -1) (h1 : d.a.l.length ≤ 400000) (h2 : d.b.l.length ≤ 400000) :
    Calls Try.prog 11 #[.pointer (some ⟨g, 0, none⟩)] w (OPost N g va vb d w) := by
  have HP := hide h
  have HS := hide hs
  have HXS := hide h.xs
  have HLE := hide h.le
  have HG := hide (opnN_good d h.ok)
  have HLEN : Hid (∀ i : Int, (d.get i).l.length ≤ 400000) := by
    intro i
    unfold Dk.get
    split <;> assumption
  have HBY : Hid (∀ i : Int, By (d.get i).l) := by
    intro i
    unfold Dk.get
    split
    · exact h.ok.1.1
    · exact h.ok.2.1.1
  clear h hs h1 h2
  go_enter Try.func11, Try.ntmps11
  go_wp2
  have HB0 := hide (bel1 w (.cells #[.pointer (some ⟨g, 0, none⟩), .int .i64 1, .int .i64 0, .bool false] 62))
  have HJ0 : Hid (BJ (w.alloc (.cells #[.pointer (some ⟨g, 0, none⟩), .int .i64 1, .int .i64 0, .bool false] 62)) w.heap.size g 1 0 false) := BX.new w _ rfl _ _
  generalize w.alloc (.cells #[.pointer (some ⟨g, 0, none⟩), .int .i64 1, .int .i64 0, .bool false] 62) = w0 at *
  go_loopw [6, 7, 20] (fun V tn i wr => ∃ (k : Nat) (xs : List Rw), k ≤ 2 ∧ i = .int .i64 k ∧ tn = .bool (opnN d k).2.2.2 ∧ Hid (RO w.heap.size wr V xs) ∧ Hid (xs.map Rw.rc = (opnN d k).2.2.1) ∧ Hid (BJ wr w.heap.size g (opnN d k).1 (opnN d k).2.1 false) ∧ Hid (Below w.heap.size w wr)) (fun _ _ i _ => 2 - (intOf i).toNat)
  case atStart => exact ⟨0, [], by omega, rfl, rfl, RO.nil _ _, (show _ = _ from rfl), HJ0, HB0⟩
  case round =>
    clear HJ0 HB0
    obtain ⟨k, xs, hk, rfl, rfl, HR, HX, HJ, HB⟩ := hrel
    by_cases hlt : k < 2
    · have hk2 : (k : Int) < 2 := by omega
      have hk01 : (k : Int) = 0 ∨ (k : Int) = 1 := by omega
      have HGK := hide (HG.out k)
      have HN1 : Hid (opnN d (k + 1) = opn1 (opnN d k) k (d.get k).l) := rfl
      have HLK := hide (HLEN.out k)
      have HBK := hide (HBY.out k)
      have HRD := hide (Read_any (k : Int) wr (HP.out.below HB.out) (by have := HS.out; omega) hk01)
      have hK := hide hk01
      generalize opnN d k = st at *
      generalize (d.get k).l = L at *
      obtain ⟨s0, t0, r0, b0⟩ := st
      simp only [] at HX HJ HGK ⊢
      obtain ⟨pV, cV, rfl, _, _⟩ := HR.out.1.open encW_len
      generalize hnx : xs.length = nx at *
      clear hk01 hnx
      go_wp2_with fail
      refine HRD.out.mono ?_
      rintro e w1 ⟨v, rfl, ho, hb⟩
      obtain ⟨p1, c1, rfl, hb1, hc1⟩ := ho.open HBK.out
      have B1 := hide hb1
      have C1 := hide hc1
      replace HR := hide (HR.out.below hb)
      replace HJ := hide (HJ.out.below hb)
      replace HB := hide (bel_next HB.out hb)
      clear ho hb hb1 hc1 HRD
      have HW := hide (whole_any p1 _ c1 L w1 B1.out C1.out HLK.out)
      generalize hnl : L.length = nl at *
      have HNL := hide hnl
      clear hnl
      go_wp2_with fail
      refine HW.out.mono ?_
      rintro e w2 ⟨V2, xs2, rfl, hr, hx, hb⟩
      have R2 := hide (hr.mono HB.out.size)
      have X2 := hide hx
      replace HR := hide (HR.out.below hb)
      replace HJ := hide (HJ.out.below hb)
      replace HB := hide (bel_next HB.out hb)
      clear hr hx hb HW
      have hy := fun q => opn1_yes (st := (s0, t0, r0, b0)) (i := (k : Int)) (l := L) q
      have hn := fun q => opn1_no (st := (s0, t0, r0, b0)) (i := (k : Int)) (l := L) q
      generalize scanRs L = sc at *
      obtain ⟨t2, r2, m2⟩ := sc
      simp only [] at hy hn X2 ⊢
      have j2 := HJ.out.cell 2 _ rfl
      by_cases hgt : t2 > t0
      · have HE : Hid (opnN d (k + 1) = ((k : Int), t2, r2, decide (m2 < nl))) := by
          unfold Hid
          rw [HN1.out, hy hgt, HNL.out]
        have j1 := HJ.out.cell 1 _ rfl
        have f1 := HJ.out.free 1
        have f2 := HJ.out.free 2
        have J3 : Hid (BJ ((w2.setCell ⟨w.heap.size, 1, none⟩ (.int .i64 (k : Int))).setCell ⟨w.heap.size, 2, none⟩ (.int .i64 t2)) w.heap.size g k t2 false) := (HJ.out.set 1 _).set 2 _
        have R3 := hide ((R2.out.setc HJ.out (by decide) (by decide) 1 (.int .i64 (k : Int))).setc (HJ.out.set 1 _) (by decide) (by decide) 2 (.int .i64 t2))
        have B3 := hide ((HB.out.setCell (p := ⟨w.heap.size, 1, none⟩) (Nat.le_refl _) (.int .i64 (k : Int))).setCell (p := ⟨w.heap.size, 2, none⟩) (Nat.le_refl _) (.int .i64 t2))
        clear hy hn
        by_cases hm : m2 < nl
        · have hm' : (m2 : Int) < (nl : Int) := by omega
          have hmd : decide (m2 < nl) = true := by simpa using hm
          rw [hmd] at HE
          go_wp2
          go_roundw
          case rel => exact ⟨k + 1, xs2, by omega, by go_num, by rw [HE.out], R3, (show _ = _ by rw [HE.out]; exact X2.out), (show BJ _ _ _ _ _ _ by rw [HE.out]; exact J3.out), B3⟩
          case measure => simp [intOf]; omega
        · have hm' : ¬ (m2 : Int) < (nl : Int) := by omega
          have hmd : decide (m2 < nl) = false := by simpa using hm
          rw [hmd] at HE
          go_wp2
          go_roundw
          case rel => exact ⟨k + 1, xs2, by omega, by go_num, by rw [HE.out], R3, (show _ = _ by rw [HE.out]; exact X2.out), (show BJ _ _ _ _ _ _ by rw [HE.out]; exact J3.out), B3⟩
          case measure => simp [intOf]; omega
      · have HE : Hid (opnN d (k + 1) = (s0, t0, r0, b0)) := by
          unfold Hid
          rw [HN1.out, hn hgt]
        clear hy hn
        go_wp2
        go_roundw
        case rel => exact ⟨k + 1, xs, by omega, by go_num, by rw [HE.out], HR, (show _ = _ by rw [HE.out]; exact HX.out), (show BJ _ _ _ _ _ _ by rw [HE.out]; exact HJ.out), HB⟩
        case measure => simp [intOf]; omega
    · obtain rfl : k = 2 := by omega
      have HGK := hide (HG.out 2)
      obtain ⟨pV, cV, rfl, hrc, hcp⟩ := HR.out.rc
      rw [HX.out] at hrc
      have HRC := hide hrc
      have HCP := hide hcp
      have P2 := hide (HP.out.below HB.out)
      have HO : Hid (∀ e w', ((opn d).2.2.2 = false ∧ ∃ V xs, e = .returned (.tuple #[.pointer (some ⟨w.heap.size, 0, none⟩), V, .int .i64 0]) ∧ RO w.heap.size w' V xs ∧ xs.map Rw.rc = (opn d).2.2.1 ∧ PD N g w' va vb d ∧ BJ w' w.heap.size g (opn d).1 (opn d).2.1 false ∧ Below w.heap.size w w') ∨
        ((opn d).2.2.2 = true ∧ (renJ d (opn d).1 (opn d).2.1 (opn d).2.2.1).1 ≠ 0 ∧ e = .returned (.tuple #[.pointer none, .slice none 0 0, .int .i64 (renJ d (opn d).1 (opn d).2.1 (opn d).2.2.1).1]) ∧ Below N w w' ∧ ∃ X', Sp (Xs g va vb) X' w w') ∨
        ((opn d).2.2.2 = true ∧ (renJ d (opn d).1 (opn d).2.1 (opn d).2.2.1).1 = 0 ∧ ∃ V xs va' vb', e = .returned (.tuple #[.pointer (some ⟨w.heap.size, 0, none⟩), V, .int .i64 0]) ∧ RO w.heap.size w' V xs ∧ xs.map Rw.rc = (opn d).2.2.1 ∧ PD N g w' va' vb' (renJ d (opn d).1 (opn d).2.1 (opn d).2.2.1).2.1 ∧ BJ w' w.heap.size g (renJ d (opn d).1 (opn d).2.1 (opn d).2.2.1).2.2.1 (renJ d (opn d).1 (opn d).2.1 (opn d).2.2.1).2.2.2 false ∧ Sp (Xs g va vb) (XJ g va' vb' w.heap.size) w w' ∧ Below N w w') → OPost N g va vb d w e w') := fun _ _ h => h
      clear hrc hcp hk hlt
      unfold opn at HO
      generalize opnN d 2 = st at *
      obtain ⟨s0, t0, r0, b0⟩ := st
      simp only [] at HX HJ HGK HRC HO ⊢
      generalize hnx : xs.length = nx at *
      clear hnx
      rcases b0 with _ | _
      · go_wp2
        refine bodyPost_ret (results_tmp3 rfl _ _ _) rfl ?_
        exact HO.out _ _ (.inl ⟨by trivial, _, xs, rfl, HR.out, HX.out, P2.out, HJ.out, HB.out⟩)
      · have K := hide (Renew_any pV nx cV r0 wr P2.out HS.out HJ.out HLE.out (by have := HGK.out.1; omega) HGK.out.2.1 HGK.out.2.2.1 HRC.out HCP.out (by have := HGK.out.2.2.2.2; omega))
        go_wp2_with fail
        refine K.out.mono ?_
        rintro e w5 ⟨va5, vb5, rfl, q1, q2, q3, q4⟩
        have R5 := hide (HR.out.sp P2.out HXS.out HJ.out q3)
        have P5 := hide q1
        have J5 := hide q2
        have L5 := hide ((HB.out.mono HLE.out).trans q4)
        have S5 : Hid (Sp (Xs g va vb) (XJ g va5 vb5 w.heap.size) w w5) := by
          have q := (Sp.below (X := XJ g va vb w.heap.size) HB.out).trans q3
          exact ⟨fun j hj hn => q.1 j hj (fun hx => hx.elim hn (fun e => by omega)), fun b hb => (q.2.1 b hb).elim (fun hx => hx.imp id (fun e => by omega)) .inr, q.2.2⟩
        clear q1 q2 q3 q4 K
        generalize renJ d s0 t0 r0 = rr at *
        obtain ⟨er, d5, s5, t5⟩ := rr
        simp only [] at P5 J5 HO ⊢
        by_cases he : er = 0
        · subst he
          go_wp2
          refine bodyPost_ret (results_tmp3 rfl _ _ _) rfl ?_
          exact HO.out _ _ (.inr (.inr ⟨by trivial, by trivial, _, xs, va5, vb5, rfl, R5.out, HX.out, P5.out, J5.out, S5.out, L5.out⟩))
        · have he' : (er != 0) = true := by simpa using he
          have HER := hide he
          clear he
          go_wp2
          refine bodyPost_ret (results_tmp3 rfl _ _ _) rfl ?_
          exact HO.out _ _ (.inr (.inl ⟨by trivial, HER.out, rfl, L5.out, _, S5.out⟩))
end Go.Proofs.Ytofalfaiamaapaa
