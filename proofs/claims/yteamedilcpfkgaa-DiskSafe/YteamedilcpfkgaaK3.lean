/- The document's disk: what a crash makes of it. -/
import Derived.Test.YteamedilcpfkgaaK3a
import Derived.Deep.CutBlock
import Derived.Deep.CutRange
namespace Go.Proofs.Yteamedilcpfkgaa
open Go.RowKit
set_option linter.unusedVariables false
section
variable {X : Nat → Prop}
def crK (d : Dk) (ks : List Int) : Nat → Dk
  | 0 => d
  | k + 1 => (crK d ks k).set k (((crK d ks k).get k).crash ks[k]?)
theorem Dk.get_ok {d : Dk} (h : d.ok) (i : Int) : (d.get i).ok := by
  unfold Dk.get
  split
  · exact h.1
  · exact h.2.1
theorem crK_ok {d : Dk} (h : d.ok) (ks : List Int) : ∀ k, (crK d ks k).ok
  | 0 => h
  | k + 1 => by
    have ih := crK_ok h ks k
    show ((crK d ks k).set k (((crK d ks k).get k).crash ks[k]?)).ok
    generalize crK d ks k = e at *
    obtain ⟨h1, h2, h3, h4, h5⟩ := ih
    have a1 := Sl.crash_ok h1 ks[k]?
    have a2 := Sl.crash_ok h2 ks[k]?
    unfold Dk.set Dk.get
    split
    · refine ⟨a1.1, h2, ?_, h4, h5⟩
      unfold Dk.left at *
      simp only []
      omega
    · refine ⟨h1, a2.1, ?_, h4, h5⟩
      unfold Dk.left at *
      simp only []
      omega
theorem crK_two (d : Dk) (ks : List Int) : { (crK d ks 2) with dead := false, stop := -1 } = d.crash ks := by
  simp [crK, Dk.set, Dk.get, Dk.crash]
theorem KP.alloc {g : Nat} {u W : World} (h : KP g u W) (o : Obj) : KP g u (W.alloc o) := h.next (bel1 W o)
/-- What stands behind k slots. -/
def CrS (X : Nat → Prop) (w : World) (d : Dk) (ks : List Int) (k : Nat) (wr : World) : Prop := ∃ C, BX wr w.heap.size C 33 ∧ RD X wr (.agg C) (crK d ks k) ∧ BX wr (w.heap.size + 1) #[.slice none 0 0, .int .i64 0, .slice none 0 0, .int .i64 0, .int .i64 0, .int .i64 0, .bool false] 33 ∧ Below w.heap.size w wr
theorem CrS.open {w wr : World} {d : Dk} {ks : List Int} {k : Nat} (h : CrS X w d ks k wr) : ∃ pa ca pb cb, let e := crK d ks k; BX wr w.heap.size #[.slice pa e.a.l.length ca, .int .i64 e.a.s, .slice pb e.b.l.length cb, .int .i64 e.b.s, .int .i64 e.room, .int .i64 e.stop, .bool e.dead] 33 ∧ RD X wr (.agg #[.slice pa e.a.l.length ca, .int .i64 e.a.s, .slice pb e.b.l.length cb, .int .i64 e.b.s, .int .i64 e.room, .int .i64 e.stop, .bool e.dead]) e ∧ BX wr (w.heap.size + 1) #[.slice none 0 0, .int .i64 0, .slice none 0 0, .int .i64 0, .int .i64 0, .int .i64 0, .bool false] 33 ∧ Below w.heap.size w wr := by
  obtain ⟨C, h1, h2, h3, h4⟩ := h
  have h2' := h2
  obtain ⟨pa, ca, pb, cb, hv, _⟩ := h2
  cases hv
  exact ⟨pa, ca, pb, cb, h1, h2', h3, h4⟩
theorem KP.after {g : Nat} {u W W' : World} (hb : Below u.heap.size u W) (h : KP g W W') : KP g u W' := fun p v hp hne => h p v (bcell hb hp) hne
set_option maxHeartbeats 4000000 in
theorem crashR_any (v : Value) (d : Dk) (pk : Option Addr) (nk ck : Nat) (ks : List Int) (w : World) (h : RD X w v d) (hd : d.ok) (hN : NS w pk nk ks) (hX : ∀ b, X b → b < w.heap.size) :
    Calls Try.prog 20 #[v, .slice pk nk ck] w fun x w' => ∃ y, x = .returned y ∧ RD X w' y (d.crash ks) ∧ Below w.heap.size w w' := by
  have HX := hide hX
  clear hX
  have HN := hide hN
  have hnl := hide hN.1
  have hmx := hN.2.1
  unfold maxLen at hmx
  have HO := hide (crK_ok hd ks)
  have HTW := hide (crK_two d ks)
  obtain ⟨pa, ca, pb, cb, rfl, h1, h2, h3, h4⟩ := h
  have HS0 : Hid (∀ W, BX W w.heap.size #[.slice pa d.a.l.length ca, .int .i64 d.a.s, .slice pb d.b.l.length cb, .int .i64 d.b.s, .int .i64 d.room, .int .i64 d.stop, .bool d.dead] 33 → BX W (w.heap.size + 1) #[.slice none 0 0, .int .i64 0, .slice none 0 0, .int .i64 0, .int .i64 0, .int .i64 0, .bool false] 33 → Below w.heap.size w W → CrS X w d ks 0 W) := by
    intro W q1 q2 q3
    exact ⟨_, q1, ⟨pa, ca, pb, cb, rfl, h1.below q3, h2, h3.below q3, h4⟩, q2, q3⟩
  clear hN h1 h3 h2 h4 hd
  go_enter Try.func20, Try.ntmps20
  go_wp2
  go_loopw [5] (fun i wr => ∃ k : Nat, k ≤ 2 ∧ i = .int .i64 k ∧ Hid (CrS X w d ks k wr)) (fun i _ => 2 - (intOf i).toNat)
  case atStart => exact ⟨0, by omega, rfl, HS0.out _ (BX.alloc (BX.new w w.heap.size rfl _ _) _) (BX.new (w.alloc _) (w.heap.size + 1) (by simp) _ _) (bel2 w _ _)⟩
  case round =>
    clear HS0
    obtain ⟨k, hk, rfl, HC⟩ := hrel
    by_cases hlt : k < 2
    · obtain ⟨pa, ca, pb, cb, b1, hR, b2, hB0⟩ := HC.out.open
      clear HC HTW
      have he := HO.out k
      have hel := he.lens
      have HK : Hid (crK d ks (k + 1) = (crK d ks k).set k (((crK d ks k).get k).crash ks[k]?)) := rfl
      have hgl : ((crK d ks k).get k).l.length ≤ 1048576 := by unfold Dk.get; split <;> omega
      clear HO
      generalize crK d ks k = e at *
      have HR := hide hR
      have Hok := hide (Dk.get_ok he k)
      have B0 := hide hB0
      have B1 := hide b1
      have B2 := hide b2
      have c0 := b1.cell 0 _ rfl
      have c1 := b1.cell 1 _ rfl
      have c2 := b1.cell 2 _ rfl
      have c3 := b1.cell 3 _ rfl
      have c4 := b1.cell 4 _ rfl
      have c5 := b1.cell 5 _ rfl
      have c6 := b1.cell 6 _ rfl
      clear hR hB0 b1 b2 he hel
      go_wp2_with fail
      refine (getR_any _ e k _ HR.out).mono ?_
      rintro x w1 ⟨x, rfl, hx, hb⟩
      generalize e.get k = s at *
      obtain ⟨q, cq, rfl, hq, hcq⟩ := hx
      have hsl := Hok.out.2
      have HSO := hide (bel1 w1 (.cells #[.slice q s.l.length cq, .int .i64 s.s] 31))
      have Q := hide (hq.below HSO.out)
      have hz1 : w.heap.size + 1 < w1.heap.size := by have := (B2.out.below hb).size; omega
      replace B1 := hide ((B1.out.below hb).below HSO.out)
      replace B2 := hide ((B2.out.below hb).below HSO.out)
      have B3 := hide (BX.new w1 w1.heap.size rfl #[.slice q s.l.length cq, .int .i64 s.s] 31)
      have HRu := hide ((HR.out.below hb).below HSO.out)
      replace B0 := hide (bel_next (bel_next B0.out hb) HSO.out)
      have HNu := hide (HN.out.below B0.out)
      clear c0 c1 c2 c3 c4 c5 c6 hb hq HR HN HSO
      obtain ⟨f, HF⟩ : ∃ f, Hid (e.set k (s.crash ks[k]?) = f) := ⟨_, rfl⟩
      rw [HF.out] at HK
      have hne1 : w1.heap.size ≠ w.heap.size := by omega
      have e0 := B3.out.cell 0 _ rfl
      have e1 := B3.out.cell 1 _ rfl
      by_cases hkn : k < nk
      · obtain ⟨bk, ok, rfl⟩ : ∃ bk ok, pk = some ⟨bk, ok, none⟩ := by
          rcases HNu.out.2.2 with h0 | ⟨b, o, hh, _⟩
          · omega
          · exact ⟨b, o, hh⟩
        obtain ⟨z, HZ, hz⟩ : ∃ z, Hid (ks[k]? = some z) ∧ (w1.alloc (.cells #[.slice q s.l.length cq, .int .i64 s.s] 31)).cell? ⟨bk, ok + k, none⟩ = some (.int .i64 z) := by
          rcases HNu.out.2.2 with h0 | ⟨b, o, hh, hc⟩
          · omega
          · cases hh
            refine ⟨ks.getD k 0, ?_, hc k hkn⟩
            unfold Hid
            rw [List.getElem?_eq_getElem (by rw [hnl.out]; exact hkn), List.getD_eq_getElem?_getD, List.getElem?_eq_getElem (by rw [hnl.out]; exact hkn)]
            rfl
        have hk0 : (0 : Int) ≤ (k : Int) := by omega
        have hk1 : (k : Int) < (nk : Int) := by omega
        by_cases hz0 : z > 0
        · by_cases hzl : z < (s.l.length : Int) - (s.s : Int)
          · obtain ⟨M, hM⟩ : ∃ M : Nat, (s.s : Int) + z = (M : Int) := ⟨(s.s + z.toNat), by omega⟩
            have hM2 : s.s ≤ M := by omega
            have hM3 : M ≤ s.l.length := by omega
            have HST : Hid (s.stay ks[k]? = M) := by
              unfold Hid Sl.stay; rw [HZ.out]; simp only []; rw [if_pos (by omega), if_pos (by omega)]; omega
            have hNl : M ≤ s.l.length := by omega
            have hNi : (M : Int) ≤ (s.l.length : Int) := by omega
            have hNc : (M : Int) ≤ (cq : Int) := by have := hcq.1; omega
            have hNc2 : M ≤ cq := by have := hcq.1; omega
            have HTL : Hid ((s.l.take M).length = M) := by unfold Hid; rw [List.length_take]; omega
            have HQT : Hid (e.set k ⟨s.l.take M, M⟩ = f) := by
              rw [← HF.out]; unfold Sl.crash; rw [HST.out]; exact rfl
            clear HF
            go_upto_region 8 with fail
            go_region
            go_upto_region 9 with fail
            go_region
            go_upto_region 10 with fail
            replace B1 := hide (B1.out.below ((Below.refl _ _).drew))
            replace B2 := hide (B2.out.below ((Below.refl _ _).drew))
            replace B3 := hide (B3.out.below ((Below.refl _ _).drew))
            replace HRu := hide (HRu.out.below ((Below.refl _ _).drew))
            replace Q := hide (Q.out.below ((Below.refl _ _).drew))
            replace B0 := hide B0.out.drew
            replace B1 := hide (B1.out.below ((Below.refl _ _).drew))
            replace B2 := hide (B2.out.below ((Below.refl _ _).drew))
            replace B3 := hide (B3.out.below ((Below.refl _ _).drew))
            replace HRu := hide (HRu.out.below ((Below.refl _ _).drew))
            replace Q := hide (Q.out.below ((Below.refl _ _).drew))
            replace B0 := hide B0.out.drew
            clear e0 e1 hz HNu
            have e0 := B3.out.cell 0 _ rfl
            have e1 := B3.out.cell 1 _ rfl
            generalize (w1.alloc (.cells #[.slice q s.l.length cq, .int .i64 s.s] 31)).drew.drew = u at *
            refine wp_region_held_drew (S := fun W => KP w.heap.size u W) (by kernel_rfl) ((KP.refl _ u).drew) (fun hS0 => ?_)
            refine takeInH 1 50 ?v1 rfl rfl (by kernel_rfl) (by kernel_rfl) (by kernel_rfl) (fun _ _ _ h => h) (by kernel_rfl) hS0 ?hy1 ?_
            case hy1 => (intro W hW; clear hW; go_simp; try rfl)
            simp only [Act.put, List.setIfInBounds_toArray, List.set_cons_zero, List.set_cons_succ]
            refine takeInH 3 52 ?v2 rfl rfl (by kernel_rfl) (by kernel_rfl) (by kernel_rfl) (fun _ _ _ h => h) (by kernel_rfl) hS0 ?hy2 ?_
            case hy2 => (intro W hW; clear hW; go_simp; try rfl)
            simp only [Act.put, List.setIfInBounds_toArray, List.set_cons_zero, List.set_cons_succ]
            refine takeInH 4 53 ?v3 rfl rfl (by kernel_rfl) (by kernel_rfl) (by kernel_rfl) (fun _ _ _ h => h) (by kernel_rfl) hS0 ?hy3 ?_
            case hy3 => (intro W hW; have e0 := kcell hW e0 hne1; have e1 := kcell hW e1 hne1; clear hW; go_simp; try rfl)
            simp only [Act.put, List.setIfInBounds_toArray, List.set_cons_zero, List.set_cons_succ]
            refine takeInH 5 54 ?v4 rfl rfl (by kernel_rfl) (by kernel_rfl) (by kernel_rfl) (fun _ _ _ h => h) (by kernel_rfl) hS0 ?hy4 ?_
            case hy4 => (intro W hW; clear hW; go_simp; try rfl)
            simp only [Act.put, List.setIfInBounds_toArray, List.set_cons_zero, List.set_cons_succ]
            refine takeInH 6 55 ?v5 rfl rfl (by kernel_rfl) (by kernel_rfl) (by kernel_rfl) (fun _ _ _ h => h) (by kernel_rfl) hS0 ?hy5 ?_
            case hy5 => (intro W hW; skip; clear hW; go_simp; try rfl)
            simp only [Act.put, List.setIfInBounds_toArray, List.set_cons_zero, List.set_cons_succ]
            refine takeInH 8 57 ?v6 rfl rfl (by kernel_rfl) (by kernel_rfl) (by kernel_rfl) (fun _ _ _ h => h) (by kernel_rfl) hS0 ?hy6 ?_
            case hy6 => (intro W hW; clear hW; go_simp; try rfl)
            simp only [Act.put, List.setIfInBounds_toArray, List.set_cons_zero, List.set_cons_succ]
            refine wpAnyH_ready (rs := [0, 2]) (by kernel_rfl) (by simp) ?_
            refine AllReadyH.cons rfl (fun K hK => ?_) (AllReadyH.cons rfl (fun K hK => ?_) AllReadyH.nil)
            · have b1w := B1.out
              have c0 := b1w.cell 0 _ rfl
              have c1 := b1w.cell 1 _ rfl
              have c2 := b1w.cell 2 _ rfl
              have c3 := b1w.cell 3 _ rfl
              have c4 := b1w.cell 4 _ rfl
              have c5 := b1w.cell 5 _ rfl
              have c6 := b1w.cell 6 _ rfl
              go_simp
              clear c0 c1 c2 c3 c4 c5 c6 b1w
              go_simp
              refine hK.out _ _ ?hs7 (fun hS1 => ?_)
              case hs7 => exact hS0
              clear hK K
              try simp only [Act.put, List.setIfInBounds_toArray, List.set_cons_zero, List.set_cons_succ]
              refine wpAnyH_ready (rs := [2]) (by kernel_rfl) (by simp) ?_
              refine AllReadyH.cons rfl (fun K hK => ?_) AllReadyH.nil
              go_simp
              have OW := hide (Own.made u u.heap.size u.heap.size rfl (Nat.le_refl _)).drew
              have BL : Hid (Below u.heap.size u (u.alloc (.cells #[] 5)).drew) := ((Below.refl _ u).alloc (Nat.le_refl _) _).drew
              have KW : KP w.heap.size u (u.alloc (.cells #[] 5)).drew := ((KP.refl _ u).alloc (.cells #[] 5)).drew
              generalize (u.alloc (.cells #[] 5)).drew = wA at *
              refine hK.out _ _ ?hs8 (fun hS2 => ?_)
              case hs8 => exact KW
              clear hK K
              try simp only [Act.put, List.setIfInBounds_toArray, List.set_cons_zero, List.set_cons_succ]
              refine wpAnyH_ready (rs := [7]) (by kernel_rfl) (by simp) ?_
              refine AllReadyH.cons rfl (fun K hK => ?_) AllReadyH.nil
              rw [if_pos (by kernel_rfl)]
              refine append_bw _ _ rfl u.heap.size _ [] (s.l.take M) rfl OW.out q M cq rfl hcq.2.2 ((Q.out.1.below BL.out).head M (by omega)) (by rw [List.length_take]; simp; omega) BL.out.size ?_
              intro v1 wB ho hgr hbel
              rw [List.nil_append] at ho
              obtain ⟨p1, c1, rfl, hbs, hcp1⟩ := ho.open (By.take Q.out.1.2.2.1 M)
              have BS1 := hide hbs
              have OFF := hide (ho.off (X := X) (fun b hb => Nat.lt_of_lt_of_le (HX.out b hb) B0.out.size))
              replace BL := hide (hbel _ BL.out)
              have KW : KP w.heap.size u wB := (KP.refl _ u).next BL.out
              clear OW hbs ho hgr hbel
              change K (Act.put _ (some 56) _) _
              refine hK.out _ _ ?hs9 (fun hS3 => ?_)
              case hs9 => exact KW
              clear hK K
              try simp only [Act.put, List.setIfInBounds_toArray, List.set_cons_zero, List.set_cons_succ]
              refine takeInH 9 58 ?v10 rfl rfl (by kernel_rfl) (by kernel_rfl) (by kernel_rfl) (fun _ _ _ h => h) (by kernel_rfl) hS3 ?hy10 ?_
              case hy10 => (intro W hW; clear hW; go_simp; try rfl)
              simp only [Act.put, List.setIfInBounds_toArray, List.set_cons_zero, List.set_cons_succ]
              refine wpAnyH_ready (rs := [10]) (by kernel_rfl) (by simp) ?_
              refine AllReadyH.cons rfl (fun K hK => ?_) AllReadyH.nil
              go_simp
              refine (setR_any _ e k _ ⟨s.l.take M, M⟩ _ (HRu.out.below BL.out) ⟨p1, c1, by rw [HTL.out], ⟨BS1.out, OFF.out⟩, hcp1⟩).mono ?_
              rintro x wC ⟨y, rfl, hy, hb⟩
              rw [HQT.out] at hy
              replace BL := hide (bel_next BL.out hb)
              have HY := hide hy
              obtain ⟨pa2, ca2, pb2, cb2, rfl, _⟩ := hy
              have KW : KP w.heap.size u wC := (KP.refl _ u).next BL.out
              clear hb BS1
              try go_wp2_with fail
              refine hK.out _ _ ?hs11 (fun hS4 => ?_)
              case hs11 => exact KW
              clear hK K
              try simp only [Act.put, List.setIfInBounds_toArray, List.set_cons_zero, List.set_cons_succ]
              refine wpAnyH_ready (rs := [11]) (by kernel_rfl) (by simp) ?_
              refine AllReadyH.cons rfl (fun K hK => ?_) AllReadyH.nil
              have b1w := B1.out.below BL.out
              have c0 := b1w.cell 0 _ rfl
              have c1 := b1w.cell 1 _ rfl
              have c2 := b1w.cell 2 _ rfl
              have c3 := b1w.cell 3 _ rfl
              have c4 := b1w.cell 4 _ rfl
              have c5 := b1w.cell 5 _ rfl
              have c6 := b1w.cell 6 _ rfl
              have hfr := fun j => b1w.free j
              have B1w := hide b1w
              clear b1w
              go_simp
              clear c0 c1 c2 c3 c4 c5 c6 hfr
              obtain ⟨r1, r2, r3, r4⟩ := B1w.out.put7 (.slice pa2 f.a.l.length ca2) (.int .i64 f.a.s) (.slice pb2 f.b.l.length cb2) (.int .i64 f.b.s) (.int .i64 f.room) (.int .i64 f.stop) (.bool f.dead)
              have KW := KP.after BL.out r2
              have HC2 : Hid (CrS X w d ks (k + 1) _) := ⟨_, r1, by rw [HK.out]; exact HY.out.kp r2 B1w.out (NoB.disk _ _ _ _ _ _ _ _ _ _ _), r4 _ _ _ (B2.out.below BL.out) (by omega), r3 _ _ (bel_next B0.out BL.out) (Nat.le_refl _)⟩
              clear r1 r2 r3 r4
              go_simp
              refine hK.out _ _ ?hs12 (fun hS5 => ?_)
              case hs12 => exact KW
              clear hK K
              try simp only [Act.put, List.setIfInBounds_toArray, List.set_cons_zero, List.set_cons_succ]
              refine wpAnyH_done (by kernel_rfl) ?_ _
              go_wp2
              go_roundw
              case rel => exact ⟨k + 1, by omega, by go_num, HC2⟩
              case measure => simp [intOf]; omega
            · go_simp
              have OW := hide (Own.made u u.heap.size u.heap.size rfl (Nat.le_refl _)).drew
              have BL : Hid (Below u.heap.size u (u.alloc (.cells #[] 5)).drew) := ((Below.refl _ u).alloc (Nat.le_refl _) _).drew
              have KW : KP w.heap.size u (u.alloc (.cells #[] 5)).drew := ((KP.refl _ u).alloc (.cells #[] 5)).drew
              generalize (u.alloc (.cells #[] 5)).drew = wA at *
              refine hK.out _ _ ?hs13 (fun hS1 => ?_)
              case hs13 => exact KW
              clear hK K
              try simp only [Act.put, List.setIfInBounds_toArray, List.set_cons_zero, List.set_cons_succ]
              refine wpAnyH_ready (rs := [0, 7]) (by kernel_rfl) (by simp) ?_
              refine AllReadyH.cons rfl (fun K hK => ?_) (AllReadyH.cons rfl (fun K hK => ?_) AllReadyH.nil)
              · have b1w := B1.out.below BL.out
                have c0 := b1w.cell 0 _ rfl
                have c1 := b1w.cell 1 _ rfl
                have c2 := b1w.cell 2 _ rfl
                have c3 := b1w.cell 3 _ rfl
                have c4 := b1w.cell 4 _ rfl
                have c5 := b1w.cell 5 _ rfl
                have c6 := b1w.cell 6 _ rfl
                go_simp
                clear c0 c1 c2 c3 c4 c5 c6 b1w
                go_simp
                refine hK.out _ _ ?hs14 (fun hS2 => ?_)
                case hs14 => exact hS1
                clear hK K
                try simp only [Act.put, List.setIfInBounds_toArray, List.set_cons_zero, List.set_cons_succ]
                refine wpAnyH_ready (rs := [7]) (by kernel_rfl) (by simp) ?_
                refine AllReadyH.cons rfl (fun K hK => ?_) AllReadyH.nil
                rw [if_pos (by kernel_rfl)]
                refine append_bw _ _ rfl u.heap.size _ [] (s.l.take M) rfl OW.out q M cq rfl hcq.2.2 ((Q.out.1.below BL.out).head M (by omega)) (by rw [List.length_take]; simp; omega) BL.out.size ?_
                intro v1 wB ho hgr hbel
                rw [List.nil_append] at ho
                obtain ⟨p1, c1, rfl, hbs, hcp1⟩ := ho.open (By.take Q.out.1.2.2.1 M)
                have BS1 := hide hbs
                have OFF := hide (ho.off (X := X) (fun b hb => Nat.lt_of_lt_of_le (HX.out b hb) B0.out.size))
                replace BL := hide (hbel _ BL.out)
                have KW : KP w.heap.size u wB := (KP.refl _ u).next BL.out
                clear OW hbs ho hgr hbel
                change K (Act.put _ (some 56) _) _
                refine hK.out _ _ ?hs15 (fun hS3 => ?_)
                case hs15 => exact KW
                clear hK K
                try simp only [Act.put, List.setIfInBounds_toArray, List.set_cons_zero, List.set_cons_succ]
                refine takeInH 9 58 ?v16 rfl rfl (by kernel_rfl) (by kernel_rfl) (by kernel_rfl) (fun _ _ _ h => h) (by kernel_rfl) hS3 ?hy16 ?_
                case hy16 => (intro W hW; clear hW; go_simp; try rfl)
                simp only [Act.put, List.setIfInBounds_toArray, List.set_cons_zero, List.set_cons_succ]
                refine wpAnyH_ready (rs := [10]) (by kernel_rfl) (by simp) ?_
                refine AllReadyH.cons rfl (fun K hK => ?_) AllReadyH.nil
                go_simp
                refine (setR_any _ e k _ ⟨s.l.take M, M⟩ _ (HRu.out.below BL.out) ⟨p1, c1, by rw [HTL.out], ⟨BS1.out, OFF.out⟩, hcp1⟩).mono ?_
                rintro x wC ⟨y, rfl, hy, hb⟩
                rw [HQT.out] at hy
                replace BL := hide (bel_next BL.out hb)
                have HY := hide hy
                obtain ⟨pa2, ca2, pb2, cb2, rfl, _⟩ := hy
                have KW : KP w.heap.size u wC := (KP.refl _ u).next BL.out
                clear hb BS1
                try go_wp2_with fail
                refine hK.out _ _ ?hs17 (fun hS4 => ?_)
                case hs17 => exact KW
                clear hK K
                try simp only [Act.put, List.setIfInBounds_toArray, List.set_cons_zero, List.set_cons_succ]
                refine wpAnyH_ready (rs := [11]) (by kernel_rfl) (by simp) ?_
                refine AllReadyH.cons rfl (fun K hK => ?_) AllReadyH.nil
                have b1w := B1.out.below BL.out
                have c0 := b1w.cell 0 _ rfl
                have c1 := b1w.cell 1 _ rfl
                have c2 := b1w.cell 2 _ rfl
                have c3 := b1w.cell 3 _ rfl
                have c4 := b1w.cell 4 _ rfl
                have c5 := b1w.cell 5 _ rfl
                have c6 := b1w.cell 6 _ rfl
                have hfr := fun j => b1w.free j
                have B1w := hide b1w
                clear b1w
                go_simp
                clear c0 c1 c2 c3 c4 c5 c6 hfr
                obtain ⟨r1, r2, r3, r4⟩ := B1w.out.put7 (.slice pa2 f.a.l.length ca2) (.int .i64 f.a.s) (.slice pb2 f.b.l.length cb2) (.int .i64 f.b.s) (.int .i64 f.room) (.int .i64 f.stop) (.bool f.dead)
                have KW := KP.after BL.out r2
                have HC2 : Hid (CrS X w d ks (k + 1) _) := ⟨_, r1, by rw [HK.out]; exact HY.out.kp r2 B1w.out (NoB.disk _ _ _ _ _ _ _ _ _ _ _), r4 _ _ _ (B2.out.below BL.out) (by omega), r3 _ _ (bel_next B0.out BL.out) (Nat.le_refl _)⟩
                clear r1 r2 r3 r4
                go_simp
                refine hK.out _ _ ?hs18 (fun hS5 => ?_)
                case hs18 => exact KW
                clear hK K
                try simp only [Act.put, List.setIfInBounds_toArray, List.set_cons_zero, List.set_cons_succ]
                refine wpAnyH_done (by kernel_rfl) ?_ _
                go_wp2
                go_roundw
                case rel => exact ⟨k + 1, by omega, by go_num, HC2⟩
                case measure => simp [intOf]; omega
              · rw [if_pos (by kernel_rfl)]
                refine append_bw _ _ rfl u.heap.size _ [] (s.l.take M) rfl OW.out q M cq rfl hcq.2.2 ((Q.out.1.below BL.out).head M (by omega)) (by rw [List.length_take]; simp; omega) BL.out.size ?_
                intro v1 wB ho hgr hbel
                rw [List.nil_append] at ho
                obtain ⟨p1, c1, rfl, hbs, hcp1⟩ := ho.open (By.take Q.out.1.2.2.1 M)
                have BS1 := hide hbs
                have OFF := hide (ho.off (X := X) (fun b hb => Nat.lt_of_lt_of_le (HX.out b hb) B0.out.size))
                replace BL := hide (hbel _ BL.out)
                have KW : KP w.heap.size u wB := (KP.refl _ u).next BL.out
                clear OW hbs ho hgr hbel
                change K (Act.put _ (some 56) _) _
                refine hK.out _ _ ?hs19 (fun hS2 => ?_)
                case hs19 => exact KW
                clear hK K
                try simp only [Act.put, List.setIfInBounds_toArray, List.set_cons_zero, List.set_cons_succ]
                refine takeInH 9 58 ?v20 rfl rfl (by kernel_rfl) (by kernel_rfl) (by kernel_rfl) (fun _ _ _ h => h) (by kernel_rfl) hS2 ?hy20 ?_
                case hy20 => (intro W hW; clear hW; go_simp; try rfl)
                simp only [Act.put, List.setIfInBounds_toArray, List.set_cons_zero, List.set_cons_succ]
                refine wpAnyH_ready (rs := [0]) (by kernel_rfl) (by simp) ?_
                refine AllReadyH.cons rfl (fun K hK => ?_) AllReadyH.nil
                have b1w := B1.out.below BL.out
                have c0 := b1w.cell 0 _ rfl
                have c1 := b1w.cell 1 _ rfl
                have c2 := b1w.cell 2 _ rfl
                have c3 := b1w.cell 3 _ rfl
                have c4 := b1w.cell 4 _ rfl
                have c5 := b1w.cell 5 _ rfl
                have c6 := b1w.cell 6 _ rfl
                go_simp
                clear c0 c1 c2 c3 c4 c5 c6 b1w
                go_simp
                refine hK.out _ _ ?hs21 (fun hS3 => ?_)
                case hs21 => exact hS2
                clear hK K
                try simp only [Act.put, List.setIfInBounds_toArray, List.set_cons_zero, List.set_cons_succ]
                refine wpAnyH_ready (rs := [10]) (by kernel_rfl) (by simp) ?_
                refine AllReadyH.cons rfl (fun K hK => ?_) AllReadyH.nil
                go_simp
                refine (setR_any _ e k _ ⟨s.l.take M, M⟩ _ (HRu.out.below BL.out) ⟨p1, c1, by rw [HTL.out], ⟨BS1.out, OFF.out⟩, hcp1⟩).mono ?_
                rintro x wC ⟨y, rfl, hy, hb⟩
                rw [HQT.out] at hy
                replace BL := hide (bel_next BL.out hb)
                have HY := hide hy
                obtain ⟨pa2, ca2, pb2, cb2, rfl, _⟩ := hy
                have KW : KP w.heap.size u wC := (KP.refl _ u).next BL.out
                clear hb BS1
                try go_wp2_with fail
                refine hK.out _ _ ?hs22 (fun hS4 => ?_)
                case hs22 => exact KW
                clear hK K
                try simp only [Act.put, List.setIfInBounds_toArray, List.set_cons_zero, List.set_cons_succ]
                refine wpAnyH_ready (rs := [11]) (by kernel_rfl) (by simp) ?_
                refine AllReadyH.cons rfl (fun K hK => ?_) AllReadyH.nil
                have b1w := B1.out.below BL.out
                have c0 := b1w.cell 0 _ rfl
                have c1 := b1w.cell 1 _ rfl
                have c2 := b1w.cell 2 _ rfl
                have c3 := b1w.cell 3 _ rfl
                have c4 := b1w.cell 4 _ rfl
                have c5 := b1w.cell 5 _ rfl
                have c6 := b1w.cell 6 _ rfl
                have hfr := fun j => b1w.free j
                have B1w := hide b1w
                clear b1w
                go_simp
                clear c0 c1 c2 c3 c4 c5 c6 hfr
                obtain ⟨r1, r2, r3, r4⟩ := B1w.out.put7 (.slice pa2 f.a.l.length ca2) (.int .i64 f.a.s) (.slice pb2 f.b.l.length cb2) (.int .i64 f.b.s) (.int .i64 f.room) (.int .i64 f.stop) (.bool f.dead)
                have KW := KP.after BL.out r2
                have HC2 : Hid (CrS X w d ks (k + 1) _) := ⟨_, r1, by rw [HK.out]; exact HY.out.kp r2 B1w.out (NoB.disk _ _ _ _ _ _ _ _ _ _ _), r4 _ _ _ (B2.out.below BL.out) (by omega), r3 _ _ (bel_next B0.out BL.out) (Nat.le_refl _)⟩
                clear r1 r2 r3 r4
                go_simp
                refine hK.out _ _ ?hs23 (fun hS5 => ?_)
                case hs23 => exact KW
                clear hK K
                try simp only [Act.put, List.setIfInBounds_toArray, List.set_cons_zero, List.set_cons_succ]
                refine wpAnyH_done (by kernel_rfl) ?_ _
                go_wp2
                go_roundw
                case rel => exact ⟨k + 1, by omega, by go_num, HC2⟩
                case measure => simp [intOf]; omega
          · have HST : Hid (s.stay ks[k]? = s.l.length) := by
              unfold Hid Sl.stay; rw [HZ.out]; simp only []; rw [if_pos (by omega), if_neg (by omega)]
            have hNl : s.l.length ≤ s.l.length := by omega
            have hNi : (s.l.length : Int) ≤ (s.l.length : Int) := by omega
            have hNc : (s.l.length : Int) ≤ (cq : Int) := by have := hcq.1; omega
            have hNc2 : s.l.length ≤ cq := by have := hcq.1; omega
            have HTL : Hid ((s.l.take s.l.length).length = s.l.length) := by unfold Hid; rw [List.length_take]; omega
            have HQT : Hid (e.set k ⟨s.l.take s.l.length, s.l.length⟩ = f) := by
              rw [← HF.out]; unfold Sl.crash; rw [HST.out]; exact rfl
            clear HF
            go_upto_region 8 with fail
            go_region
            go_upto_region 10 with fail
            replace B1 := hide (B1.out.below ((Below.refl _ _).drew))
            replace B2 := hide (B2.out.below ((Below.refl _ _).drew))
            replace B3 := hide (B3.out.below ((Below.refl _ _).drew))
            replace HRu := hide (HRu.out.below ((Below.refl _ _).drew))
            replace Q := hide (Q.out.below ((Below.refl _ _).drew))
            replace B0 := hide B0.out.drew
            clear e0 e1 hz HNu
            have e0 := B3.out.cell 0 _ rfl
            have e1 := B3.out.cell 1 _ rfl
            generalize (w1.alloc (.cells #[.slice q s.l.length cq, .int .i64 s.s] 31)).drew = u at *
            refine wp_region_held_drew (S := fun W => KP w.heap.size u W) (by kernel_rfl) ((KP.refl _ u).drew) (fun hS0 => ?_)
            refine takeInH 1 50 ?v24 rfl rfl (by kernel_rfl) (by kernel_rfl) (by kernel_rfl) (fun _ _ _ h => h) (by kernel_rfl) hS0 ?hy24 ?_
            case hy24 => (intro W hW; clear hW; go_simp; try rfl)
            simp only [Act.put, List.setIfInBounds_toArray, List.set_cons_zero, List.set_cons_succ]
            refine takeInH 3 52 ?v25 rfl rfl (by kernel_rfl) (by kernel_rfl) (by kernel_rfl) (fun _ _ _ h => h) (by kernel_rfl) hS0 ?hy25 ?_
            case hy25 => (intro W hW; clear hW; go_simp; try rfl)
            simp only [Act.put, List.setIfInBounds_toArray, List.set_cons_zero, List.set_cons_succ]
            refine takeInH 4 53 ?v26 rfl rfl (by kernel_rfl) (by kernel_rfl) (by kernel_rfl) (fun _ _ _ h => h) (by kernel_rfl) hS0 ?hy26 ?_
            case hy26 => (intro W hW; have e0 := kcell hW e0 hne1; have e1 := kcell hW e1 hne1; clear hW; go_simp; try rfl)
            simp only [Act.put, List.setIfInBounds_toArray, List.set_cons_zero, List.set_cons_succ]
            refine takeInH 5 54 ?v27 rfl rfl (by kernel_rfl) (by kernel_rfl) (by kernel_rfl) (fun _ _ _ h => h) (by kernel_rfl) hS0 ?hy27 ?_
            case hy27 => (intro W hW; clear hW; go_simp; try rfl)
            simp only [Act.put, List.setIfInBounds_toArray, List.set_cons_zero, List.set_cons_succ]
            refine takeInH 6 55 ?v28 rfl rfl (by kernel_rfl) (by kernel_rfl) (by kernel_rfl) (fun _ _ _ h => h) (by kernel_rfl) hS0 ?hy28 ?_
            case hy28 => (intro W hW; skip; clear hW; go_simp; try rfl)
            simp only [Act.put, List.setIfInBounds_toArray, List.set_cons_zero, List.set_cons_succ]
            refine takeInH 8 57 ?v29 rfl rfl (by kernel_rfl) (by kernel_rfl) (by kernel_rfl) (fun _ _ _ h => h) (by kernel_rfl) hS0 ?hy29 ?_
            case hy29 => (intro W hW; clear hW; go_simp; try rfl)
            simp only [Act.put, List.setIfInBounds_toArray, List.set_cons_zero, List.set_cons_succ]
            refine wpAnyH_ready (rs := [0, 2]) (by kernel_rfl) (by simp) ?_
            refine AllReadyH.cons rfl (fun K hK => ?_) (AllReadyH.cons rfl (fun K hK => ?_) AllReadyH.nil)
            · have b1w := B1.out
              have c0 := b1w.cell 0 _ rfl
              have c1 := b1w.cell 1 _ rfl
              have c2 := b1w.cell 2 _ rfl
              have c3 := b1w.cell 3 _ rfl
              have c4 := b1w.cell 4 _ rfl
              have c5 := b1w.cell 5 _ rfl
              have c6 := b1w.cell 6 _ rfl
              go_simp
              clear c0 c1 c2 c3 c4 c5 c6 b1w
              go_simp
              refine hK.out _ _ ?hs30 (fun hS1 => ?_)
              case hs30 => exact hS0
              clear hK K
              try simp only [Act.put, List.setIfInBounds_toArray, List.set_cons_zero, List.set_cons_succ]
              refine wpAnyH_ready (rs := [2]) (by kernel_rfl) (by simp) ?_
              refine AllReadyH.cons rfl (fun K hK => ?_) AllReadyH.nil
              go_simp
              have OW := hide (Own.made u u.heap.size u.heap.size rfl (Nat.le_refl _)).drew
              have BL : Hid (Below u.heap.size u (u.alloc (.cells #[] 5)).drew) := ((Below.refl _ u).alloc (Nat.le_refl _) _).drew
              have KW : KP w.heap.size u (u.alloc (.cells #[] 5)).drew := ((KP.refl _ u).alloc (.cells #[] 5)).drew
              generalize (u.alloc (.cells #[] 5)).drew = wA at *
              refine hK.out _ _ ?hs31 (fun hS2 => ?_)
              case hs31 => exact KW
              clear hK K
              try simp only [Act.put, List.setIfInBounds_toArray, List.set_cons_zero, List.set_cons_succ]
              refine wpAnyH_ready (rs := [7]) (by kernel_rfl) (by simp) ?_
              refine AllReadyH.cons rfl (fun K hK => ?_) AllReadyH.nil
              rw [if_pos (by kernel_rfl)]
              refine append_bw _ _ rfl u.heap.size _ [] (s.l.take s.l.length) rfl OW.out q s.l.length cq rfl hcq.2.2 ((Q.out.1.below BL.out).head s.l.length (by omega)) (by rw [List.length_take]; simp; omega) BL.out.size ?_
              intro v1 wB ho hgr hbel
              rw [List.nil_append] at ho
              obtain ⟨p1, c1, rfl, hbs, hcp1⟩ := ho.open (By.take Q.out.1.2.2.1 s.l.length)
              have BS1 := hide hbs
              have OFF := hide (ho.off (X := X) (fun b hb => Nat.lt_of_lt_of_le (HX.out b hb) B0.out.size))
              replace BL := hide (hbel _ BL.out)
              have KW : KP w.heap.size u wB := (KP.refl _ u).next BL.out
              clear OW hbs ho hgr hbel
              change K (Act.put _ (some 56) _) _
              refine hK.out _ _ ?hs32 (fun hS3 => ?_)
              case hs32 => exact KW
              clear hK K
              try simp only [Act.put, List.setIfInBounds_toArray, List.set_cons_zero, List.set_cons_succ]
              refine takeInH 9 58 ?v33 rfl rfl (by kernel_rfl) (by kernel_rfl) (by kernel_rfl) (fun _ _ _ h => h) (by kernel_rfl) hS3 ?hy33 ?_
              case hy33 => (intro W hW; clear hW; go_simp; try rfl)
              simp only [Act.put, List.setIfInBounds_toArray, List.set_cons_zero, List.set_cons_succ]
              refine wpAnyH_ready (rs := [10]) (by kernel_rfl) (by simp) ?_
              refine AllReadyH.cons rfl (fun K hK => ?_) AllReadyH.nil
              go_simp
              refine (setR_any _ e k _ ⟨s.l.take s.l.length, s.l.length⟩ _ (HRu.out.below BL.out) ⟨p1, c1, by rw [HTL.out], ⟨BS1.out, OFF.out⟩, hcp1⟩).mono ?_
              rintro x wC ⟨y, rfl, hy, hb⟩
              rw [HQT.out] at hy
              replace BL := hide (bel_next BL.out hb)
              have HY := hide hy
              obtain ⟨pa2, ca2, pb2, cb2, rfl, _⟩ := hy
              have KW : KP w.heap.size u wC := (KP.refl _ u).next BL.out
              clear hb BS1
              try go_wp2_with fail
              refine hK.out _ _ ?hs34 (fun hS4 => ?_)
              case hs34 => exact KW
              clear hK K
              try simp only [Act.put, List.setIfInBounds_toArray, List.set_cons_zero, List.set_cons_succ]
              refine wpAnyH_ready (rs := [11]) (by kernel_rfl) (by simp) ?_
              refine AllReadyH.cons rfl (fun K hK => ?_) AllReadyH.nil
              have b1w := B1.out.below BL.out
              have c0 := b1w.cell 0 _ rfl
              have c1 := b1w.cell 1 _ rfl
              have c2 := b1w.cell 2 _ rfl
              have c3 := b1w.cell 3 _ rfl
              have c4 := b1w.cell 4 _ rfl
              have c5 := b1w.cell 5 _ rfl
              have c6 := b1w.cell 6 _ rfl
              have hfr := fun j => b1w.free j
              have B1w := hide b1w
              clear b1w
              go_simp
              clear c0 c1 c2 c3 c4 c5 c6 hfr
              obtain ⟨r1, r2, r3, r4⟩ := B1w.out.put7 (.slice pa2 f.a.l.length ca2) (.int .i64 f.a.s) (.slice pb2 f.b.l.length cb2) (.int .i64 f.b.s) (.int .i64 f.room) (.int .i64 f.stop) (.bool f.dead)
              have KW := KP.after BL.out r2
              have HC2 : Hid (CrS X w d ks (k + 1) _) := ⟨_, r1, by rw [HK.out]; exact HY.out.kp r2 B1w.out (NoB.disk _ _ _ _ _ _ _ _ _ _ _), r4 _ _ _ (B2.out.below BL.out) (by omega), r3 _ _ (bel_next B0.out BL.out) (Nat.le_refl _)⟩
              clear r1 r2 r3 r4
              go_simp
              refine hK.out _ _ ?hs35 (fun hS5 => ?_)
              case hs35 => exact KW
              clear hK K
              try simp only [Act.put, List.setIfInBounds_toArray, List.set_cons_zero, List.set_cons_succ]
              refine wpAnyH_done (by kernel_rfl) ?_ _
              go_wp2
              go_roundw
              case rel => exact ⟨k + 1, by omega, by go_num, HC2⟩
              case measure => simp [intOf]; omega
            · go_simp
              have OW := hide (Own.made u u.heap.size u.heap.size rfl (Nat.le_refl _)).drew
              have BL : Hid (Below u.heap.size u (u.alloc (.cells #[] 5)).drew) := ((Below.refl _ u).alloc (Nat.le_refl _) _).drew
              have KW : KP w.heap.size u (u.alloc (.cells #[] 5)).drew := ((KP.refl _ u).alloc (.cells #[] 5)).drew
              generalize (u.alloc (.cells #[] 5)).drew = wA at *
              refine hK.out _ _ ?hs36 (fun hS1 => ?_)
              case hs36 => exact KW
              clear hK K
              try simp only [Act.put, List.setIfInBounds_toArray, List.set_cons_zero, List.set_cons_succ]
              refine wpAnyH_ready (rs := [0, 7]) (by kernel_rfl) (by simp) ?_
              refine AllReadyH.cons rfl (fun K hK => ?_) (AllReadyH.cons rfl (fun K hK => ?_) AllReadyH.nil)
              · have b1w := B1.out.below BL.out
                have c0 := b1w.cell 0 _ rfl
                have c1 := b1w.cell 1 _ rfl
                have c2 := b1w.cell 2 _ rfl
                have c3 := b1w.cell 3 _ rfl
                have c4 := b1w.cell 4 _ rfl
                have c5 := b1w.cell 5 _ rfl
                have c6 := b1w.cell 6 _ rfl
                go_simp
                clear c0 c1 c2 c3 c4 c5 c6 b1w
                go_simp
                refine hK.out _ _ ?hs37 (fun hS2 => ?_)
                case hs37 => exact hS1
                clear hK K
                try simp only [Act.put, List.setIfInBounds_toArray, List.set_cons_zero, List.set_cons_succ]
                refine wpAnyH_ready (rs := [7]) (by kernel_rfl) (by simp) ?_
                refine AllReadyH.cons rfl (fun K hK => ?_) AllReadyH.nil
                rw [if_pos (by kernel_rfl)]
                refine append_bw _ _ rfl u.heap.size _ [] (s.l.take s.l.length) rfl OW.out q s.l.length cq rfl hcq.2.2 ((Q.out.1.below BL.out).head s.l.length (by omega)) (by rw [List.length_take]; simp; omega) BL.out.size ?_
                intro v1 wB ho hgr hbel
                rw [List.nil_append] at ho
                obtain ⟨p1, c1, rfl, hbs, hcp1⟩ := ho.open (By.take Q.out.1.2.2.1 s.l.length)
                have BS1 := hide hbs
                have OFF := hide (ho.off (X := X) (fun b hb => Nat.lt_of_lt_of_le (HX.out b hb) B0.out.size))
                replace BL := hide (hbel _ BL.out)
                have KW : KP w.heap.size u wB := (KP.refl _ u).next BL.out
                clear OW hbs ho hgr hbel
                change K (Act.put _ (some 56) _) _
                refine hK.out _ _ ?hs38 (fun hS3 => ?_)
                case hs38 => exact KW
                clear hK K
                try simp only [Act.put, List.setIfInBounds_toArray, List.set_cons_zero, List.set_cons_succ]
                refine takeInH 9 58 ?v39 rfl rfl (by kernel_rfl) (by kernel_rfl) (by kernel_rfl) (fun _ _ _ h => h) (by kernel_rfl) hS3 ?hy39 ?_
                case hy39 => (intro W hW; clear hW; go_simp; try rfl)
                simp only [Act.put, List.setIfInBounds_toArray, List.set_cons_zero, List.set_cons_succ]
                refine wpAnyH_ready (rs := [10]) (by kernel_rfl) (by simp) ?_
                refine AllReadyH.cons rfl (fun K hK => ?_) AllReadyH.nil
                go_simp
                refine (setR_any _ e k _ ⟨s.l.take s.l.length, s.l.length⟩ _ (HRu.out.below BL.out) ⟨p1, c1, by rw [HTL.out], ⟨BS1.out, OFF.out⟩, hcp1⟩).mono ?_
                rintro x wC ⟨y, rfl, hy, hb⟩
                rw [HQT.out] at hy
                replace BL := hide (bel_next BL.out hb)
                have HY := hide hy
                obtain ⟨pa2, ca2, pb2, cb2, rfl, _⟩ := hy
                have KW : KP w.heap.size u wC := (KP.refl _ u).next BL.out
                clear hb BS1
                try go_wp2_with fail
                refine hK.out _ _ ?hs40 (fun hS4 => ?_)
                case hs40 => exact KW
                clear hK K
                try simp only [Act.put, List.setIfInBounds_toArray, List.set_cons_zero, List.set_cons_succ]
                refine wpAnyH_ready (rs := [11]) (by kernel_rfl) (by simp) ?_
                refine AllReadyH.cons rfl (fun K hK => ?_) AllReadyH.nil
                have b1w := B1.out.below BL.out
                have c0 := b1w.cell 0 _ rfl
                have c1 := b1w.cell 1 _ rfl
                have c2 := b1w.cell 2 _ rfl
                have c3 := b1w.cell 3 _ rfl
                have c4 := b1w.cell 4 _ rfl
                have c5 := b1w.cell 5 _ rfl
                have c6 := b1w.cell 6 _ rfl
                have hfr := fun j => b1w.free j
                have B1w := hide b1w
                clear b1w
                go_simp
                clear c0 c1 c2 c3 c4 c5 c6 hfr
                obtain ⟨r1, r2, r3, r4⟩ := B1w.out.put7 (.slice pa2 f.a.l.length ca2) (.int .i64 f.a.s) (.slice pb2 f.b.l.length cb2) (.int .i64 f.b.s) (.int .i64 f.room) (.int .i64 f.stop) (.bool f.dead)
                have KW := KP.after BL.out r2
                have HC2 : Hid (CrS X w d ks (k + 1) _) := ⟨_, r1, by rw [HK.out]; exact HY.out.kp r2 B1w.out (NoB.disk _ _ _ _ _ _ _ _ _ _ _), r4 _ _ _ (B2.out.below BL.out) (by omega), r3 _ _ (bel_next B0.out BL.out) (Nat.le_refl _)⟩
                clear r1 r2 r3 r4
                go_simp
                refine hK.out _ _ ?hs41 (fun hS5 => ?_)
                case hs41 => exact KW
                clear hK K
                try simp only [Act.put, List.setIfInBounds_toArray, List.set_cons_zero, List.set_cons_succ]
                refine wpAnyH_done (by kernel_rfl) ?_ _
                go_wp2
                go_roundw
                case rel => exact ⟨k + 1, by omega, by go_num, HC2⟩
                case measure => simp [intOf]; omega
              · rw [if_pos (by kernel_rfl)]
                refine append_bw _ _ rfl u.heap.size _ [] (s.l.take s.l.length) rfl OW.out q s.l.length cq rfl hcq.2.2 ((Q.out.1.below BL.out).head s.l.length (by omega)) (by rw [List.length_take]; simp; omega) BL.out.size ?_
                intro v1 wB ho hgr hbel
                rw [List.nil_append] at ho
                obtain ⟨p1, c1, rfl, hbs, hcp1⟩ := ho.open (By.take Q.out.1.2.2.1 s.l.length)
                have BS1 := hide hbs
                have OFF := hide (ho.off (X := X) (fun b hb => Nat.lt_of_lt_of_le (HX.out b hb) B0.out.size))
                replace BL := hide (hbel _ BL.out)
                have KW : KP w.heap.size u wB := (KP.refl _ u).next BL.out
                clear OW hbs ho hgr hbel
                change K (Act.put _ (some 56) _) _
                refine hK.out _ _ ?hs42 (fun hS2 => ?_)
                case hs42 => exact KW
                clear hK K
                try simp only [Act.put, List.setIfInBounds_toArray, List.set_cons_zero, List.set_cons_succ]
                refine takeInH 9 58 ?v43 rfl rfl (by kernel_rfl) (by kernel_rfl) (by kernel_rfl) (fun _ _ _ h => h) (by kernel_rfl) hS2 ?hy43 ?_
                case hy43 => (intro W hW; clear hW; go_simp; try rfl)
                simp only [Act.put, List.setIfInBounds_toArray, List.set_cons_zero, List.set_cons_succ]
                refine wpAnyH_ready (rs := [0]) (by kernel_rfl) (by simp) ?_
                refine AllReadyH.cons rfl (fun K hK => ?_) AllReadyH.nil
                have b1w := B1.out.below BL.out
                have c0 := b1w.cell 0 _ rfl
                have c1 := b1w.cell 1 _ rfl
                have c2 := b1w.cell 2 _ rfl
                have c3 := b1w.cell 3 _ rfl
                have c4 := b1w.cell 4 _ rfl
                have c5 := b1w.cell 5 _ rfl
                have c6 := b1w.cell 6 _ rfl
                go_simp
                clear c0 c1 c2 c3 c4 c5 c6 b1w
                go_simp
                refine hK.out _ _ ?hs44 (fun hS3 => ?_)
                case hs44 => exact hS2
                clear hK K
                try simp only [Act.put, List.setIfInBounds_toArray, List.set_cons_zero, List.set_cons_succ]
                refine wpAnyH_ready (rs := [10]) (by kernel_rfl) (by simp) ?_
                refine AllReadyH.cons rfl (fun K hK => ?_) AllReadyH.nil
                go_simp
                refine (setR_any _ e k _ ⟨s.l.take s.l.length, s.l.length⟩ _ (HRu.out.below BL.out) ⟨p1, c1, by rw [HTL.out], ⟨BS1.out, OFF.out⟩, hcp1⟩).mono ?_
                rintro x wC ⟨y, rfl, hy, hb⟩
                rw [HQT.out] at hy
                replace BL := hide (bel_next BL.out hb)
                have HY := hide hy
                obtain ⟨pa2, ca2, pb2, cb2, rfl, _⟩ := hy
                have KW : KP w.heap.size u wC := (KP.refl _ u).next BL.out
                clear hb BS1
                try go_wp2_with fail
                refine hK.out _ _ ?hs45 (fun hS4 => ?_)
                case hs45 => exact KW
                clear hK K
                try simp only [Act.put, List.setIfInBounds_toArray, List.set_cons_zero, List.set_cons_succ]
                refine wpAnyH_ready (rs := [11]) (by kernel_rfl) (by simp) ?_
                refine AllReadyH.cons rfl (fun K hK => ?_) AllReadyH.nil
                have b1w := B1.out.below BL.out
                have c0 := b1w.cell 0 _ rfl
                have c1 := b1w.cell 1 _ rfl
                have c2 := b1w.cell 2 _ rfl
                have c3 := b1w.cell 3 _ rfl
                have c4 := b1w.cell 4 _ rfl
                have c5 := b1w.cell 5 _ rfl
                have c6 := b1w.cell 6 _ rfl
                have hfr := fun j => b1w.free j
                have B1w := hide b1w
                clear b1w
                go_simp
                clear c0 c1 c2 c3 c4 c5 c6 hfr
                obtain ⟨r1, r2, r3, r4⟩ := B1w.out.put7 (.slice pa2 f.a.l.length ca2) (.int .i64 f.a.s) (.slice pb2 f.b.l.length cb2) (.int .i64 f.b.s) (.int .i64 f.room) (.int .i64 f.stop) (.bool f.dead)
                have KW := KP.after BL.out r2
                have HC2 : Hid (CrS X w d ks (k + 1) _) := ⟨_, r1, by rw [HK.out]; exact HY.out.kp r2 B1w.out (NoB.disk _ _ _ _ _ _ _ _ _ _ _), r4 _ _ _ (B2.out.below BL.out) (by omega), r3 _ _ (bel_next B0.out BL.out) (Nat.le_refl _)⟩
                clear r1 r2 r3 r4
                go_simp
                refine hK.out _ _ ?hs46 (fun hS5 => ?_)
                case hs46 => exact KW
                clear hK K
                try simp only [Act.put, List.setIfInBounds_toArray, List.set_cons_zero, List.set_cons_succ]
                refine wpAnyH_done (by kernel_rfl) ?_ _
                go_wp2
                go_roundw
                case rel => exact ⟨k + 1, by omega, by go_num, HC2⟩
                case measure => simp [intOf]; omega
        · have HST : Hid (s.stay ks[k]? = s.s) := by
            unfold Hid Sl.stay; rw [HZ.out]; simp only []; rw [if_neg (by omega)]
          have hNl : s.s ≤ s.l.length := by omega
          have hNi : (s.s : Int) ≤ (s.l.length : Int) := by omega
          have hNc : (s.s : Int) ≤ (cq : Int) := by have := hcq.1; omega
          have hNc2 : s.s ≤ cq := by have := hcq.1; omega
          have HTL : Hid ((s.l.take s.s).length = s.s) := by unfold Hid; rw [List.length_take]; omega
          have HQT : Hid (e.set k ⟨s.l.take s.s, s.s⟩ = f) := by
            rw [← HF.out]; unfold Sl.crash; rw [HST.out]; exact rfl
          clear HF
          go_upto_region 10 with fail
          generalize (w1.alloc (.cells #[.slice q s.l.length cq, .int .i64 s.s] 31)) = u at *
          refine wp_region_held_drew (S := fun W => KP w.heap.size u W) (by kernel_rfl) ((KP.refl _ u).drew) (fun hS0 => ?_)
          refine takeInH 1 50 ?v47 rfl rfl (by kernel_rfl) (by kernel_rfl) (by kernel_rfl) (fun _ _ _ h => h) (by kernel_rfl) hS0 ?hy47 ?_
          case hy47 => (intro W hW; clear hW; go_simp; try rfl)
          simp only [Act.put, List.setIfInBounds_toArray, List.set_cons_zero, List.set_cons_succ]
          refine takeInH 3 52 ?v48 rfl rfl (by kernel_rfl) (by kernel_rfl) (by kernel_rfl) (fun _ _ _ h => h) (by kernel_rfl) hS0 ?hy48 ?_
          case hy48 => (intro W hW; clear hW; go_simp; try rfl)
          simp only [Act.put, List.setIfInBounds_toArray, List.set_cons_zero, List.set_cons_succ]
          refine takeInH 4 53 ?v49 rfl rfl (by kernel_rfl) (by kernel_rfl) (by kernel_rfl) (fun _ _ _ h => h) (by kernel_rfl) hS0 ?hy49 ?_
          case hy49 => (intro W hW; have e0 := kcell hW e0 hne1; have e1 := kcell hW e1 hne1; clear hW; go_simp; try rfl)
          simp only [Act.put, List.setIfInBounds_toArray, List.set_cons_zero, List.set_cons_succ]
          refine takeInH 5 54 ?v50 rfl rfl (by kernel_rfl) (by kernel_rfl) (by kernel_rfl) (fun _ _ _ h => h) (by kernel_rfl) hS0 ?hy50 ?_
          case hy50 => (intro W hW; clear hW; go_simp; try rfl)
          simp only [Act.put, List.setIfInBounds_toArray, List.set_cons_zero, List.set_cons_succ]
          refine takeInH 6 55 ?v51 rfl rfl (by kernel_rfl) (by kernel_rfl) (by kernel_rfl) (fun _ _ _ h => h) (by kernel_rfl) hS0 ?hy51 ?_
          case hy51 => (intro W hW; skip; clear hW; go_simp; try rfl)
          simp only [Act.put, List.setIfInBounds_toArray, List.set_cons_zero, List.set_cons_succ]
          refine takeInH 8 57 ?v52 rfl rfl (by kernel_rfl) (by kernel_rfl) (by kernel_rfl) (fun _ _ _ h => h) (by kernel_rfl) hS0 ?hy52 ?_
          case hy52 => (intro W hW; clear hW; go_simp; try rfl)
          simp only [Act.put, List.setIfInBounds_toArray, List.set_cons_zero, List.set_cons_succ]
          refine wpAnyH_ready (rs := [0, 2]) (by kernel_rfl) (by simp) ?_
          refine AllReadyH.cons rfl (fun K hK => ?_) (AllReadyH.cons rfl (fun K hK => ?_) AllReadyH.nil)
          · have b1w := B1.out
            have c0 := b1w.cell 0 _ rfl
            have c1 := b1w.cell 1 _ rfl
            have c2 := b1w.cell 2 _ rfl
            have c3 := b1w.cell 3 _ rfl
            have c4 := b1w.cell 4 _ rfl
            have c5 := b1w.cell 5 _ rfl
            have c6 := b1w.cell 6 _ rfl
            go_simp
            clear c0 c1 c2 c3 c4 c5 c6 b1w
            go_simp
            refine hK.out _ _ ?hs53 (fun hS1 => ?_)
            case hs53 => exact hS0
            clear hK K
            try simp only [Act.put, List.setIfInBounds_toArray, List.set_cons_zero, List.set_cons_succ]
            refine wpAnyH_ready (rs := [2]) (by kernel_rfl) (by simp) ?_
            refine AllReadyH.cons rfl (fun K hK => ?_) AllReadyH.nil
            go_simp
            have OW := hide (Own.made u u.heap.size u.heap.size rfl (Nat.le_refl _)).drew
            have BL : Hid (Below u.heap.size u (u.alloc (.cells #[] 5)).drew) := ((Below.refl _ u).alloc (Nat.le_refl _) _).drew
            have KW : KP w.heap.size u (u.alloc (.cells #[] 5)).drew := ((KP.refl _ u).alloc (.cells #[] 5)).drew
            generalize (u.alloc (.cells #[] 5)).drew = wA at *
            refine hK.out _ _ ?hs54 (fun hS2 => ?_)
            case hs54 => exact KW
            clear hK K
            try simp only [Act.put, List.setIfInBounds_toArray, List.set_cons_zero, List.set_cons_succ]
            refine wpAnyH_ready (rs := [7]) (by kernel_rfl) (by simp) ?_
            refine AllReadyH.cons rfl (fun K hK => ?_) AllReadyH.nil
            rw [if_pos (by kernel_rfl)]
            refine append_bw _ _ rfl u.heap.size _ [] (s.l.take s.s) rfl OW.out q s.s cq rfl hcq.2.2 ((Q.out.1.below BL.out).head s.s (by omega)) (by rw [List.length_take]; simp; omega) BL.out.size ?_
            intro v1 wB ho hgr hbel
            rw [List.nil_append] at ho
            obtain ⟨p1, c1, rfl, hbs, hcp1⟩ := ho.open (By.take Q.out.1.2.2.1 s.s)
            have BS1 := hide hbs
            have OFF := hide (ho.off (X := X) (fun b hb => Nat.lt_of_lt_of_le (HX.out b hb) B0.out.size))
            replace BL := hide (hbel _ BL.out)
            have KW : KP w.heap.size u wB := (KP.refl _ u).next BL.out
            clear OW hbs ho hgr hbel
            change K (Act.put _ (some 56) _) _
            refine hK.out _ _ ?hs55 (fun hS3 => ?_)
            case hs55 => exact KW
            clear hK K
            try simp only [Act.put, List.setIfInBounds_toArray, List.set_cons_zero, List.set_cons_succ]
            refine takeInH 9 58 ?v56 rfl rfl (by kernel_rfl) (by kernel_rfl) (by kernel_rfl) (fun _ _ _ h => h) (by kernel_rfl) hS3 ?hy56 ?_
            case hy56 => (intro W hW; clear hW; go_simp; try rfl)
            simp only [Act.put, List.setIfInBounds_toArray, List.set_cons_zero, List.set_cons_succ]
            refine wpAnyH_ready (rs := [10]) (by kernel_rfl) (by simp) ?_
            refine AllReadyH.cons rfl (fun K hK => ?_) AllReadyH.nil
            go_simp
            refine (setR_any _ e k _ ⟨s.l.take s.s, s.s⟩ _ (HRu.out.below BL.out) ⟨p1, c1, by rw [HTL.out], ⟨BS1.out, OFF.out⟩, hcp1⟩).mono ?_
            rintro x wC ⟨y, rfl, hy, hb⟩
            rw [HQT.out] at hy
            replace BL := hide (bel_next BL.out hb)
            have HY := hide hy
            obtain ⟨pa2, ca2, pb2, cb2, rfl, _⟩ := hy
            have KW : KP w.heap.size u wC := (KP.refl _ u).next BL.out
            clear hb BS1
            try go_wp2_with fail
            refine hK.out _ _ ?hs57 (fun hS4 => ?_)
            case hs57 => exact KW
            clear hK K
            try simp only [Act.put, List.setIfInBounds_toArray, List.set_cons_zero, List.set_cons_succ]
            refine wpAnyH_ready (rs := [11]) (by kernel_rfl) (by simp) ?_
            refine AllReadyH.cons rfl (fun K hK => ?_) AllReadyH.nil
            have b1w := B1.out.below BL.out
            have c0 := b1w.cell 0 _ rfl
            have c1 := b1w.cell 1 _ rfl
            have c2 := b1w.cell 2 _ rfl
            have c3 := b1w.cell 3 _ rfl
            have c4 := b1w.cell 4 _ rfl
            have c5 := b1w.cell 5 _ rfl
            have c6 := b1w.cell 6 _ rfl
            have hfr := fun j => b1w.free j
            have B1w := hide b1w
            clear b1w
            go_simp
            clear c0 c1 c2 c3 c4 c5 c6 hfr
            obtain ⟨r1, r2, r3, r4⟩ := B1w.out.put7 (.slice pa2 f.a.l.length ca2) (.int .i64 f.a.s) (.slice pb2 f.b.l.length cb2) (.int .i64 f.b.s) (.int .i64 f.room) (.int .i64 f.stop) (.bool f.dead)
            have KW := KP.after BL.out r2
            have HC2 : Hid (CrS X w d ks (k + 1) _) := ⟨_, r1, by rw [HK.out]; exact HY.out.kp r2 B1w.out (NoB.disk _ _ _ _ _ _ _ _ _ _ _), r4 _ _ _ (B2.out.below BL.out) (by omega), r3 _ _ (bel_next B0.out BL.out) (Nat.le_refl _)⟩
            clear r1 r2 r3 r4
            go_simp
            refine hK.out _ _ ?hs58 (fun hS5 => ?_)
            case hs58 => exact KW
            clear hK K
            try simp only [Act.put, List.setIfInBounds_toArray, List.set_cons_zero, List.set_cons_succ]
            refine wpAnyH_done (by kernel_rfl) ?_ _
            go_wp2
            go_roundw
            case rel => exact ⟨k + 1, by omega, by go_num, HC2⟩
            case measure => simp [intOf]; omega
          · go_simp
            have OW := hide (Own.made u u.heap.size u.heap.size rfl (Nat.le_refl _)).drew
            have BL : Hid (Below u.heap.size u (u.alloc (.cells #[] 5)).drew) := ((Below.refl _ u).alloc (Nat.le_refl _) _).drew
            have KW : KP w.heap.size u (u.alloc (.cells #[] 5)).drew := ((KP.refl _ u).alloc (.cells #[] 5)).drew
            generalize (u.alloc (.cells #[] 5)).drew = wA at *
            refine hK.out _ _ ?hs59 (fun hS1 => ?_)
            case hs59 => exact KW
            clear hK K
            try simp only [Act.put, List.setIfInBounds_toArray, List.set_cons_zero, List.set_cons_succ]
            refine wpAnyH_ready (rs := [0, 7]) (by kernel_rfl) (by simp) ?_
            refine AllReadyH.cons rfl (fun K hK => ?_) (AllReadyH.cons rfl (fun K hK => ?_) AllReadyH.nil)
            · have b1w := B1.out.below BL.out
              have c0 := b1w.cell 0 _ rfl
              have c1 := b1w.cell 1 _ rfl
              have c2 := b1w.cell 2 _ rfl
              have c3 := b1w.cell 3 _ rfl
              have c4 := b1w.cell 4 _ rfl
              have c5 := b1w.cell 5 _ rfl
              have c6 := b1w.cell 6 _ rfl
              go_simp
              clear c0 c1 c2 c3 c4 c5 c6 b1w
              go_simp
              refine hK.out _ _ ?hs60 (fun hS2 => ?_)
              case hs60 => exact hS1
              clear hK K
              try simp only [Act.put, List.setIfInBounds_toArray, List.set_cons_zero, List.set_cons_succ]
              refine wpAnyH_ready (rs := [7]) (by kernel_rfl) (by simp) ?_
              refine AllReadyH.cons rfl (fun K hK => ?_) AllReadyH.nil
              rw [if_pos (by kernel_rfl)]
              refine append_bw _ _ rfl u.heap.size _ [] (s.l.take s.s) rfl OW.out q s.s cq rfl hcq.2.2 ((Q.out.1.below BL.out).head s.s (by omega)) (by rw [List.length_take]; simp; omega) BL.out.size ?_
              intro v1 wB ho hgr hbel
              rw [List.nil_append] at ho
              obtain ⟨p1, c1, rfl, hbs, hcp1⟩ := ho.open (By.take Q.out.1.2.2.1 s.s)
              have BS1 := hide hbs
              have OFF := hide (ho.off (X := X) (fun b hb => Nat.lt_of_lt_of_le (HX.out b hb) B0.out.size))
              replace BL := hide (hbel _ BL.out)
              have KW : KP w.heap.size u wB := (KP.refl _ u).next BL.out
              clear OW hbs ho hgr hbel
              change K (Act.put _ (some 56) _) _
              refine hK.out _ _ ?hs61 (fun hS3 => ?_)
              case hs61 => exact KW
              clear hK K
              try simp only [Act.put, List.setIfInBounds_toArray, List.set_cons_zero, List.set_cons_succ]
              refine takeInH 9 58 ?v62 rfl rfl (by kernel_rfl) (by kernel_rfl) (by kernel_rfl) (fun _ _ _ h => h) (by kernel_rfl) hS3 ?hy62 ?_
              case hy62 => (intro W hW; clear hW; go_simp; try rfl)
              simp only [Act.put, List.setIfInBounds_toArray, List.set_cons_zero, List.set_cons_succ]
              refine wpAnyH_ready (rs := [10]) (by kernel_rfl) (by simp) ?_
              refine AllReadyH.cons rfl (fun K hK => ?_) AllReadyH.nil
              go_simp
              refine (setR_any _ e k _ ⟨s.l.take s.s, s.s⟩ _ (HRu.out.below BL.out) ⟨p1, c1, by rw [HTL.out], ⟨BS1.out, OFF.out⟩, hcp1⟩).mono ?_
              rintro x wC ⟨y, rfl, hy, hb⟩
              rw [HQT.out] at hy
              replace BL := hide (bel_next BL.out hb)
              have HY := hide hy
              obtain ⟨pa2, ca2, pb2, cb2, rfl, _⟩ := hy
              have KW : KP w.heap.size u wC := (KP.refl _ u).next BL.out
              clear hb BS1
              try go_wp2_with fail
              refine hK.out _ _ ?hs63 (fun hS4 => ?_)
              case hs63 => exact KW
              clear hK K
              try simp only [Act.put, List.setIfInBounds_toArray, List.set_cons_zero, List.set_cons_succ]
              refine wpAnyH_ready (rs := [11]) (by kernel_rfl) (by simp) ?_
              refine AllReadyH.cons rfl (fun K hK => ?_) AllReadyH.nil
              have b1w := B1.out.below BL.out
              have c0 := b1w.cell 0 _ rfl
              have c1 := b1w.cell 1 _ rfl
              have c2 := b1w.cell 2 _ rfl
              have c3 := b1w.cell 3 _ rfl
              have c4 := b1w.cell 4 _ rfl
              have c5 := b1w.cell 5 _ rfl
              have c6 := b1w.cell 6 _ rfl
              have hfr := fun j => b1w.free j
              have B1w := hide b1w
              clear b1w
              go_simp
              clear c0 c1 c2 c3 c4 c5 c6 hfr
              obtain ⟨r1, r2, r3, r4⟩ := B1w.out.put7 (.slice pa2 f.a.l.length ca2) (.int .i64 f.a.s) (.slice pb2 f.b.l.length cb2) (.int .i64 f.b.s) (.int .i64 f.room) (.int .i64 f.stop) (.bool f.dead)
              have KW := KP.after BL.out r2
              have HC2 : Hid (CrS X w d ks (k + 1) _) := ⟨_, r1, by rw [HK.out]; exact HY.out.kp r2 B1w.out (NoB.disk _ _ _ _ _ _ _ _ _ _ _), r4 _ _ _ (B2.out.below BL.out) (by omega), r3 _ _ (bel_next B0.out BL.out) (Nat.le_refl _)⟩
              clear r1 r2 r3 r4
              go_simp
              refine hK.out _ _ ?hs64 (fun hS5 => ?_)
              case hs64 => exact KW
              clear hK K
              try simp only [Act.put, List.setIfInBounds_toArray, List.set_cons_zero, List.set_cons_succ]
              refine wpAnyH_done (by kernel_rfl) ?_ _
              go_wp2
              go_roundw
              case rel => exact ⟨k + 1, by omega, by go_num, HC2⟩
              case measure => simp [intOf]; omega
            · rw [if_pos (by kernel_rfl)]
              refine append_bw _ _ rfl u.heap.size _ [] (s.l.take s.s) rfl OW.out q s.s cq rfl hcq.2.2 ((Q.out.1.below BL.out).head s.s (by omega)) (by rw [List.length_take]; simp; omega) BL.out.size ?_
              intro v1 wB ho hgr hbel
              rw [List.nil_append] at ho
              obtain ⟨p1, c1, rfl, hbs, hcp1⟩ := ho.open (By.take Q.out.1.2.2.1 s.s)
              have BS1 := hide hbs
              have OFF := hide (ho.off (X := X) (fun b hb => Nat.lt_of_lt_of_le (HX.out b hb) B0.out.size))
              replace BL := hide (hbel _ BL.out)
              have KW : KP w.heap.size u wB := (KP.refl _ u).next BL.out
              clear OW hbs ho hgr hbel
              change K (Act.put _ (some 56) _) _
              refine hK.out _ _ ?hs65 (fun hS2 => ?_)
              case hs65 => exact KW
              clear hK K
              try simp only [Act.put, List.setIfInBounds_toArray, List.set_cons_zero, List.set_cons_succ]
              refine takeInH 9 58 ?v66 rfl rfl (by kernel_rfl) (by kernel_rfl) (by kernel_rfl) (fun _ _ _ h => h) (by kernel_rfl) hS2 ?hy66 ?_
              case hy66 => (intro W hW; clear hW; go_simp; try rfl)
              simp only [Act.put, List.setIfInBounds_toArray, List.set_cons_zero, List.set_cons_succ]
              refine wpAnyH_ready (rs := [0]) (by kernel_rfl) (by simp) ?_
              refine AllReadyH.cons rfl (fun K hK => ?_) AllReadyH.nil
              have b1w := B1.out.below BL.out
              have c0 := b1w.cell 0 _ rfl
              have c1 := b1w.cell 1 _ rfl
              have c2 := b1w.cell 2 _ rfl
              have c3 := b1w.cell 3 _ rfl
              have c4 := b1w.cell 4 _ rfl
              have c5 := b1w.cell 5 _ rfl
              have c6 := b1w.cell 6 _ rfl
              go_simp
              clear c0 c1 c2 c3 c4 c5 c6 b1w
              go_simp
              refine hK.out _ _ ?hs67 (fun hS3 => ?_)
              case hs67 => exact hS2
              clear hK K
              try simp only [Act.put, List.setIfInBounds_toArray, List.set_cons_zero, List.set_cons_succ]
              refine wpAnyH_ready (rs := [10]) (by kernel_rfl) (by simp) ?_
              refine AllReadyH.cons rfl (fun K hK => ?_) AllReadyH.nil
              go_simp
              refine (setR_any _ e k _ ⟨s.l.take s.s, s.s⟩ _ (HRu.out.below BL.out) ⟨p1, c1, by rw [HTL.out], ⟨BS1.out, OFF.out⟩, hcp1⟩).mono ?_
              rintro x wC ⟨y, rfl, hy, hb⟩
              rw [HQT.out] at hy
              replace BL := hide (bel_next BL.out hb)
              have HY := hide hy
              obtain ⟨pa2, ca2, pb2, cb2, rfl, _⟩ := hy
              have KW : KP w.heap.size u wC := (KP.refl _ u).next BL.out
              clear hb BS1
              try go_wp2_with fail
              refine hK.out _ _ ?hs68 (fun hS4 => ?_)
              case hs68 => exact KW
              clear hK K
              try simp only [Act.put, List.setIfInBounds_toArray, List.set_cons_zero, List.set_cons_succ]
              refine wpAnyH_ready (rs := [11]) (by kernel_rfl) (by simp) ?_
              refine AllReadyH.cons rfl (fun K hK => ?_) AllReadyH.nil
              have b1w := B1.out.below BL.out
              have c0 := b1w.cell 0 _ rfl
              have c1 := b1w.cell 1 _ rfl
              have c2 := b1w.cell 2 _ rfl
              have c3 := b1w.cell 3 _ rfl
              have c4 := b1w.cell 4 _ rfl
              have c5 := b1w.cell 5 _ rfl
              have c6 := b1w.cell 6 _ rfl
              have hfr := fun j => b1w.free j
              have B1w := hide b1w
              clear b1w
              go_simp
              clear c0 c1 c2 c3 c4 c5 c6 hfr
              obtain ⟨r1, r2, r3, r4⟩ := B1w.out.put7 (.slice pa2 f.a.l.length ca2) (.int .i64 f.a.s) (.slice pb2 f.b.l.length cb2) (.int .i64 f.b.s) (.int .i64 f.room) (.int .i64 f.stop) (.bool f.dead)
              have KW := KP.after BL.out r2
              have HC2 : Hid (CrS X w d ks (k + 1) _) := ⟨_, r1, by rw [HK.out]; exact HY.out.kp r2 B1w.out (NoB.disk _ _ _ _ _ _ _ _ _ _ _), r4 _ _ _ (B2.out.below BL.out) (by omega), r3 _ _ (bel_next B0.out BL.out) (Nat.le_refl _)⟩
              clear r1 r2 r3 r4
              go_simp
              refine hK.out _ _ ?hs69 (fun hS5 => ?_)
              case hs69 => exact KW
              clear hK K
              try simp only [Act.put, List.setIfInBounds_toArray, List.set_cons_zero, List.set_cons_succ]
              refine wpAnyH_done (by kernel_rfl) ?_ _
              go_wp2
              go_roundw
              case rel => exact ⟨k + 1, by omega, by go_num, HC2⟩
              case measure => simp [intOf]; omega
      · have HST : Hid (s.stay ks[k]? = s.s) := by
          have : ks[k]? = none := by simp [hnl.out]; omega
          unfold Hid Sl.stay; rw [this]
        have hNl : s.s ≤ s.l.length := by omega
        have hNi : (s.s : Int) ≤ (s.l.length : Int) := by omega
        have hNc : (s.s : Int) ≤ (cq : Int) := by have := hcq.1; omega
        have hNc2 : s.s ≤ cq := by have := hcq.1; omega
        have HTL : Hid ((s.l.take s.s).length = s.s) := by unfold Hid; rw [List.length_take]; omega
        have HQT : Hid (e.set k ⟨s.l.take s.s, s.s⟩ = f) := by
          rw [← HF.out]; unfold Sl.crash; rw [HST.out]; exact rfl
        clear HF
        go_upto_region 10 with fail
        generalize (w1.alloc (.cells #[.slice q s.l.length cq, .int .i64 s.s] 31)) = u at *
        refine wp_region_held_drew (S := fun W => KP w.heap.size u W) (by kernel_rfl) ((KP.refl _ u).drew) (fun hS0 => ?_)
        refine takeInH 1 50 ?v70 rfl rfl (by kernel_rfl) (by kernel_rfl) (by kernel_rfl) (fun _ _ _ h => h) (by kernel_rfl) hS0 ?hy70 ?_
        case hy70 => (intro W hW; clear hW; go_simp; try rfl)
        simp only [Act.put, List.setIfInBounds_toArray, List.set_cons_zero, List.set_cons_succ]
        refine takeInH 3 52 ?v71 rfl rfl (by kernel_rfl) (by kernel_rfl) (by kernel_rfl) (fun _ _ _ h => h) (by kernel_rfl) hS0 ?hy71 ?_
        case hy71 => (intro W hW; clear hW; go_simp; try rfl)
        simp only [Act.put, List.setIfInBounds_toArray, List.set_cons_zero, List.set_cons_succ]
        refine takeInH 4 53 ?v72 rfl rfl (by kernel_rfl) (by kernel_rfl) (by kernel_rfl) (fun _ _ _ h => h) (by kernel_rfl) hS0 ?hy72 ?_
        case hy72 => (intro W hW; have e0 := kcell hW e0 hne1; have e1 := kcell hW e1 hne1; clear hW; go_simp; try rfl)
        simp only [Act.put, List.setIfInBounds_toArray, List.set_cons_zero, List.set_cons_succ]
        refine takeInH 5 54 ?v73 rfl rfl (by kernel_rfl) (by kernel_rfl) (by kernel_rfl) (fun _ _ _ h => h) (by kernel_rfl) hS0 ?hy73 ?_
        case hy73 => (intro W hW; clear hW; go_simp; try rfl)
        simp only [Act.put, List.setIfInBounds_toArray, List.set_cons_zero, List.set_cons_succ]
        refine takeInH 6 55 ?v74 rfl rfl (by kernel_rfl) (by kernel_rfl) (by kernel_rfl) (fun _ _ _ h => h) (by kernel_rfl) hS0 ?hy74 ?_
        case hy74 => (intro W hW; skip; clear hW; go_simp; try rfl)
        simp only [Act.put, List.setIfInBounds_toArray, List.set_cons_zero, List.set_cons_succ]
        refine takeInH 8 57 ?v75 rfl rfl (by kernel_rfl) (by kernel_rfl) (by kernel_rfl) (fun _ _ _ h => h) (by kernel_rfl) hS0 ?hy75 ?_
        case hy75 => (intro W hW; clear hW; go_simp; try rfl)
        simp only [Act.put, List.setIfInBounds_toArray, List.set_cons_zero, List.set_cons_succ]
        refine wpAnyH_ready (rs := [0, 2]) (by kernel_rfl) (by simp) ?_
        refine AllReadyH.cons rfl (fun K hK => ?_) (AllReadyH.cons rfl (fun K hK => ?_) AllReadyH.nil)
        · have b1w := B1.out
          have c0 := b1w.cell 0 _ rfl
          have c1 := b1w.cell 1 _ rfl
          have c2 := b1w.cell 2 _ rfl
          have c3 := b1w.cell 3 _ rfl
          have c4 := b1w.cell 4 _ rfl
          have c5 := b1w.cell 5 _ rfl
          have c6 := b1w.cell 6 _ rfl
          go_simp
          clear c0 c1 c2 c3 c4 c5 c6 b1w
          go_simp
          refine hK.out _ _ ?hs76 (fun hS1 => ?_)
          case hs76 => exact hS0
          clear hK K
          try simp only [Act.put, List.setIfInBounds_toArray, List.set_cons_zero, List.set_cons_succ]
          refine wpAnyH_ready (rs := [2]) (by kernel_rfl) (by simp) ?_
          refine AllReadyH.cons rfl (fun K hK => ?_) AllReadyH.nil
          go_simp
          have OW := hide (Own.made u u.heap.size u.heap.size rfl (Nat.le_refl _)).drew
          have BL : Hid (Below u.heap.size u (u.alloc (.cells #[] 5)).drew) := ((Below.refl _ u).alloc (Nat.le_refl _) _).drew
          have KW : KP w.heap.size u (u.alloc (.cells #[] 5)).drew := ((KP.refl _ u).alloc (.cells #[] 5)).drew
          generalize (u.alloc (.cells #[] 5)).drew = wA at *
          refine hK.out _ _ ?hs77 (fun hS2 => ?_)
          case hs77 => exact KW
          clear hK K
          try simp only [Act.put, List.setIfInBounds_toArray, List.set_cons_zero, List.set_cons_succ]
          refine wpAnyH_ready (rs := [7]) (by kernel_rfl) (by simp) ?_
          refine AllReadyH.cons rfl (fun K hK => ?_) AllReadyH.nil
          rw [if_pos (by kernel_rfl)]
          refine append_bw _ _ rfl u.heap.size _ [] (s.l.take s.s) rfl OW.out q s.s cq rfl hcq.2.2 ((Q.out.1.below BL.out).head s.s (by omega)) (by rw [List.length_take]; simp; omega) BL.out.size ?_
          intro v1 wB ho hgr hbel
          rw [List.nil_append] at ho
          obtain ⟨p1, c1, rfl, hbs, hcp1⟩ := ho.open (By.take Q.out.1.2.2.1 s.s)
          have BS1 := hide hbs
          have OFF := hide (ho.off (X := X) (fun b hb => Nat.lt_of_lt_of_le (HX.out b hb) B0.out.size))
          replace BL := hide (hbel _ BL.out)
          have KW : KP w.heap.size u wB := (KP.refl _ u).next BL.out
          clear OW hbs ho hgr hbel
          change K (Act.put _ (some 56) _) _
          refine hK.out _ _ ?hs78 (fun hS3 => ?_)
          case hs78 => exact KW
          clear hK K
          try simp only [Act.put, List.setIfInBounds_toArray, List.set_cons_zero, List.set_cons_succ]
          refine takeInH 9 58 ?v79 rfl rfl (by kernel_rfl) (by kernel_rfl) (by kernel_rfl) (fun _ _ _ h => h) (by kernel_rfl) hS3 ?hy79 ?_
          case hy79 => (intro W hW; clear hW; go_simp; try rfl)
          simp only [Act.put, List.setIfInBounds_toArray, List.set_cons_zero, List.set_cons_succ]
          refine wpAnyH_ready (rs := [10]) (by kernel_rfl) (by simp) ?_
          refine AllReadyH.cons rfl (fun K hK => ?_) AllReadyH.nil
          go_simp
          refine (setR_any _ e k _ ⟨s.l.take s.s, s.s⟩ _ (HRu.out.below BL.out) ⟨p1, c1, by rw [HTL.out], ⟨BS1.out, OFF.out⟩, hcp1⟩).mono ?_
          rintro x wC ⟨y, rfl, hy, hb⟩
          rw [HQT.out] at hy
          replace BL := hide (bel_next BL.out hb)
          have HY := hide hy
          obtain ⟨pa2, ca2, pb2, cb2, rfl, _⟩ := hy
          have KW : KP w.heap.size u wC := (KP.refl _ u).next BL.out
          clear hb BS1
          try go_wp2_with fail
          refine hK.out _ _ ?hs80 (fun hS4 => ?_)
          case hs80 => exact KW
          clear hK K
          try simp only [Act.put, List.setIfInBounds_toArray, List.set_cons_zero, List.set_cons_succ]
          refine wpAnyH_ready (rs := [11]) (by kernel_rfl) (by simp) ?_
          refine AllReadyH.cons rfl (fun K hK => ?_) AllReadyH.nil
          have b1w := B1.out.below BL.out
          have c0 := b1w.cell 0 _ rfl
          have c1 := b1w.cell 1 _ rfl
          have c2 := b1w.cell 2 _ rfl
          have c3 := b1w.cell 3 _ rfl
          have c4 := b1w.cell 4 _ rfl
          have c5 := b1w.cell 5 _ rfl
          have c6 := b1w.cell 6 _ rfl
          have hfr := fun j => b1w.free j
          have B1w := hide b1w
          clear b1w
          go_simp
          clear c0 c1 c2 c3 c4 c5 c6 hfr
          obtain ⟨r1, r2, r3, r4⟩ := B1w.out.put7 (.slice pa2 f.a.l.length ca2) (.int .i64 f.a.s) (.slice pb2 f.b.l.length cb2) (.int .i64 f.b.s) (.int .i64 f.room) (.int .i64 f.stop) (.bool f.dead)
          have KW := KP.after BL.out r2
          have HC2 : Hid (CrS X w d ks (k + 1) _) := ⟨_, r1, by rw [HK.out]; exact HY.out.kp r2 B1w.out (NoB.disk _ _ _ _ _ _ _ _ _ _ _), r4 _ _ _ (B2.out.below BL.out) (by omega), r3 _ _ (bel_next B0.out BL.out) (Nat.le_refl _)⟩
          clear r1 r2 r3 r4
          go_simp
          refine hK.out _ _ ?hs81 (fun hS5 => ?_)
          case hs81 => exact KW
          clear hK K
          try simp only [Act.put, List.setIfInBounds_toArray, List.set_cons_zero, List.set_cons_succ]
          refine wpAnyH_done (by kernel_rfl) ?_ _
          go_wp2
          go_roundw
          case rel => exact ⟨k + 1, by omega, by go_num, HC2⟩
          case measure => simp [intOf]; omega
        · go_simp
          have OW := hide (Own.made u u.heap.size u.heap.size rfl (Nat.le_refl _)).drew
          have BL : Hid (Below u.heap.size u (u.alloc (.cells #[] 5)).drew) := ((Below.refl _ u).alloc (Nat.le_refl _) _).drew
          have KW : KP w.heap.size u (u.alloc (.cells #[] 5)).drew := ((KP.refl _ u).alloc (.cells #[] 5)).drew
          generalize (u.alloc (.cells #[] 5)).drew = wA at *
          refine hK.out _ _ ?hs82 (fun hS1 => ?_)
          case hs82 => exact KW
          clear hK K
          try simp only [Act.put, List.setIfInBounds_toArray, List.set_cons_zero, List.set_cons_succ]
          refine wpAnyH_ready (rs := [0, 7]) (by kernel_rfl) (by simp) ?_
          refine AllReadyH.cons rfl (fun K hK => ?_) (AllReadyH.cons rfl (fun K hK => ?_) AllReadyH.nil)
          · have b1w := B1.out.below BL.out
            have c0 := b1w.cell 0 _ rfl
            have c1 := b1w.cell 1 _ rfl
            have c2 := b1w.cell 2 _ rfl
            have c3 := b1w.cell 3 _ rfl
            have c4 := b1w.cell 4 _ rfl
            have c5 := b1w.cell 5 _ rfl
            have c6 := b1w.cell 6 _ rfl
            go_simp
            clear c0 c1 c2 c3 c4 c5 c6 b1w
            go_simp
            refine hK.out _ _ ?hs83 (fun hS2 => ?_)
            case hs83 => exact hS1
            clear hK K
            try simp only [Act.put, List.setIfInBounds_toArray, List.set_cons_zero, List.set_cons_succ]
            refine wpAnyH_ready (rs := [7]) (by kernel_rfl) (by simp) ?_
            refine AllReadyH.cons rfl (fun K hK => ?_) AllReadyH.nil
            rw [if_pos (by kernel_rfl)]
            refine append_bw _ _ rfl u.heap.size _ [] (s.l.take s.s) rfl OW.out q s.s cq rfl hcq.2.2 ((Q.out.1.below BL.out).head s.s (by omega)) (by rw [List.length_take]; simp; omega) BL.out.size ?_
            intro v1 wB ho hgr hbel
            rw [List.nil_append] at ho
            obtain ⟨p1, c1, rfl, hbs, hcp1⟩ := ho.open (By.take Q.out.1.2.2.1 s.s)
            have BS1 := hide hbs
            have OFF := hide (ho.off (X := X) (fun b hb => Nat.lt_of_lt_of_le (HX.out b hb) B0.out.size))
            replace BL := hide (hbel _ BL.out)
            have KW : KP w.heap.size u wB := (KP.refl _ u).next BL.out
            clear OW hbs ho hgr hbel
            change K (Act.put _ (some 56) _) _
            refine hK.out _ _ ?hs84 (fun hS3 => ?_)
            case hs84 => exact KW
            clear hK K
            try simp only [Act.put, List.setIfInBounds_toArray, List.set_cons_zero, List.set_cons_succ]
            refine takeInH 9 58 ?v85 rfl rfl (by kernel_rfl) (by kernel_rfl) (by kernel_rfl) (fun _ _ _ h => h) (by kernel_rfl) hS3 ?hy85 ?_
            case hy85 => (intro W hW; clear hW; go_simp; try rfl)
            simp only [Act.put, List.setIfInBounds_toArray, List.set_cons_zero, List.set_cons_succ]
            refine wpAnyH_ready (rs := [10]) (by kernel_rfl) (by simp) ?_
            refine AllReadyH.cons rfl (fun K hK => ?_) AllReadyH.nil
            go_simp
            refine (setR_any _ e k _ ⟨s.l.take s.s, s.s⟩ _ (HRu.out.below BL.out) ⟨p1, c1, by rw [HTL.out], ⟨BS1.out, OFF.out⟩, hcp1⟩).mono ?_
            rintro x wC ⟨y, rfl, hy, hb⟩
            rw [HQT.out] at hy
            replace BL := hide (bel_next BL.out hb)
            have HY := hide hy
            obtain ⟨pa2, ca2, pb2, cb2, rfl, _⟩ := hy
            have KW : KP w.heap.size u wC := (KP.refl _ u).next BL.out
            clear hb BS1
            try go_wp2_with fail
            refine hK.out _ _ ?hs86 (fun hS4 => ?_)
            case hs86 => exact KW
            clear hK K
            try simp only [Act.put, List.setIfInBounds_toArray, List.set_cons_zero, List.set_cons_succ]
            refine wpAnyH_ready (rs := [11]) (by kernel_rfl) (by simp) ?_
            refine AllReadyH.cons rfl (fun K hK => ?_) AllReadyH.nil
            have b1w := B1.out.below BL.out
            have c0 := b1w.cell 0 _ rfl
            have c1 := b1w.cell 1 _ rfl
            have c2 := b1w.cell 2 _ rfl
            have c3 := b1w.cell 3 _ rfl
            have c4 := b1w.cell 4 _ rfl
            have c5 := b1w.cell 5 _ rfl
            have c6 := b1w.cell 6 _ rfl
            have hfr := fun j => b1w.free j
            have B1w := hide b1w
            clear b1w
            go_simp
            clear c0 c1 c2 c3 c4 c5 c6 hfr
            obtain ⟨r1, r2, r3, r4⟩ := B1w.out.put7 (.slice pa2 f.a.l.length ca2) (.int .i64 f.a.s) (.slice pb2 f.b.l.length cb2) (.int .i64 f.b.s) (.int .i64 f.room) (.int .i64 f.stop) (.bool f.dead)
            have KW := KP.after BL.out r2
            have HC2 : Hid (CrS X w d ks (k + 1) _) := ⟨_, r1, by rw [HK.out]; exact HY.out.kp r2 B1w.out (NoB.disk _ _ _ _ _ _ _ _ _ _ _), r4 _ _ _ (B2.out.below BL.out) (by omega), r3 _ _ (bel_next B0.out BL.out) (Nat.le_refl _)⟩
            clear r1 r2 r3 r4
            go_simp
            refine hK.out _ _ ?hs87 (fun hS5 => ?_)
            case hs87 => exact KW
            clear hK K
            try simp only [Act.put, List.setIfInBounds_toArray, List.set_cons_zero, List.set_cons_succ]
            refine wpAnyH_done (by kernel_rfl) ?_ _
            go_wp2
            go_roundw
            case rel => exact ⟨k + 1, by omega, by go_num, HC2⟩
            case measure => simp [intOf]; omega
          · rw [if_pos (by kernel_rfl)]
            refine append_bw _ _ rfl u.heap.size _ [] (s.l.take s.s) rfl OW.out q s.s cq rfl hcq.2.2 ((Q.out.1.below BL.out).head s.s (by omega)) (by rw [List.length_take]; simp; omega) BL.out.size ?_
            intro v1 wB ho hgr hbel
            rw [List.nil_append] at ho
            obtain ⟨p1, c1, rfl, hbs, hcp1⟩ := ho.open (By.take Q.out.1.2.2.1 s.s)
            have BS1 := hide hbs
            have OFF := hide (ho.off (X := X) (fun b hb => Nat.lt_of_lt_of_le (HX.out b hb) B0.out.size))
            replace BL := hide (hbel _ BL.out)
            have KW : KP w.heap.size u wB := (KP.refl _ u).next BL.out
            clear OW hbs ho hgr hbel
            change K (Act.put _ (some 56) _) _
            refine hK.out _ _ ?hs88 (fun hS2 => ?_)
            case hs88 => exact KW
            clear hK K
            try simp only [Act.put, List.setIfInBounds_toArray, List.set_cons_zero, List.set_cons_succ]
            refine takeInH 9 58 ?v89 rfl rfl (by kernel_rfl) (by kernel_rfl) (by kernel_rfl) (fun _ _ _ h => h) (by kernel_rfl) hS2 ?hy89 ?_
            case hy89 => (intro W hW; clear hW; go_simp; try rfl)
            simp only [Act.put, List.setIfInBounds_toArray, List.set_cons_zero, List.set_cons_succ]
            refine wpAnyH_ready (rs := [0]) (by kernel_rfl) (by simp) ?_
            refine AllReadyH.cons rfl (fun K hK => ?_) AllReadyH.nil
            have b1w := B1.out.below BL.out
            have c0 := b1w.cell 0 _ rfl
            have c1 := b1w.cell 1 _ rfl
            have c2 := b1w.cell 2 _ rfl
            have c3 := b1w.cell 3 _ rfl
            have c4 := b1w.cell 4 _ rfl
            have c5 := b1w.cell 5 _ rfl
            have c6 := b1w.cell 6 _ rfl
            go_simp
            clear c0 c1 c2 c3 c4 c5 c6 b1w
            go_simp
            refine hK.out _ _ ?hs90 (fun hS3 => ?_)
            case hs90 => exact hS2
            clear hK K
            try simp only [Act.put, List.setIfInBounds_toArray, List.set_cons_zero, List.set_cons_succ]
            refine wpAnyH_ready (rs := [10]) (by kernel_rfl) (by simp) ?_
            refine AllReadyH.cons rfl (fun K hK => ?_) AllReadyH.nil
            go_simp
            refine (setR_any _ e k _ ⟨s.l.take s.s, s.s⟩ _ (HRu.out.below BL.out) ⟨p1, c1, by rw [HTL.out], ⟨BS1.out, OFF.out⟩, hcp1⟩).mono ?_
            rintro x wC ⟨y, rfl, hy, hb⟩
            rw [HQT.out] at hy
            replace BL := hide (bel_next BL.out hb)
            have HY := hide hy
            obtain ⟨pa2, ca2, pb2, cb2, rfl, _⟩ := hy
            have KW : KP w.heap.size u wC := (KP.refl _ u).next BL.out
            clear hb BS1
            try go_wp2_with fail
            refine hK.out _ _ ?hs91 (fun hS4 => ?_)
            case hs91 => exact KW
            clear hK K
            try simp only [Act.put, List.setIfInBounds_toArray, List.set_cons_zero, List.set_cons_succ]
            refine wpAnyH_ready (rs := [11]) (by kernel_rfl) (by simp) ?_
            refine AllReadyH.cons rfl (fun K hK => ?_) AllReadyH.nil
            have b1w := B1.out.below BL.out
            have c0 := b1w.cell 0 _ rfl
            have c1 := b1w.cell 1 _ rfl
            have c2 := b1w.cell 2 _ rfl
            have c3 := b1w.cell 3 _ rfl
            have c4 := b1w.cell 4 _ rfl
            have c5 := b1w.cell 5 _ rfl
            have c6 := b1w.cell 6 _ rfl
            have hfr := fun j => b1w.free j
            have B1w := hide b1w
            clear b1w
            go_simp
            clear c0 c1 c2 c3 c4 c5 c6 hfr
            obtain ⟨r1, r2, r3, r4⟩ := B1w.out.put7 (.slice pa2 f.a.l.length ca2) (.int .i64 f.a.s) (.slice pb2 f.b.l.length cb2) (.int .i64 f.b.s) (.int .i64 f.room) (.int .i64 f.stop) (.bool f.dead)
            have KW := KP.after BL.out r2
            have HC2 : Hid (CrS X w d ks (k + 1) _) := ⟨_, r1, by rw [HK.out]; exact HY.out.kp r2 B1w.out (NoB.disk _ _ _ _ _ _ _ _ _ _ _), r4 _ _ _ (B2.out.below BL.out) (by omega), r3 _ _ (bel_next B0.out BL.out) (Nat.le_refl _)⟩
            clear r1 r2 r3 r4
            go_simp
            refine hK.out _ _ ?hs92 (fun hS5 => ?_)
            case hs92 => exact KW
            clear hK K
            try simp only [Act.put, List.setIfInBounds_toArray, List.set_cons_zero, List.set_cons_succ]
            refine wpAnyH_done (by kernel_rfl) ?_ _
            go_wp2
            go_roundw
            case rel => exact ⟨k + 1, by omega, by go_num, HC2⟩
            case measure => simp [intOf]; omega
    · have hk2 : k = 2 := by omega
      subst hk2
      obtain ⟨pa, ca, pb, cb, b1, hR, b2, hB0⟩ := HC.out.open
      clear HC
      have HW := HTW
      generalize crK d ks 2 = e at *
      have HR := hide hR
      have B0 := hide hB0
      have a1 := (b1.set 6 (.bool false)).set 5 (.int .i64 (-1))
      have a2 := (b2.other (k := w.heap.size) (by omega) 6 (.bool false)).other (k := w.heap.size) (by omega) 5 (.int .i64 (-1))
      have f1 := fun j => b1.free j
      have u6 := b1.cell 6 _ rfl
      have u5 := (b1.set 6 (.bool false)).cell 5 _ rfl
      have g1 := fun j => (b1.set 6 (.bool false)).free j
      have B1 := hide b1
      have A1 := hide a1
      have A2 := hide a2
      have c0 := a1.cell 0 _ rfl
      have c1 := a1.cell 1 _ rfl
      have c2 := a1.cell 2 _ rfl
      have c3 := a1.cell 3 _ rfl
      have c4 := a1.cell 4 _ rfl
      have c5 := a1.cell 5 _ rfl
      have c6 := a1.cell 6 _ rfl
      have d0 := a2.cell 0 _ rfl
      have d1 := a2.cell 1 _ rfl
      have d2 := a2.cell 2 _ rfl
      have d3 := a2.cell 3 _ rfl
      have d4 := a2.cell 4 _ rfl
      have d5 := a2.cell 5 _ rfl
      have d6 := a2.cell 6 _ rfl
      have hf := fun j => a2.free j
      have hz := b2.size
      clear b1 b2 a1 a2 hR hB0
      go_wp2
      obtain ⟨r1, r2, r3, r4⟩ := A2.out.put7 (.slice pa e.a.l.length ca) (.int .i64 e.a.s) (.slice pb e.b.l.length cb) (.int .i64 e.b.s) (.int .i64 e.room) (.int .i64 (-1)) (.bool false)
      have K1 := ((KP.refl w.heap.size wr).set 6 (.bool false)).set 5 (.int .i64 (-1))
      refine bodyPost_ret (results_cell_row rfl _ _ _ _ _ _ _ rfl r1 Try.underlying33 rfl Try.infoRD) rfl ⟨_, rfl, ?_, r3 _ _ ((B0.out.setCell (p := ⟨w.heap.size, 6, none⟩) (Nat.le_refl _) _).setCell (p := ⟨w.heap.size, 5, none⟩) (Nat.le_refl _) _) (by omega)⟩
      rw [← HW.out]
      obtain ⟨qa, qc, qb, qd, hv, h1, h2, h3, h4⟩ := HR.out
      cases hv
      exact ⟨pa, ca, pb, cb, rfl, (h1.kp K1 B1.out (NoB.disk _ _ _ _ _ _ _ _ _ _ _)).kp r2 A2.out (NoB.disk _ _ _ _ _ _ _ _ _ _ _), h2, (h3.kp K1 B1.out (NoB.disk _ _ _ _ _ _ _ _ _ _ _)).kp r2 A2.out (NoB.disk _ _ _ _ _ _ _ _ _ _ _), h4⟩
end
end Go.Proofs.Yteamedilcpfkgaa
