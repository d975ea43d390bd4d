/- Texts of this claim, joined: H14. -/
import Derived.Test.YtkbbegbpkndebaaGreatJ13
import Derived.Test.YtkbbegbpkndebaaGreatJ28
import Derived.Test.YtkbbegbpkndebaaGreatJ59
import Derived.Test.YtkbbegbpkndebaaGreatJ9
/- Light of layer 13's statements; kinds and raw that come in. -/
namespace Go.Proofs.YtkbbegbpkndebaaGreat
open Go.RowKit Go.ChangeShapes Go.WideShapes
set_option linter.unusedVariables false
structure LtW (k : Kd) (r : Rw) : Prop where
 ks : k.1.length ≤ 10
 kc : k.2.1.length ≤ 10
 l1 : r.1.length ≤ 10
 l2 : r.2.1.length ≤ 10
 l3 : r.2.2.1.length ≤ 10
 l4 : r.2.2.2.length ≤ 10
 s1 : ∀ s ∈ r.1, s.length ≤ 30 ∧ ∀ x ∈ s, fewN x
 s2 : ∀ s ∈ r.2.1, s.length ≤ 60
 s3 : ∀ s ∈ r.2.2.1, s.length ≤ 60
 s4 : ∀ s ∈ r.2.2.2, s.length ≤ 60
def LightW (k : Kd) (r : Rw) (w : World) (e : Ending) (w' : World) : Prop := ∃ b : Bool, e = .returned (.bool b) ∧ (b = true → LtW k r) ∧ Below w.heap.size w w'
set_option maxRecDepth 2000 in
set_option maxHeartbeats 16000000 in
theorem light13 (ps : Option Addr) (ns cs : Nat) (pc : Option Addr) (nc cc : Nat) (k : Kd) (g : Int) (p1 : Option Addr) (n1 c1 : Nat) (p2 : Option Addr) (n2 c2 : Nat) (p3 : Option Addr) (n3 c3 : Nat) (p4 : Option Addr) (n4 c4 : Nat) (r : Rw) (w : World) (hK : KM w ps ns cs pc nc cc k) (hR : RM w p1 n1 c1 p2 n2 c2 p3 n3 c3 p4 n4 c4 r) : Calls Tryz.prog 7 #[.agg #[.slice ps ns cs, .slice pc nc cc, .int .i64 g], .agg #[.slice p1 n1 c1, .slice p2 n2 c2, .slice p3 n3 c3, .slice p4 n4 c4]] w (LightW k r w) := by
 have HR := hide hR
 have HKS := hide hK.s.1
 have HKC := hide hK.c.1
 have HL1 := hide (LS.len hR.s)
 have HL2 := hide (LS.len hR.t)
 have HL3 := hide (LS.len hR.a)
 have HL4 := hide (LS.len hR.g)
 clear hK hR
 have HB0 := hide (bel2 w (.cells #[.slice ps ns cs, .slice pc nc cc, .int .i64 g] 25) (.cells #[.slice p1 n1 c1, .slice p2 n2 c2, .slice p3 n3 c3, .slice p4 n4 c4] 31))
 have a0 := cell_old (w := w.alloc (.cells #[.slice ps ns cs, .slice pc nc cc, .int .i64 g] 25)) (.cells #[.slice p1 n1 c1, .slice p2 n2 c2, .slice p3 n3 c3, .slice p4 n4 c4] 31) (cell_new w #[.slice ps ns cs, .slice pc nc cc, .int .i64 g] 25 _ rfl 0 _ rfl)
 have a1 := cell_old (w := w.alloc (.cells #[.slice ps ns cs, .slice pc nc cc, .int .i64 g] 25)) (.cells #[.slice p1 n1 c1, .slice p2 n2 c2, .slice p3 n3 c3, .slice p4 n4 c4] 31) (cell_new w #[.slice ps ns cs, .slice pc nc cc, .int .i64 g] 25 _ rfl 1 _ rfl)
 have b1 := cell_new (w.alloc (.cells #[.slice ps ns cs, .slice pc nc cc, .int .i64 g] 25)) #[.slice p1 n1 c1, .slice p2 n2 c2, .slice p3 n3 c3, .slice p4 n4 c4] 31 (w.heap.size + 1) (by simp) 0 _ rfl
 have b2 := cell_new (w.alloc (.cells #[.slice ps ns cs, .slice pc nc cc, .int .i64 g] 25)) #[.slice p1 n1 c1, .slice p2 n2 c2, .slice p3 n3 c3, .slice p4 n4 c4] 31 (w.heap.size + 1) (by simp) 1 _ rfl
 have b3 := cell_new (w.alloc (.cells #[.slice ps ns cs, .slice pc nc cc, .int .i64 g] 25)) #[.slice p1 n1 c1, .slice p2 n2 c2, .slice p3 n3 c3, .slice p4 n4 c4] 31 (w.heap.size + 1) (by simp) 2 _ rfl
 have b4 := cell_new (w.alloc (.cells #[.slice ps ns cs, .slice pc nc cc, .int .i64 g] 25)) #[.slice p1 n1 c1, .slice p2 n2 c2, .slice p3 n3 c3, .slice p4 n4 c4] 31 (w.heap.size + 1) (by simp) 3 _ rfl
 by_cases g0 : (10 : Int) < (ns : Int)
 ·go_enter Tryz.func7, Tryz.ntmps7
  go_wp2
  go_ret
  exact ⟨false, rfl, (fun h => by cases h), HB0.out⟩
 ·by_cases g1 : (10 : Int) < (nc : Int)
  ·go_enter Tryz.func7, Tryz.ntmps7
   go_wp2
   go_ret
   exact ⟨false, rfl, (fun h => by cases h), HB0.out⟩
  ·by_cases g2 : (10 : Int) < (n1 : Int)
   ·go_enter Tryz.func7, Tryz.ntmps7
    go_wp2
    go_ret
    exact ⟨false, rfl, (fun h => by cases h), HB0.out⟩
   ·by_cases g3 : (10 : Int) < (n2 : Int)
    ·go_enter Tryz.func7, Tryz.ntmps7
     go_wp2
     go_ret
     exact ⟨false, rfl, (fun h => by cases h), HB0.out⟩
    ·by_cases g4 : (10 : Int) < (n3 : Int)
     ·go_enter Tryz.func7, Tryz.ntmps7
      go_wp2
      go_ret
      exact ⟨false, rfl, (fun h => by cases h), HB0.out⟩
     ·by_cases g5 : (10 : Int) < (n4 : Int)
      ·go_enter Tryz.func7, Tryz.ntmps7
       go_wp2
       go_ret
       exact ⟨false, rfl, (fun h => by cases h), HB0.out⟩
      ·go_enter Tryz.func7, Tryz.ntmps7
       go_upto_region 3 with fail
       have Y1 := hide b1
       have Y2 := hide b2
       have Y3 := hide b3
       have Y4 := hide b4
       generalize (w.alloc (.cells #[.slice ps ns cs, .slice pc nc cc, .int .i64 g] 25)).alloc (.cells #[.slice p1 n1 c1, .slice p2 n2 c2, .slice p3 n3 c3, .slice p4 n4 c4] 31) = u at *
       obtain ⟨wC, hC⟩ : ∃ x, u = x := ⟨_, rfl⟩
       have HBW : Hid (Below u.heap.size u wC) := by unfold Hid; rw [← hC]; exact Below.refl _ _
       rw [hC] at b1 b2 b3 b4 ⊢
       clear hC a0 a1
       go_wp2
       go_loopw [5] (fun v wr => ∃ i : Nat, i ≤ n1 ∧ v = .int .i64 i ∧ Hid (∀ s ∈ r.1.take i, s.length ≤ 30 ∧ ∀ x ∈ s, fewN x) ∧ Hid (Below wC.heap.size wC wr)) (fun v _ => n1 - (RowKit.intOf v).toNat)
       case atStart => exact ⟨0, by omega, rfl, (fun s hs => by simp at hs), Below.refl _ _⟩
       case round =>
        clear b1 b2 b3 b4
        obtain ⟨k0, hk, rfl, HF, HB⟩ := hrel
        have b1 := bcell (bel_next HBW.out HB.out) Y1.out
        have b2 := bcell (bel_next HBW.out HB.out) Y2.out
        have b3 := bcell (bel_next HBW.out HB.out) Y3.out
        have b4 := bcell (bel_next HBW.out HB.out) Y4.out
        by_cases hlt : k0 < n1
        ·obtain ⟨ba, oa, rfl⟩ := LS.addr HR.out.s (by omega)
         obtain ⟨px, nx, cx, lx, hx, x0, hX, _⟩ := LS.at ((HR.out.below (bel_next HB0.out (bel_next HBW.out HB.out))).s) k0 hlt
         have HX1 := hide hX
         have hnx := kept_ent.len hX
         have hk0 : (0 : Int) ≤ (k0 : Int) := by omega
         have hk1 : (k0 : Int) < (n1 : Int) := by omega
         go_wp2_with (go_at_call 35; refine (light8 px nx cx lx _ HX1.out).mono ?_; rintro e wn ⟨bl, rfl, hl, rfl⟩; refine Stop.at ?_)
         unfold Stop
         cases bl
         ·go_wp2
          go_ret
          exact ⟨false, rfl, (fun h => by cases h), bel_next HB0.out (bel_next HBW.out HB.out)⟩
         ·have HF2 : Hid (∀ s ∈ r.1.take (k0 + 1), s.length ≤ 30 ∧ ∀ x ∈ s, fewN x) := by
           intro s hs
           rw [takeG_snoc hx] at hs
           rcases List.mem_append.1 hs with q | q
           ·exact HF.out s q
           ·rw [List.mem_singleton] at q; subst q; exact ⟨by have := (hl rfl).1; omega, (hl rfl).2⟩
          clear hx hX hl
          go_wp2
          go_roundw
          case rel => exact ⟨k0 + 1, by omega, by go_num, HF2, HB⟩
          case measure => simp [RowKit.intOf]; omega
        ·obtain rfl : k0 = n1 := by omega
         have HE1 : Hid (∀ s ∈ r.1, s.length ≤ 30 ∧ ∀ x ∈ s, fewN x) := by
          have h := HF.out
          rwa [List.take_of_length_le (by rw [HL1.out]; exact Nat.le_refl _)] at h
         clear HF
         replace HBW := hide (bel_next HBW.out HB.out)
         clear HB
         generalize hww : wr = wC at *
         clear hww
         go_wp2
         go_loopw [6] (fun v wr => ∃ i : Nat, i ≤ n2 ∧ v = .int .i64 i ∧ Hid (∀ s ∈ r.2.1.take i, s.length ≤ 60) ∧ Hid (Below wC.heap.size wC wr)) (fun v _ => n2 - (RowKit.intOf v).toNat)
         case atStart => exact ⟨0, by omega, rfl, (fun s hs => by simp at hs), Below.refl _ _⟩
         case round =>
          clear b2 b3 b4
          obtain ⟨k0, hk, rfl, HF, HB⟩ := hrel
          have b2 := bcell (bel_next HBW.out HB.out) Y2.out
          have b3 := bcell (bel_next HBW.out HB.out) Y3.out
          have b4 := bcell (bel_next HBW.out HB.out) Y4.out
          by_cases hlt : k0 < n2
          ·obtain ⟨ba, oa, rfl⟩ := LS.addr HR.out.t (by omega)
           obtain ⟨px, nx, cx, lx, hx, x0, hX, _⟩ := LS.at ((HR.out.below (bel_next HB0.out (bel_next HBW.out HB.out))).t) k0 hlt
           have HX1 := hide hX
           have hnx := kept_cel.len hX
           have hk0 : (0 : Int) ≤ (k0 : Int) := by omega
           have hk1 : (k0 : Int) < (n2 : Int) := by omega
           go_wp2_with (go_at_call 36; refine (light10 px nx cx lx _ HX1.out).mono ?_; rintro e wn ⟨bl, rfl, hl, rfl⟩; refine Stop.at ?_)
           unfold Stop
           cases bl
           ·go_wp2
            go_ret
            exact ⟨false, rfl, (fun h => by cases h), bel_next HB0.out (bel_next HBW.out HB.out)⟩
           ·have HF2 : Hid (∀ s ∈ r.2.1.take (k0 + 1), s.length ≤ 60) := by
             intro s hs
             rw [takeG_snoc hx] at hs
             rcases List.mem_append.1 hs with q | q
             ·exact HF.out s q
             ·rw [List.mem_singleton] at q; subst q; exact by have := (hl rfl).1; omega
            clear hx hX hl
            go_wp2
            go_roundw
            case rel => exact ⟨k0 + 1, by omega, by go_num, HF2, HB⟩
            case measure => simp [RowKit.intOf]; omega
          ·obtain rfl : k0 = n2 := by omega
           have HE2 : Hid (∀ s ∈ r.2.1, s.length ≤ 60) := by
            have h := HF.out
            rwa [List.take_of_length_le (by rw [HL2.out]; exact Nat.le_refl _)] at h
           clear HF
           replace HBW := hide (bel_next HBW.out HB.out)
           clear HB
           generalize hww : wr = wC at *
           clear hww
           go_wp2
           go_loopw [7] (fun v wr => ∃ i : Nat, i ≤ n3 ∧ v = .int .i64 i ∧ Hid (∀ s ∈ r.2.2.1.take i, s.length ≤ 60) ∧ Hid (Below wC.heap.size wC wr)) (fun v _ => n3 - (RowKit.intOf v).toNat)
           case atStart => exact ⟨0, by omega, rfl, (fun s hs => by simp at hs), Below.refl _ _⟩
           case round =>
            clear b3 b4
            obtain ⟨k0, hk, rfl, HF, HB⟩ := hrel
            have b3 := bcell (bel_next HBW.out HB.out) Y3.out
            have b4 := bcell (bel_next HBW.out HB.out) Y4.out
            by_cases hlt : k0 < n3
            ·obtain ⟨ba, oa, rfl⟩ := LS.addr HR.out.a (by omega)
             obtain ⟨px, nx, cx, lx, hx, x0, hX, _⟩ := LS.at ((HR.out.below (bel_next HB0.out (bel_next HBW.out HB.out))).a) k0 hlt
             have HX1 := hide hX
             have hnx := kept_acc.len hX
             have hk0 : (0 : Int) ≤ (k0 : Int) := by omega
             have hk1 : (k0 : Int) < (n3 : Int) := by omega
             go_wp2_with (go_at_call 37; refine (light11 px nx cx lx _ HX1.out).mono ?_; rintro e wn ⟨bl, rfl, hl, rfl⟩; refine Stop.at ?_)
             unfold Stop
             cases bl
             ·go_wp2
              go_ret
              exact ⟨false, rfl, (fun h => by cases h), bel_next HB0.out (bel_next HBW.out HB.out)⟩
             ·have HF2 : Hid (∀ s ∈ r.2.2.1.take (k0 + 1), s.length ≤ 60) := by
               intro s hs
               rw [takeG_snoc hx] at hs
               rcases List.mem_append.1 hs with q | q
               ·exact HF.out s q
               ·rw [List.mem_singleton] at q; subst q; exact by have := (hl rfl).1; omega
              clear hx hX hl
              go_wp2
              go_roundw
              case rel => exact ⟨k0 + 1, by omega, by go_num, HF2, HB⟩
              case measure => simp [RowKit.intOf]; omega
            ·obtain rfl : k0 = n3 := by omega
             have HE3 : Hid (∀ s ∈ r.2.2.1, s.length ≤ 60) := by
              have h := HF.out
              rwa [List.take_of_length_le (by rw [HL3.out]; exact Nat.le_refl _)] at h
             clear HF
             replace HBW := hide (bel_next HBW.out HB.out)
             clear HB
             generalize hww : wr = wC at *
             clear hww
             go_wp2
             go_loopw [8] (fun v wr => ∃ i : Nat, i ≤ n4 ∧ v = .int .i64 i ∧ Hid (∀ s ∈ r.2.2.2.take i, s.length ≤ 60) ∧ Hid (Below wC.heap.size wC wr)) (fun v _ => n4 - (RowKit.intOf v).toNat)
             case atStart => exact ⟨0, by omega, rfl, (fun s hs => by simp at hs), Below.refl _ _⟩
             case round =>
              clear b4
              obtain ⟨k0, hk, rfl, HF, HB⟩ := hrel
              have b4 := bcell (bel_next HBW.out HB.out) Y4.out
              by_cases hlt : k0 < n4
              ·obtain ⟨ba, oa, rfl⟩ := LS.addr HR.out.g (by omega)
               obtain ⟨px, nx, cx, lx, hx, x0, hX, _⟩ := LS.at ((HR.out.below (bel_next HB0.out (bel_next HBW.out HB.out))).g) k0 hlt
               have HX1 := hide hX
               have hnx := kept_not.len hX
               have hk0 : (0 : Int) ≤ (k0 : Int) := by omega
               have hk1 : (k0 : Int) < (n4 : Int) := by omega
               go_wp2_with (go_at_call 38; refine (light12 px nx cx lx _ HX1.out).mono ?_; rintro e wn ⟨bl, rfl, hl, rfl⟩; refine Stop.at ?_)
               unfold Stop
               cases bl
               ·go_wp2
                go_ret
                exact ⟨false, rfl, (fun h => by cases h), bel_next HB0.out (bel_next HBW.out HB.out)⟩
               ·have HF2 : Hid (∀ s ∈ r.2.2.2.take (k0 + 1), s.length ≤ 60) := by
                 intro s hs
                 rw [takeG_snoc hx] at hs
                 rcases List.mem_append.1 hs with q | q
                 ·exact HF.out s q
                 ·rw [List.mem_singleton] at q; subst q; exact by have := (hl rfl).1; omega
                clear hx hX hl
                go_wp2
                go_roundw
                case rel => exact ⟨k0 + 1, by omega, by go_num, HF2, HB⟩
                case measure => simp [RowKit.intOf]; omega
              ·obtain rfl : k0 = n4 := by omega
               have HE4 : Hid (∀ s ∈ r.2.2.2, s.length ≤ 60) := by
                have h := HF.out
                rwa [List.take_of_length_le (by rw [HL4.out]; exact Nat.le_refl _)] at h
               clear HF
               replace HBW := hide (bel_next HBW.out HB.out)
               clear HB
               generalize hww : wr = wC at *
               clear hww
               have HALL : Hid (LtW k r) := ⟨by rw [HKS.out]; omega, by rw [HKC.out]; omega, by rw [HL1.out]; omega, by rw [HL2.out]; omega, by rw [HL3.out]; omega, by rw [HL4.out]; omega, HE1.out, HE2.out, HE3.out, HE4.out⟩
               go_wp2
               go_ret
               exact ⟨true, rfl, fun _ => HALL.out, bel_next HB0.out HBW.out⟩
/-! What comes in -/
theorem Tryz.cellsBo : Tryz.prog.cellsOf 4 = 1 := by kernel_rfl
theorem Tryz.cellsFl : Tryz.prog.cellsOf 84 = 2 := by kernel_rfl
theorem Tryz.cellsKd : Tryz.prog.cellsOf 25 = 3 := by kernel_rfl
theorem Tryz.cellsRw : Tryz.prog.cellsOf 31 = 4 := by kernel_rfl
theorem Tryz.cellsI13 : Tryz.prog.cellsOf 3 = 1 := by kernel_rfl
theorem Tryz.cellsSB : Tryz.prog.cellsOf 22 = 1 := by kernel_rfl
theorem Tryz.cellsSF : Tryz.prog.cellsOf 23 = 1 := by kernel_rfl
theorem Tryz.cellsS1 : Tryz.prog.cellsOf 26 = 1 := by kernel_rfl
theorem Tryz.cellsS2 : Tryz.prog.cellsOf 27 = 1 := by kernel_rfl
theorem Tryz.cellsS3 : Tryz.prog.cellsOf 28 = 1 := by kernel_rfl
theorem Tryz.cellsS4 : Tryz.prog.cellsOf 29 = 1 := by kernel_rfl
theorem Tryz.cellsE1 : Tryz.prog.cellsOf 74 = 1 := by kernel_rfl
theorem Tryz.cellsE2 : Tryz.prog.cellsOf 76 = 1 := by kernel_rfl
theorem Tryz.cellsE3 : Tryz.prog.cellsOf 78 = 1 := by kernel_rfl
theorem Tryz.cellsE4 : Tryz.prog.cellsOf 80 = 1 := by kernel_rfl
def floR : Rl (Bool × Int) := fun _ cs x => cs = encFl x
def booR : Rl Bool := fun _ cs x => cs = encBo x
theorem len3K {α : Type} (l : List α) (h : l.length = 3) : ∃ a b c, l = [a, b, c] := by
 match l, h with
 | [a, b, c], _ => exact ⟨a, b, c, rfl⟩
theorem open_boo : Opens 4 booR := Opens.bool Tryz.underlying4
set_option maxRecDepth 100000 in
theorem open_flo : Opens 84 floR := by
 intro H enc W fuel cs y h
 obtain ⟨xs, k, hk, hxy, hcl, hxl, hf⟩ := DataW.trod_struct Tryz.underlying84 h
 rw [Tryz.cellsFl] at hcl
 obtain ⟨v0, v1, rfl⟩ := len2T cs hcl
 obtain ⟨y0, y1, rfl⟩ := len2T xs hxl
 have g0 : DataW.trod enc Tryz.prog W 0 (fun _ => true) true k 4 (([v0, v1].drop 0).take (Tryz.prog.cellsOf 4)) = some y0 := hf 0 _ rfl
 have g1 : DataW.trod enc Tryz.prog W 0 (fun _ => true) true k 3 (([v0, v1].drop 1).take (Tryz.prog.cellsOf 3)) = some y1 := hf 1 _ rfl
 rw [Tryz.cellsBo] at g0
 rw [Tryz.cellsI13] at g1
 obtain ⟨a0, h0⟩ := Opens.bool Tryz.underlying4 _ _ _ _ _ _ g0
 obtain ⟨a1, h1⟩ := Opens.int Tryz.underlying3 _ _ _ _ _ _ g1
 simp [boolR] at h0
 simp [intR] at h1
 exact ⟨(a0, a1), by rw [h0, h1]; rfl⟩
theorem SR.rs {α : Type} {enc : α → List Value} {k : Nat} {w : World} {a : Option Addr} {n : Nat} {s : List α} (h : SR k (fun _ cs x => cs = enc x) w a n s) : RS enc k w a n s := by
 obtain ⟨h1, h2, h3⟩ := h
 refine ⟨h1, h2, h3.imp id ?_⟩
 rintro ⟨b, off, ha, hc⟩
 refine ⟨b, off, ha, fun i x hx j v hj => ?_⟩
 obtain ⟨r, _, hr, hcell⟩ := hc i x hx
 rw [hr] at hcell
 exact hcell j v hj
def InKd (w : World) (v : Value) : Prop := ∃ ps ns cs pc nc cc k, v = .agg #[.slice ps ns cs, .slice pc nc cc, .int .i64 k.2.2] ∧ KM w ps ns cs pc nc cc k
set_option maxRecDepth 100000 in
theorem in_kinds {H : Type} {enc : TypeId × Value → H} {W : World} {v : Value} {d : DataW H} {p : List MemPlace} {base : Nat} (hok : Value.okWide Tryz.prog W .any base 25 v) (h : DataW.Trod enc Tryz.prog W 0 (fun _ => true) true 25 v d p) (hw : ∀ n ∈ d.weights Tryz.prog 25, n ≤ reachBytes) : InKd W v := by
 obtain ⟨cs, rfl, hsz⟩ := okWide_struct Tryz.underlying25 hok
 obtain ⟨cs⟩ := cs
 obtain ⟨a0, a1, a2, rfl⟩ := len3K cs (by simpa using hsz.trans Tryz.cellsKd)
 obtain ⟨fuel, hf⟩ := h
 obtain ⟨xs, k, hk, hxy, hcl, hxl, hf⟩ := DataW.trod_struct Tryz.underlying25 (show DataW.trod enc Tryz.prog W 0 (fun _ => true) true fuel 25 [a0, a1, a2] = some (d, p) from by simpa [Value.cells] using hf)
 obtain ⟨y0, y1, y2, rfl⟩ := len3K xs hxl
 have g0 : DataW.trod enc Tryz.prog W 0 (fun _ => true) true k 22 (([a0, a1, a2].drop 0).take (Tryz.prog.cellsOf 22)) = some y0 := hf 0 _ rfl
 have g1 : DataW.trod enc Tryz.prog W 0 (fun _ => true) true k 23 (([a0, a1, a2].drop 1).take (Tryz.prog.cellsOf 23)) = some y1 := hf 1 _ rfl
 have g2 : DataW.trod enc Tryz.prog W 0 (fun _ => true) true k 3 (([a0, a1, a2].drop 2).take (Tryz.prog.cellsOf 3)) = some y2 := hf 2 _ rfl
 rw [Tryz.cellsSB] at g0
 rw [Tryz.cellsSF] at g1
 rw [Tryz.cellsI13] at g2
 obtain ⟨l0, p0, n0, c0, e0, h0, k0⟩ := (Opens.slice Tryz.underlying22 Tryz.cellsBo (by decide) open_boo false) _ _ _ _ _ _ g0
 obtain ⟨l1, p1, n1, c1, e1, h1, k1⟩ := (Opens.slice Tryz.underlying23 Tryz.cellsFl (by decide) open_flo (false, 0)) _ _ _ _ _ _ g1
 obtain ⟨x2, h2⟩ := Opens.int Tryz.underlying3 _ _ _ _ _ _ g2
 simp at e0 e1
 simp [intR] at h2
 exact ⟨p0, n0, c0, p1, n1, c1, (l0, l1, x2), by rw [e0, e1, h2], ⟨SR.rs h0, SR.rs h1, k0, k1⟩⟩
theorem SR.ls {α : Type} {I : LI α} {J : World → Option Addr → Nat → List α → Prop} (hJ : ∀ {w p m l}, J w p m l → I w p m l) {w : World} {a : Option Addr} {n : Nat} {ls : List (List α)} (h : SR 1 (fun w cs (l : List α) => ∃ a n cap, cs = [.slice a n cap] ∧ J w a n l ∧ CP a n cap) w a n ls) : LS I w a n ls := by
 obtain ⟨h1, h2, h3⟩ := h
 rcases Nat.eq_zero_or_pos n with hz | hp
 ·subst hz
  obtain rfl : ls = [] := List.eq_nil_of_length_eq_zero h1
  exact LS.nil _ _
 ·obtain ⟨b, off, ha, hc⟩ : ∃ b off, a = some ⟨b, off, none⟩ ∧ ∀ (i : Nat) x, ls[i]? = some x → ∃ r, r.length = 1 ∧ (∃ a n cap, r = [.slice a n cap] ∧ J w a n x ∧ CP a n cap) ∧ ∀ (j : Nat) v, r[j]? = some v → w.cell? ⟨b, off + i * 1 + j, none⟩ = some v := by
   rcases h3 with h0 | h0
   ·omega
   ·exact h0
  have each : ∀ i : Nat, i < n → ∃ x : Hd, w.cell? ⟨b, off + i, none⟩ = some (.slice x.1 x.2.1 x.2.2) ∧ ∀ l, ls[i]? = some l → I w x.1 x.2.1 l ∧ CP x.1 x.2.1 x.2.2 := by
   intro i hi
   obtain ⟨l, hl⟩ : ∃ l, ls[i]? = some l := ⟨_, List.getElem?_eq_getElem (by rw [h1]; exact hi)⟩
   obtain ⟨r, _, ⟨p, m, c, rfl, q1, q2⟩, q3⟩ := hc i l hl
   have := q3 0 _ rfl
   rw [Nat.mul_one, Nat.add_zero] at this
   exact ⟨(p, m, c), this, fun l' hl' => by rw [hl] at hl'; cases hl'; exact ⟨hJ q1, q2⟩⟩
  have hf : ∃ f : Nat → Hd, ∀ i, i < n → w.cell? ⟨b, off + i, none⟩ = some (.slice (f i).1 (f i).2.1 (f i).2.2) ∧ ∀ l, ls[i]? = some l → I w (f i).1 (f i).2.1 l ∧ CP (f i).1 (f i).2.1 (f i).2.2 := by
   refine ⟨fun i => if h : i < n then Classical.choose (each i h) else (none, 0, 0), fun i hi => ?_⟩
   have := Classical.choose_spec (each i hi)
   simpa [hi] using this
  obtain ⟨f, hf⟩ := hf
  refine ⟨(List.range n).map f, ⟨by simp, h2, .inr ⟨b, off, ha, fun i x hx j v hj => ?_⟩⟩, by simp [h1], fun i x l hx hl => ?_⟩
  ·have hi : i < n := by have := (List.getElem?_eq_some_iff.1 hx).1; simpa using this
   obtain rfl : f i = x := by simpa [hi] using hx
   have hj0 : j = 0 := by have := (List.getElem?_eq_some_iff.1 hj).1; simp [encH] at this; exact this
   subst hj0
   simp [encH] at hj
   subst hj
   rw [Nat.mul_one, Nat.add_zero]
   exact (hf i hi).1
  ·have hi : i < n := by have := (List.getElem?_eq_some_iff.1 hx).1; simpa using this
   obtain rfl : f i = x := by simpa [hi] using hx
   exact (hf i hi).2 l hl
def InRw (w : World) (v : Value) : Prop := ∃ p1 n1 c1 p2 n2 c2 p3 n3 c3 p4 n4 c4 r, v = .agg #[.slice p1 n1 c1, .slice p2 n2 c2, .slice p3 n3 c3, .slice p4 n4 c4] ∧ RM w p1 n1 c1 p2 n2 c2 p3 n3 c3 p4 n4 c4 r
set_option maxRecDepth 100000 in
theorem in_raw {H : Type} {enc : TypeId × Value → H} {W : World} {v : Value} {d : DataW H} {p : List MemPlace} {base : Nat} (hok : Value.okWide Tryz.prog W .any base 31 v) (h : DataW.Trod enc Tryz.prog W 0 (fun _ => true) true 31 v d p) (hw : ∀ n ∈ d.weights Tryz.prog 31, n ≤ reachBytes) : InRw W v := by
 obtain ⟨cs, rfl, hsz⟩ := okWide_struct Tryz.underlying31 hok
 obtain ⟨cs⟩ := cs
 obtain ⟨a1, a2, a3, a4, rfl⟩ := len4Nt cs (by simpa using hsz.trans Tryz.cellsRw)
 obtain ⟨fuel, hf⟩ := h
 obtain ⟨xs, k, hk, hxy, hcl, hxl, hf⟩ := DataW.trod_struct Tryz.underlying31 (show DataW.trod enc Tryz.prog W 0 (fun _ => true) true fuel 31 [a1, a2, a3, a4] = some (d, p) from by simpa [Value.cells] using hf)
 obtain ⟨y1, y2, y3, y4, rfl⟩ := len4Nt xs hxl
 have g1 : DataW.trod enc Tryz.prog W 0 (fun _ => true) true k 26 (([a1, a2, a3, a4].drop 0).take (Tryz.prog.cellsOf 26)) = some y1 := hf 0 _ rfl
 rw [Tryz.cellsS1] at g1
 obtain ⟨l1, p1, n1, c1, e1, h1, k1⟩ := (Opens.slice Tryz.underlying26 Tryz.cellsE1 (by decide) (Opens.slice Tryz.underlying74 Tryz.cellsEnt (by decide) open_ent (⟨#[]⟩, [], [])) []) _ _ _ _ _ _ g1
 have g2 : DataW.trod enc Tryz.prog W 0 (fun _ => true) true k 27 (([a1, a2, a3, a4].drop 1).take (Tryz.prog.cellsOf 27)) = some y2 := hf 1 _ rfl
 rw [Tryz.cellsS2] at g2
 obtain ⟨l2, p2, n2, c2, e2, h2, k2⟩ := (Opens.slice Tryz.underlying27 Tryz.cellsE2 (by decide) (Opens.slice Tryz.underlying76 Tryz.cellsCel (by decide) open_cel (⟨#[]⟩, 0)) []) _ _ _ _ _ _ g2
 have g3 : DataW.trod enc Tryz.prog W 0 (fun _ => true) true k 28 (([a1, a2, a3, a4].drop 2).take (Tryz.prog.cellsOf 28)) = some y3 := hf 2 _ rfl
 rw [Tryz.cellsS3] at g3
 obtain ⟨l3, p3, n3, c3, e3, h3, k3⟩ := (Opens.slice Tryz.underlying28 Tryz.cellsE3 (by decide) (Opens.slice Tryz.underlying78 Tryz.cellsAcc (by decide) open_acc (⟨#[]⟩, [])) []) _ _ _ _ _ _ g3
 have g4 : DataW.trod enc Tryz.prog W 0 (fun _ => true) true k 29 (([a1, a2, a3, a4].drop 3).take (Tryz.prog.cellsOf 29)) = some y4 := hf 3 _ rfl
 rw [Tryz.cellsS4] at g4
 obtain ⟨l4, p4, n4, c4, e4, h4, k4⟩ := (Opens.slice Tryz.underlying29 Tryz.cellsE4 (by decide) (Opens.slice Tryz.underlying80 Tryz.cellsNot (by decide) open_not (⟨#[]⟩, 0, 0, ⟨#[]⟩)) []) _ _ _ _ _ _ g4
 simp at e1 e2 e3 e4
 exact ⟨p1, n1, c1, p2, n2, c2, p3, n3, c3, p4, n4, c4, (l1, l2, l3, l4), by rw [e1, e2, e3, e4], ⟨SR.ls (fun h => h.nss) h1, SR.ls (fun h => h.ts) h2, SR.ls (fun h => h.ac) h3, SR.ls (fun h => h.nn) h4, k1, k2, k3, k4⟩⟩
end Go.Proofs.YtkbbegbpkndebaaGreat

