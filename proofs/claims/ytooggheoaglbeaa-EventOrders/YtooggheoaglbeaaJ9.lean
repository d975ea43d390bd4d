/- Texts of this claim, joined: SSym3, SSym4, SBlk, SStab, SLay, EOrd1, EOrdG. -/
import Derived.Test.YtooggheoaglbeaaJ1
import Derived.Test.YtooggheoaglbeaaJ8
import Derived.Shelf.SlSortCmp.InsertionK
import Derived.Test.YtooggheoaglbeaaProg
import Derived.Test.YtooggheoaglbeaaJ5
import Derived.Lib.SliceRun
/- 'slices.symMergeCmpFunc' at events, where the left is the longer one. -/
namespace Go.Proofs.Ytooggheoaglbeaa
open Go.Shelf Go.RowKit Go.Lib Go.Sort
set_option linter.unusedVariables false
section
variable {P : Program} {α : Type} [Inhabited α]
set_option maxHeartbeats 8000000 in
set_option maxRecDepth 1000000 in
theorem sym_mid1 {k : Nat} (Y : TyE P k) (FG : P.funcs[95]? = some Try.f95) (enc : α → List Value) (cf : α → α → Int) (ho : Ord (ltOf cf)) (g : Nat) (cb : Array Value) (blk off cap a m b : Nat) (d0 d : Array α) (w0 w : World)
    (eg : ∀ args w, (callFunc g args).run P w = .ok (.enter g args) w) (hcmp : CmpLays P g cb enc k cf blk off d0.size w0) (R : RowK enc k w0 blk off d0) (hs : d0.size = d.size) (S : SWK enc k w0 blk off d w) (ham : a < m) (hmb : m < b) (hb : b ≤ d.size) (hsz : d.size < 4611686018427387904) (F1 : P.funcs[115]? = some Try.f115) (F2 : P.funcs[105]? = some Try.f105) (es : ∀ args w, (callFunc 115 args).run P w = .ok (.enter 115 args) w) (er : ∀ args w, (callFunc 105 args).run P w = .ok (.enter 105 args) w) (em : ∀ args w, (callFunc 95 args).run P w = .ok (.enter 95 args) w)
    (ih : ∀ (a' m' b' : Nat) (D : Array α) (W : World), b' - a' < b - a → D.size = d.size → SWK enc k w0 blk off D W → a' < m' → m' < b' → b' ≤ d.size → Calls P 95 #[.slice (some ⟨blk, off, none⟩) d.size cap, .int .i64 a', .int .i64 m', .int .i64 b', .func (.func g) #[] cb] W fun e w' => e = .returned (.tuple #[]) ∧ ∃ d', SWK enc k w0 blk off d' w' ∧ Mrgd (ltOf cf) D d' a' m' b')
    (h1 : a + 1 < m) (h2 : m + 1 < b) (mid : Nat) (hmid : mid = (a + b) / 2) (hcm : mid < m) :
    Calls P 95 #[.slice (some ⟨blk, off, none⟩) d.size cap, .int .i64 a, .int .i64 m, .int .i64 b, .func (.func g) #[] cb] w fun e w' => e = .returned (.tuple #[]) ∧ ∃ d', SWK enc k w0 blk off d' w' ∧ Mrgd (ltOf cf) d d' a m b := by
  have HI := hide ih
  have HR : Hid (∀ (x y z : Nat) (D : Array α) (W : World), D.size = d.size → SWK enc k w0 blk off D W → x < y → y < z → z ≤ d.size → Calls P 105 #[.slice (some ⟨blk, off, none⟩) d.size cap, .int .i64 x, .int .i64 y, .int .i64 z, .func (.func g) #[] cb] W fun e w' => e = .returned (.tuple #[]) ∧ SWK enc k w0 blk off (rotR y (y - x) (z - y) D) w') := fun x y z D W hD T q1 q2 q3 => by
    rw [← hD]
    exact rotate_P Y F1 F2 es enc g cb blk off cap x y z d0 D w0 W R (by omega) T q1 q2 (by omega) (by omega)
  clear ih F1 F2 es
  have mixed := Y.mixed; have t0 := Y.t0; have a0 := Y.a0; have z0 := Y.z0; have v0 := Y.v0; have t3 := Y.t3; have a3 := Y.a3; have z3 := Y.z3; have v3 := Y.v3; have t4 := Y.t4; have a4 := Y.a4; have z4 := Y.z4; have v4 := Y.v4; have tS := Y.tS; have aS := Y.aS; have zS := Y.zS; have vS := Y.vS; have tF := Y.tF; have aF := Y.aF; have zF := Y.zF; have vF := Y.vF; have tU := Y.tU; have aU := Y.aU; have zU := Y.zU; have vU := Y.vU; have aE := Y.aE; have zE := Y.zE
  have S0 : Aside (SWK enc k w0 blk off d w) := S
  have HC : Aside _ := hcmp
  clear S Y hcmp
  have hM2 : ((a : Int) + (b : Int)) / 2 = (mid : Int) := by omega
  have hmid1 : 2 * mid ≤ a + b ∧ a + b ≤ 2 * mid + 1 := by omega
  clear hmid
  have q1 : ¬ (m : Int) - (a : Int) = 1 := by omega
  have q2 : ¬ (b : Int) - (m : Int) = 1 := by omega
  have q1b : (((m : Int) - (a : Int)) == 1) = false := by rw [beq_eq_false_iff_ne]; omega
  have q2b : (((b : Int) - (m : Int)) == 1) = false := by rw [beq_eq_false_iff_ne]; omega
  obtain ⟨n, hn⟩ : ∃ n : Nat, n = mid + m := ⟨_, rfl⟩
  have hn1 : n ≤ mid + m ∧ mid + m ≤ n := by omega
  have en : (mid : Int) + (m : Int) = (n : Int) := by omega
  clear hn
  obtain ⟨p, hp⟩ : ∃ p : Nat, p + 1 = n := ⟨n - 1, by omega⟩
  have hp1 : p + 1 ≤ n ∧ n ≤ p + 1 := by omega
  have ep : (n : Int) - 1 = (p : Int) := by omega
  clear hp
  obtain ⟨lo, hlo⟩ : ∃ lo : Nat, lo = (n - b) := ⟨_, rfl⟩
  have hlo1 : lo ≤ (n - b) ∧ (n - b) ≤ lo := by omega
  obtain ⟨hi, hhi⟩ : ∃ hi : Nat, hi = mid := ⟨_, rfl⟩
  have hhi1 : hi ≤ mid ∧ mid ≤ hi := by omega
  have q3 : (mid : Int) < (m : Int) := by omega
  have eb : (n : Int) - (b : Int) = (lo : Int) := by omega
  clear hlo hhi
  go_enter FG, Try.ntmps95
  go_wp2
  go_loopg [20, 21] (hi - lo) (fun kx s20 s21 wr => ∃ (i j : Nat), s20 = .int .i64 i ∧ s21 = .int .i64 j ∧ lo ≤ i ∧ i ≤ j ∧ j ≤ hi ∧ j - i ≤ kx ∧ Aside (SWK enc k w0 blk off d wr) ∧ Hid (i = a ∨ i + b = n ∨ ltOf cf d[n - i]! d[i - 1]! = false) ∧ Hid (j = m ∨ j = mid ∨ ltOf cf d[p - j]! d[j]! = true))
  case atStart => exact ⟨lo, hi, by first | rfl | (congr 1; omega), by first | rfl | (congr 1; omega), by omega, by omega, by omega, Nat.le_refl _, S0, (show Hid _ from by unfold Hid; omega), (show Hid _ from by unfold Hid; omega)⟩
  case round =>
    clear S0
    obtain ⟨i, j, rfl, rfl, hmi, hij, hjb, hkx, S1, L1, L2⟩ := hrel
    by_cases hlt : i < j
    · have hltz : (i : Int) < (j : Int) := by omega
      obtain ⟨h, hh⟩ : ∃ h : Nat, h = (i + j) / 2 := ⟨_, rfl⟩
      have hih : i ≤ h := by omega
      have hhj : h < j := by omega
      have hI : ((i : Int) + (j : Int)) / 2 = (h : Int) := by omega
      clear hh
      obtain ⟨q, hq⟩ : ∃ q : Nat, q + h = p := ⟨p - h, by omega⟩
      have eq : (p : Int) - (h : Int) = (q : Int) := by omega
      have hq1 : q + h ≤ p ∧ p ≤ q + h := by omega
      clear hq
      cases hL : ltOf cf d[q]! d[h]! with
      | true =>
        have ea1d : ((q : Int)).toNat = q := by omega
        have pa1d : (0 : Int) ≤ (q : Int) := by omega
        have ba1d : (q : Int) < (d.size : Int) := by omega
        have ra1d : IntKind.i64.wrap ((q : Int)) = (q : Int) := by rw [IntKind.wrap_i64]; omega
        have ec1d : ((h : Int)).toNat = h := by omega
        have pc1d : (0 : Int) ≤ (h : Int) := by omega
        have bc1d : (h : Int) < (d.size : Int) := by omega
        have rc1d : IntKind.i64.wrap ((h : Int)) = (h : Int) := by rw [IntKind.wrap_i64]; omega
        obtain ⟨x1d, hx1d⟩ : ∃ x, x = d[q]! := ⟨_, rfl⟩
        obtain ⟨y1d, hy1d⟩ : ∃ x, x = d[h]! := ⟨_, rfl⟩
        have l1da := S1.out.ld R (by omega) P (q) (by omega)
        have l1db := S1.out.ld R (by omega) P (h) (by omega)
        rw [← hx1d] at l1da
        rw [← hy1d] at l1db
        have hc1d := S1.out.cmp HC.out (by omega) x1d y1d
        have hv1d : cf x1d y1d < 0 := by rw [hx1d, hy1d]; exact of_decide_eq_true hL
        have hd1d : decide (cf x1d y1d < 0) = true := decide_eq_true hv1d
        clear hx1d hy1d
        go_wp2_with fail
        go_quiet_grown (first | (go_at_fn g; refine Calls.grown_of (hc1d _ _)))
        have S2 : Aside (SWK enc k w0 blk off d (grow (wr.drewN nq) osq)) := S1.out.grown nq osq
        clear l1da l1db hc1d S1 hv1d hd1d ea1d pa1d ba1d ra1d ec1d pc1d bc1d rc1d
        generalize grow (wr.drewN nq) osq = w2 at S2 ⊢
        clear nq osq
        go_wp2
        go_roundg (h - i)
        case measure => omega
        case rel => exact ⟨i, h, rfl, by go_num, by omega, by omega, by omega, Nat.le_refl _, S2, L1, (show Hid _ from Or.inr (Or.inr (by rw [show p - h = q by omega]; exact hL)))⟩
      | false =>
        have ea1u : ((q : Int)).toNat = q := by omega
        have pa1u : (0 : Int) ≤ (q : Int) := by omega
        have ba1u : (q : Int) < (d.size : Int) := by omega
        have ra1u : IntKind.i64.wrap ((q : Int)) = (q : Int) := by rw [IntKind.wrap_i64]; omega
        have ec1u : ((h : Int)).toNat = h := by omega
        have pc1u : (0 : Int) ≤ (h : Int) := by omega
        have bc1u : (h : Int) < (d.size : Int) := by omega
        have rc1u : IntKind.i64.wrap ((h : Int)) = (h : Int) := by rw [IntKind.wrap_i64]; omega
        obtain ⟨x1u, hx1u⟩ : ∃ x, x = d[q]! := ⟨_, rfl⟩
        obtain ⟨y1u, hy1u⟩ : ∃ x, x = d[h]! := ⟨_, rfl⟩
        have l1ua := S1.out.ld R (by omega) P (q) (by omega)
        have l1ub := S1.out.ld R (by omega) P (h) (by omega)
        rw [← hx1u] at l1ua
        rw [← hy1u] at l1ub
        have hc1u := S1.out.cmp HC.out (by omega) x1u y1u
        have hv1u : ¬ cf x1u y1u < 0 := by rw [hx1u, hy1u]; exact of_decide_eq_false hL
        have hd1u : decide (cf x1u y1u < 0) = false := decide_eq_false hv1u
        clear hx1u hy1u
        go_wp2_with fail
        go_quiet_grown (first | (go_at_fn g; refine Calls.grown_of (hc1u _ _)))
        have S2 : Aside (SWK enc k w0 blk off d (grow (wr.drewN nq) osq)) := S1.out.grown nq osq
        clear l1ua l1ub hc1u S1 hv1u hd1u ea1u pa1u ba1u ra1u ec1u pc1u bc1u rc1u
        generalize grow (wr.drewN nq) osq = w2 at S2 ⊢
        clear nq osq
        go_wp2
        go_roundg (j - (h + 1))
        case measure => omega
        case rel => exact ⟨h + 1, j, by go_num, rfl, by omega, by omega, by omega, Nat.le_refl _, S2, (show Hid _ from Or.inr (Or.inr (by rw [Nat.add_sub_cancel, show n - (h + 1) = q by omega]; exact hL))), L2⟩
    · have hltz : ¬ (i : Int) < (j : Int) := by omega
      obtain ⟨s, hs3⟩ : ∃ s : Nat, s = i := ⟨_, rfl⟩
      obtain ⟨e, he3⟩ : ∃ e : Nat, e + i = n := ⟨n - i, by omega⟩
      have ee : (n : Int) - (s : Int) = (e : Int) := by omega
      have L1' : Hid (s = a ∨ e = b ∨ ltOf cf d[e]! d[s - 1]! = false) := by
        rcases L1.out with h | h | h
        · exact .inl (by omega)
        · exact .inr (.inl (by omega))
        · exact .inr (.inr (by rw [show e = n - i by omega, hs3]; exact h))
      have L2' : Hid (s = m ∨ e = m ∨ ltOf cf d[e - 1]! d[s]! = true) := by
        rcases L2.out with h | h | h
        · exact .inl (by omega)
        · exact .inr (.inl (by omega))
        · exact .inr (.inr (by rw [show e - 1 = p - j by omega, show s = j by omega]; exact h))
      have hs1 : a ≤ s := by omega
      have hs2 : s ≤ m := by omega
      have he1 : m ≤ e := by omega
      have he2 : e ≤ b := by omega
      have hse : Hid (s + e = mid + m) := by unfold Hid; omega
      have hse1 : s + e ≤ mid + m ∧ mid + m ≤ s + e := by omega
      clear L1 L2 he3 hmi hij hjb hkx hlt
      subst hs3
      by_cases hc : s < m ∧ m < e
      · have hc1 : (s : Int) < (m : Int) := by omega
        have hc2 : (m : Int) < (e : Int) := by omega
        go_wp2_with (go_at_call 105; refine Stop.at ?_)
        unfold Stop
        refine (HR.out s m e d _ rfl S1.out (by omega) (by omega) (by omega)).mono ?_
        rintro ex w5 ⟨rfl, hS5⟩
        have S5 : Aside _ := hS5
        have hD : (rotR m (m - s) (e - m) d).size = d.size := rotR_size _ _ _ _ _ (Nat.le_refl _)
        have RT : Hid (Rotd d (rotR m (m - s) (e - m) d) a s e b m) := rotd_done (by omega) (by omega)
        clear S1 hS5
        generalize rotR m (m - s) (e - m) d = d1 at S5 hD RT
        have hd1 : d1.size = d.size := hD
        clear hD
        clear hc1 hc2 hc
        by_cases hc : a < s ∧ s < mid
        · have hc1 : (a : Int) < (s : Int) := by omega
          have hc2 : (s : Int) < (mid : Int) := by omega
          go_wp2_with (go_at_call 95; refine Stop.at ?_)
          unfold Stop
          refine (HI.out a s mid d1 _ (by omega) hd1 S5.out (by omega) (by omega) (by omega)).mono ?_
          rintro ex w6 ⟨rfl, d2, hS6, hQT⟩
          have S6 : Aside _ := hS6
          have hd2 : d2.size = d.size := by rw [hQT.1]; exact hd1
          have QT : Hid _ := hQT
          clear S5 hS6 hQT
          clear hc1 hc2 hc
          by_cases hc : mid < e ∧ e < b
          · first
            | (exfalso; omega)
            | (have hc1 : (mid : Int) < (e : Int) := by omega
               have hc2 : (e : Int) < (b : Int) := by omega
               go_wp2_with (go_at_call 95; refine Stop.at ?_)
               unfold Stop
               refine (HI.out mid e b d2 _ (by omega) hd2 S6.out (by omega) (by omega) (by omega)).mono ?_
               rintro ex w7 ⟨rfl, d3, hS7, hVT⟩
               have S7 : Aside _ := hS7
               have hd3 : d3.size = d.size := by rw [hVT.1]; exact hd2
               have VT : Hid _ := hVT
               clear S6 hS7 hVT
               clear hc1 hc2 hc
               go_wp2 <;> (go_end0; exact ⟨rfl, d3, S7.out, mrgd_parts ho hs1 hs2 he1 he2 hse.out L1'.out L2'.out RT.out QT.out VT.out⟩))
          · have VT : Hid (Mrgd (ltOf cf) d2 d2 mid e b) := mrgd_none hc
            by_cases hc1 : mid < e
            · have hc2 : (mid : Int) < (e : Int) := by omega
              have hc3 : ¬ (e : Int) < (b : Int) := by omega
              clear hc hc1
              go_wp2 <;> (go_end0; exact ⟨rfl, d2, S6.out, mrgd_parts ho hs1 hs2 he1 he2 hse.out L1'.out L2'.out RT.out QT.out VT.out⟩)
            · have hc2 : ¬ (mid : Int) < (e : Int) := by omega
              clear hc hc1
              go_wp2 <;> (go_end0; exact ⟨rfl, d2, S6.out, mrgd_parts ho hs1 hs2 he1 he2 hse.out L1'.out L2'.out RT.out QT.out VT.out⟩)
        · have QT : Hid (Mrgd (ltOf cf) d1 d1 a s mid) := mrgd_none hc
          by_cases hc1 : a < s
          · have hc2 : (a : Int) < (s : Int) := by omega
            have hc3 : ¬ (s : Int) < (mid : Int) := by omega
            clear hc hc1
            by_cases hc : mid < e ∧ e < b
            · first
              | (exfalso; omega)
              | (have hc1 : (mid : Int) < (e : Int) := by omega
                 have hc2 : (e : Int) < (b : Int) := by omega
                 go_wp2_with (go_at_call 95; refine Stop.at ?_)
                 unfold Stop
                 refine (HI.out mid e b d1 _ (by omega) hd1 S5.out (by omega) (by omega) (by omega)).mono ?_
                 rintro ex w7 ⟨rfl, d3, hS7, hVT⟩
                 have S7 : Aside _ := hS7
                 have hd3 : d3.size = d.size := by rw [hVT.1]; exact hd1
                 have VT : Hid _ := hVT
                 clear S5 hS7 hVT
                 clear hc1 hc2 hc
                 go_wp2 <;> (go_end0; exact ⟨rfl, d3, S7.out, mrgd_parts ho hs1 hs2 he1 he2 hse.out L1'.out L2'.out RT.out QT.out VT.out⟩))
            · have VT : Hid (Mrgd (ltOf cf) d1 d1 mid e b) := mrgd_none hc
              by_cases hc1 : mid < e
              · have hc2 : (mid : Int) < (e : Int) := by omega
                have hc3 : ¬ (e : Int) < (b : Int) := by omega
                clear hc hc1
                go_wp2 <;> (go_end0; exact ⟨rfl, d1, S5.out, mrgd_parts ho hs1 hs2 he1 he2 hse.out L1'.out L2'.out RT.out QT.out VT.out⟩)
              · have hc2 : ¬ (mid : Int) < (e : Int) := by omega
                clear hc hc1
                go_wp2 <;> (go_end0; exact ⟨rfl, d1, S5.out, mrgd_parts ho hs1 hs2 he1 he2 hse.out L1'.out L2'.out RT.out QT.out VT.out⟩)
          · have hc2 : ¬ (a : Int) < (s : Int) := by omega
            clear hc hc1
            by_cases hc : mid < e ∧ e < b
            · first
              | (exfalso; omega)
              | (have hc1 : (mid : Int) < (e : Int) := by omega
                 have hc2 : (e : Int) < (b : Int) := by omega
                 go_wp2_with (go_at_call 95; refine Stop.at ?_)
                 unfold Stop
                 refine (HI.out mid e b d1 _ (by omega) hd1 S5.out (by omega) (by omega) (by omega)).mono ?_
                 rintro ex w7 ⟨rfl, d3, hS7, hVT⟩
                 have S7 : Aside _ := hS7
                 have hd3 : d3.size = d.size := by rw [hVT.1]; exact hd1
                 have VT : Hid _ := hVT
                 clear S5 hS7 hVT
                 clear hc1 hc2 hc
                 go_wp2 <;> (go_end0; exact ⟨rfl, d3, S7.out, mrgd_parts ho hs1 hs2 he1 he2 hse.out L1'.out L2'.out RT.out QT.out VT.out⟩))
            · have VT : Hid (Mrgd (ltOf cf) d1 d1 mid e b) := mrgd_none hc
              by_cases hc1 : mid < e
              · have hc2 : (mid : Int) < (e : Int) := by omega
                have hc3 : ¬ (e : Int) < (b : Int) := by omega
                clear hc hc1
                go_wp2 <;> (go_end0; exact ⟨rfl, d1, S5.out, mrgd_parts ho hs1 hs2 he1 he2 hse.out L1'.out L2'.out RT.out QT.out VT.out⟩)
              · have hc2 : ¬ (mid : Int) < (e : Int) := by omega
                clear hc hc1
                go_wp2 <;> (go_end0; exact ⟨rfl, d1, S5.out, mrgd_parts ho hs1 hs2 he1 he2 hse.out L1'.out L2'.out RT.out QT.out VT.out⟩)
      · have RT : Hid (Rotd d d a s e b m) := rotd_none hc
        by_cases hc1 : s < m
        · have hc2 : (s : Int) < (m : Int) := by omega
          have hc3 : ¬ (m : Int) < (e : Int) := by omega
          clear hc hc1
          by_cases hc : a < s ∧ s < mid
          · have hc1 : (a : Int) < (s : Int) := by omega
            have hc2 : (s : Int) < (mid : Int) := by omega
            go_wp2_with (go_at_call 95; refine Stop.at ?_)
            unfold Stop
            refine (HI.out a s mid d _ (by omega) rfl S1.out (by omega) (by omega) (by omega)).mono ?_
            rintro ex w6 ⟨rfl, d2, hS6, hQT⟩
            have S6 : Aside _ := hS6
            have hd2 : d2.size = d.size := by rw [hQT.1]
            have QT : Hid _ := hQT
            clear S1 hS6 hQT
            clear hc1 hc2 hc
            by_cases hc : mid < e ∧ e < b
            · first
              | (exfalso; omega)
              | (have hc1 : (mid : Int) < (e : Int) := by omega
                 have hc2 : (e : Int) < (b : Int) := by omega
                 go_wp2_with (go_at_call 95; refine Stop.at ?_)
                 unfold Stop
                 refine (HI.out mid e b d2 _ (by omega) hd2 S6.out (by omega) (by omega) (by omega)).mono ?_
                 rintro ex w7 ⟨rfl, d3, hS7, hVT⟩
                 have S7 : Aside _ := hS7
                 have hd3 : d3.size = d.size := by rw [hVT.1]; exact hd2
                 have VT : Hid _ := hVT
                 clear S6 hS7 hVT
                 clear hc1 hc2 hc
                 go_wp2 <;> (go_end0; exact ⟨rfl, d3, S7.out, mrgd_parts ho hs1 hs2 he1 he2 hse.out L1'.out L2'.out RT.out QT.out VT.out⟩))
            · have VT : Hid (Mrgd (ltOf cf) d2 d2 mid e b) := mrgd_none hc
              by_cases hc1 : mid < e
              · have hc2 : (mid : Int) < (e : Int) := by omega
                have hc3 : ¬ (e : Int) < (b : Int) := by omega
                clear hc hc1
                go_wp2 <;> (go_end0; exact ⟨rfl, d2, S6.out, mrgd_parts ho hs1 hs2 he1 he2 hse.out L1'.out L2'.out RT.out QT.out VT.out⟩)
              · have hc2 : ¬ (mid : Int) < (e : Int) := by omega
                clear hc hc1
                go_wp2 <;> (go_end0; exact ⟨rfl, d2, S6.out, mrgd_parts ho hs1 hs2 he1 he2 hse.out L1'.out L2'.out RT.out QT.out VT.out⟩)
          · have QT : Hid (Mrgd (ltOf cf) d d a s mid) := mrgd_none hc
            by_cases hc1 : a < s
            · have hc2 : (a : Int) < (s : Int) := by omega
              have hc3 : ¬ (s : Int) < (mid : Int) := by omega
              clear hc hc1
              by_cases hc : mid < e ∧ e < b
              · first
                | (exfalso; omega)
                | (have hc1 : (mid : Int) < (e : Int) := by omega
                   have hc2 : (e : Int) < (b : Int) := by omega
                   go_wp2_with (go_at_call 95; refine Stop.at ?_)
                   unfold Stop
                   refine (HI.out mid e b d _ (by omega) rfl S1.out (by omega) (by omega) (by omega)).mono ?_
                   rintro ex w7 ⟨rfl, d3, hS7, hVT⟩
                   have S7 : Aside _ := hS7
                   have hd3 : d3.size = d.size := by rw [hVT.1]
                   have VT : Hid _ := hVT
                   clear S1 hS7 hVT
                   clear hc1 hc2 hc
                   go_wp2 <;> (go_end0; exact ⟨rfl, d3, S7.out, mrgd_parts ho hs1 hs2 he1 he2 hse.out L1'.out L2'.out RT.out QT.out VT.out⟩))
              · have VT : Hid (Mrgd (ltOf cf) d d mid e b) := mrgd_none hc
                by_cases hc1 : mid < e
                · have hc2 : (mid : Int) < (e : Int) := by omega
                  have hc3 : ¬ (e : Int) < (b : Int) := by omega
                  clear hc hc1
                  go_wp2 <;> (go_end0; exact ⟨rfl, d, S1.out, mrgd_parts ho hs1 hs2 he1 he2 hse.out L1'.out L2'.out RT.out QT.out VT.out⟩)
                · have hc2 : ¬ (mid : Int) < (e : Int) := by omega
                  clear hc hc1
                  go_wp2 <;> (go_end0; exact ⟨rfl, d, S1.out, mrgd_parts ho hs1 hs2 he1 he2 hse.out L1'.out L2'.out RT.out QT.out VT.out⟩)
            · have hc2 : ¬ (a : Int) < (s : Int) := by omega
              clear hc hc1
              by_cases hc : mid < e ∧ e < b
              · first
                | (exfalso; omega)
                | (have hc1 : (mid : Int) < (e : Int) := by omega
                   have hc2 : (e : Int) < (b : Int) := by omega
                   go_wp2_with (go_at_call 95; refine Stop.at ?_)
                   unfold Stop
                   refine (HI.out mid e b d _ (by omega) rfl S1.out (by omega) (by omega) (by omega)).mono ?_
                   rintro ex w7 ⟨rfl, d3, hS7, hVT⟩
                   have S7 : Aside _ := hS7
                   have hd3 : d3.size = d.size := by rw [hVT.1]
                   have VT : Hid _ := hVT
                   clear S1 hS7 hVT
                   clear hc1 hc2 hc
                   go_wp2 <;> (go_end0; exact ⟨rfl, d3, S7.out, mrgd_parts ho hs1 hs2 he1 he2 hse.out L1'.out L2'.out RT.out QT.out VT.out⟩))
              · have VT : Hid (Mrgd (ltOf cf) d d mid e b) := mrgd_none hc
                by_cases hc1 : mid < e
                · have hc2 : (mid : Int) < (e : Int) := by omega
                  have hc3 : ¬ (e : Int) < (b : Int) := by omega
                  clear hc hc1
                  go_wp2 <;> (go_end0; exact ⟨rfl, d, S1.out, mrgd_parts ho hs1 hs2 he1 he2 hse.out L1'.out L2'.out RT.out QT.out VT.out⟩)
                · have hc2 : ¬ (mid : Int) < (e : Int) := by omega
                  clear hc hc1
                  go_wp2 <;> (go_end0; exact ⟨rfl, d, S1.out, mrgd_parts ho hs1 hs2 he1 he2 hse.out L1'.out L2'.out RT.out QT.out VT.out⟩)
        · have hc2 : ¬ (s : Int) < (m : Int) := by omega
          clear hc hc1
          by_cases hc : a < s ∧ s < mid
          · have hc1 : (a : Int) < (s : Int) := by omega
            have hc2 : (s : Int) < (mid : Int) := by omega
            go_wp2_with (go_at_call 95; refine Stop.at ?_)
            unfold Stop
            refine (HI.out a s mid d _ (by omega) rfl S1.out (by omega) (by omega) (by omega)).mono ?_
            rintro ex w6 ⟨rfl, d2, hS6, hQT⟩
            have S6 : Aside _ := hS6
            have hd2 : d2.size = d.size := by rw [hQT.1]
            have QT : Hid _ := hQT
            clear S1 hS6 hQT
            clear hc1 hc2 hc
            by_cases hc : mid < e ∧ e < b
            · first
              | (exfalso; omega)
              | (have hc1 : (mid : Int) < (e : Int) := by omega
                 have hc2 : (e : Int) < (b : Int) := by omega
                 go_wp2_with (go_at_call 95; refine Stop.at ?_)
                 unfold Stop
                 refine (HI.out mid e b d2 _ (by omega) hd2 S6.out (by omega) (by omega) (by omega)).mono ?_
                 rintro ex w7 ⟨rfl, d3, hS7, hVT⟩
                 have S7 : Aside _ := hS7
                 have hd3 : d3.size = d.size := by rw [hVT.1]; exact hd2
                 have VT : Hid _ := hVT
                 clear S6 hS7 hVT
                 clear hc1 hc2 hc
                 go_wp2 <;> (go_end0; exact ⟨rfl, d3, S7.out, mrgd_parts ho hs1 hs2 he1 he2 hse.out L1'.out L2'.out RT.out QT.out VT.out⟩))
            · have VT : Hid (Mrgd (ltOf cf) d2 d2 mid e b) := mrgd_none hc
              by_cases hc1 : mid < e
              · have hc2 : (mid : Int) < (e : Int) := by omega
                have hc3 : ¬ (e : Int) < (b : Int) := by omega
                clear hc hc1
                go_wp2 <;> (go_end0; exact ⟨rfl, d2, S6.out, mrgd_parts ho hs1 hs2 he1 he2 hse.out L1'.out L2'.out RT.out QT.out VT.out⟩)
              · have hc2 : ¬ (mid : Int) < (e : Int) := by omega
                clear hc hc1
                go_wp2 <;> (go_end0; exact ⟨rfl, d2, S6.out, mrgd_parts ho hs1 hs2 he1 he2 hse.out L1'.out L2'.out RT.out QT.out VT.out⟩)
          · have QT : Hid (Mrgd (ltOf cf) d d a s mid) := mrgd_none hc
            by_cases hc1 : a < s
            · have hc2 : (a : Int) < (s : Int) := by omega
              have hc3 : ¬ (s : Int) < (mid : Int) := by omega
              clear hc hc1
              by_cases hc : mid < e ∧ e < b
              · first
                | (exfalso; omega)
                | (have hc1 : (mid : Int) < (e : Int) := by omega
                   have hc2 : (e : Int) < (b : Int) := by omega
                   go_wp2_with (go_at_call 95; refine Stop.at ?_)
                   unfold Stop
                   refine (HI.out mid e b d _ (by omega) rfl S1.out (by omega) (by omega) (by omega)).mono ?_
                   rintro ex w7 ⟨rfl, d3, hS7, hVT⟩
                   have S7 : Aside _ := hS7
                   have hd3 : d3.size = d.size := by rw [hVT.1]
                   have VT : Hid _ := hVT
                   clear S1 hS7 hVT
                   clear hc1 hc2 hc
                   go_wp2 <;> (go_end0; exact ⟨rfl, d3, S7.out, mrgd_parts ho hs1 hs2 he1 he2 hse.out L1'.out L2'.out RT.out QT.out VT.out⟩))
              · have VT : Hid (Mrgd (ltOf cf) d d mid e b) := mrgd_none hc
                by_cases hc1 : mid < e
                · have hc2 : (mid : Int) < (e : Int) := by omega
                  have hc3 : ¬ (e : Int) < (b : Int) := by omega
                  clear hc hc1
                  go_wp2 <;> (go_end0; exact ⟨rfl, d, S1.out, mrgd_parts ho hs1 hs2 he1 he2 hse.out L1'.out L2'.out RT.out QT.out VT.out⟩)
                · have hc2 : ¬ (mid : Int) < (e : Int) := by omega
                  clear hc hc1
                  go_wp2 <;> (go_end0; exact ⟨rfl, d, S1.out, mrgd_parts ho hs1 hs2 he1 he2 hse.out L1'.out L2'.out RT.out QT.out VT.out⟩)
            · have hc2 : ¬ (a : Int) < (s : Int) := by omega
              clear hc hc1
              by_cases hc : mid < e ∧ e < b
              · first
                | (exfalso; omega)
                | (have hc1 : (mid : Int) < (e : Int) := by omega
                   have hc2 : (e : Int) < (b : Int) := by omega
                   go_wp2_with (go_at_call 95; refine Stop.at ?_)
                   unfold Stop
                   refine (HI.out mid e b d _ (by omega) rfl S1.out (by omega) (by omega) (by omega)).mono ?_
                   rintro ex w7 ⟨rfl, d3, hS7, hVT⟩
                   have S7 : Aside _ := hS7
                   have hd3 : d3.size = d.size := by rw [hVT.1]
                   have VT : Hid _ := hVT
                   clear S1 hS7 hVT
                   clear hc1 hc2 hc
                   go_wp2 <;> (go_end0; exact ⟨rfl, d3, S7.out, mrgd_parts ho hs1 hs2 he1 he2 hse.out L1'.out L2'.out RT.out QT.out VT.out⟩))
              · have VT : Hid (Mrgd (ltOf cf) d d mid e b) := mrgd_none hc
                by_cases hc1 : mid < e
                · have hc2 : (mid : Int) < (e : Int) := by omega
                  have hc3 : ¬ (e : Int) < (b : Int) := by omega
                  clear hc hc1
                  go_wp2 <;> (go_end0; exact ⟨rfl, d, S1.out, mrgd_parts ho hs1 hs2 he1 he2 hse.out L1'.out L2'.out RT.out QT.out VT.out⟩)
                · have hc2 : ¬ (mid : Int) < (e : Int) := by omega
                  clear hc hc1
                  go_wp2 <;> (go_end0; exact ⟨rfl, d, S1.out, mrgd_parts ho hs1 hs2 he1 he2 hse.out L1'.out L2'.out RT.out QT.out VT.out⟩)
end
end Go.Proofs.Ytooggheoaglbeaa

/- 'slices.symMergeCmpFunc' at events, where the right is as long or longer. -/
namespace Go.Proofs.Ytooggheoaglbeaa
open Go.Shelf Go.RowKit Go.Lib Go.Sort
set_option linter.unusedVariables false
section
variable {P : Program} {α : Type} [Inhabited α]
set_option maxHeartbeats 8000000 in
set_option maxRecDepth 1000000 in
theorem sym_mid2 {k : Nat} (Y : TyE P k) (FG : P.funcs[95]? = some Try.f95) (enc : α → List Value) (cf : α → α → Int) (ho : Ord (ltOf cf)) (g : Nat) (cb : Array Value) (blk off cap a m b : Nat) (d0 d : Array α) (w0 w : World)
    (eg : ∀ args w, (callFunc g args).run P w = .ok (.enter g args) w) (hcmp : CmpLays P g cb enc k cf blk off d0.size w0) (R : RowK enc k w0 blk off d0) (hs : d0.size = d.size) (S : SWK enc k w0 blk off d w) (ham : a < m) (hmb : m < b) (hb : b ≤ d.size) (hsz : d.size < 4611686018427387904) (F1 : P.funcs[115]? = some Try.f115) (F2 : P.funcs[105]? = some Try.f105) (es : ∀ args w, (callFunc 115 args).run P w = .ok (.enter 115 args) w) (er : ∀ args w, (callFunc 105 args).run P w = .ok (.enter 105 args) w) (em : ∀ args w, (callFunc 95 args).run P w = .ok (.enter 95 args) w)
    (ih : ∀ (a' m' b' : Nat) (D : Array α) (W : World), b' - a' < b - a → D.size = d.size → SWK enc k w0 blk off D W → a' < m' → m' < b' → b' ≤ d.size → Calls P 95 #[.slice (some ⟨blk, off, none⟩) d.size cap, .int .i64 a', .int .i64 m', .int .i64 b', .func (.func g) #[] cb] W fun e w' => e = .returned (.tuple #[]) ∧ ∃ d', SWK enc k w0 blk off d' w' ∧ Mrgd (ltOf cf) D d' a' m' b')
    (h1 : a + 1 < m) (h2 : m + 1 < b) (mid : Nat) (hmid : mid = (a + b) / 2) (hcm : m ≤ mid) :
    Calls P 95 #[.slice (some ⟨blk, off, none⟩) d.size cap, .int .i64 a, .int .i64 m, .int .i64 b, .func (.func g) #[] cb] w fun e w' => e = .returned (.tuple #[]) ∧ ∃ d', SWK enc k w0 blk off d' w' ∧ Mrgd (ltOf cf) d d' a m b := by
  have HI := hide ih
  have HR : Hid (∀ (x y z : Nat) (D : Array α) (W : World), D.size = d.size → SWK enc k w0 blk off D W → x < y → y < z → z ≤ d.size → Calls P 105 #[.slice (some ⟨blk, off, none⟩) d.size cap, .int .i64 x, .int .i64 y, .int .i64 z, .func (.func g) #[] cb] W fun e w' => e = .returned (.tuple #[]) ∧ SWK enc k w0 blk off (rotR y (y - x) (z - y) D) w') := fun x y z D W hD T q1 q2 q3 => by
    rw [← hD]
    exact rotate_P Y F1 F2 es enc g cb blk off cap x y z d0 D w0 W R (by omega) T q1 q2 (by omega) (by omega)
  clear ih F1 F2 es
  have mixed := Y.mixed; have t0 := Y.t0; have a0 := Y.a0; have z0 := Y.z0; have v0 := Y.v0; have t3 := Y.t3; have a3 := Y.a3; have z3 := Y.z3; have v3 := Y.v3; have t4 := Y.t4; have a4 := Y.a4; have z4 := Y.z4; have v4 := Y.v4; have tS := Y.tS; have aS := Y.aS; have zS := Y.zS; have vS := Y.vS; have tF := Y.tF; have aF := Y.aF; have zF := Y.zF; have vF := Y.vF; have tU := Y.tU; have aU := Y.aU; have zU := Y.zU; have vU := Y.vU; have aE := Y.aE; have zE := Y.zE
  have S0 : Aside (SWK enc k w0 blk off d w) := S
  have HC : Aside _ := hcmp
  clear S Y hcmp
  have hM2 : ((a : Int) + (b : Int)) / 2 = (mid : Int) := by omega
  have hmid1 : 2 * mid ≤ a + b ∧ a + b ≤ 2 * mid + 1 := by omega
  clear hmid
  have q1 : ¬ (m : Int) - (a : Int) = 1 := by omega
  have q2 : ¬ (b : Int) - (m : Int) = 1 := by omega
  have q1b : (((m : Int) - (a : Int)) == 1) = false := by rw [beq_eq_false_iff_ne]; omega
  have q2b : (((b : Int) - (m : Int)) == 1) = false := by rw [beq_eq_false_iff_ne]; omega
  obtain ⟨n, hn⟩ : ∃ n : Nat, n = mid + m := ⟨_, rfl⟩
  have hn1 : n ≤ mid + m ∧ mid + m ≤ n := by omega
  have en : (mid : Int) + (m : Int) = (n : Int) := by omega
  clear hn
  obtain ⟨p, hp⟩ : ∃ p : Nat, p + 1 = n := ⟨n - 1, by omega⟩
  have hp1 : p + 1 ≤ n ∧ n ≤ p + 1 := by omega
  have ep : (n : Int) - 1 = (p : Int) := by omega
  clear hp
  obtain ⟨lo, hlo⟩ : ∃ lo : Nat, lo = a := ⟨_, rfl⟩
  have hlo1 : lo ≤ a ∧ a ≤ lo := by omega
  obtain ⟨hi, hhi⟩ : ∃ hi : Nat, hi = m := ⟨_, rfl⟩
  have hhi1 : hi ≤ m ∧ m ≤ hi := by omega
  have q3 : ¬ (mid : Int) < (m : Int) := by omega
  clear hlo hhi
  go_enter FG, Try.ntmps95
  go_wp2
  go_loopg [20, 21] (hi - lo) (fun kx s20 s21 wr => ∃ (i j : Nat), s20 = .int .i64 i ∧ s21 = .int .i64 j ∧ lo ≤ i ∧ i ≤ j ∧ j ≤ hi ∧ j - i ≤ kx ∧ Aside (SWK enc k w0 blk off d wr) ∧ Hid (i = a ∨ i + b = n ∨ ltOf cf d[n - i]! d[i - 1]! = false) ∧ Hid (j = m ∨ j = mid ∨ ltOf cf d[p - j]! d[j]! = true))
  case atStart => exact ⟨lo, hi, by first | rfl | (congr 1; omega), by first | rfl | (congr 1; omega), by omega, by omega, by omega, Nat.le_refl _, S0, (show Hid _ from by unfold Hid; omega), (show Hid _ from by unfold Hid; omega)⟩
  case round =>
    clear S0
    obtain ⟨i, j, rfl, rfl, hmi, hij, hjb, hkx, S1, L1, L2⟩ := hrel
    by_cases hlt : i < j
    · have hltz : (i : Int) < (j : Int) := by omega
      obtain ⟨h, hh⟩ : ∃ h : Nat, h = (i + j) / 2 := ⟨_, rfl⟩
      have hih : i ≤ h := by omega
      have hhj : h < j := by omega
      have hI : ((i : Int) + (j : Int)) / 2 = (h : Int) := by omega
      clear hh
      obtain ⟨q, hq⟩ : ∃ q : Nat, q + h = p := ⟨p - h, by omega⟩
      have eq : (p : Int) - (h : Int) = (q : Int) := by omega
      have hq1 : q + h ≤ p ∧ p ≤ q + h := by omega
      clear hq
      cases hL : ltOf cf d[q]! d[h]! with
      | true =>
        have ea1d : ((q : Int)).toNat = q := by omega
        have pa1d : (0 : Int) ≤ (q : Int) := by omega
        have ba1d : (q : Int) < (d.size : Int) := by omega
        have ra1d : IntKind.i64.wrap ((q : Int)) = (q : Int) := by rw [IntKind.wrap_i64]; omega
        have ec1d : ((h : Int)).toNat = h := by omega
        have pc1d : (0 : Int) ≤ (h : Int) := by omega
        have bc1d : (h : Int) < (d.size : Int) := by omega
        have rc1d : IntKind.i64.wrap ((h : Int)) = (h : Int) := by rw [IntKind.wrap_i64]; omega
        obtain ⟨x1d, hx1d⟩ : ∃ x, x = d[q]! := ⟨_, rfl⟩
        obtain ⟨y1d, hy1d⟩ : ∃ x, x = d[h]! := ⟨_, rfl⟩
        have l1da := S1.out.ld R (by omega) P (q) (by omega)
        have l1db := S1.out.ld R (by omega) P (h) (by omega)
        rw [← hx1d] at l1da
        rw [← hy1d] at l1db
        have hc1d := S1.out.cmp HC.out (by omega) x1d y1d
        have hv1d : cf x1d y1d < 0 := by rw [hx1d, hy1d]; exact of_decide_eq_true hL
        have hd1d : decide (cf x1d y1d < 0) = true := decide_eq_true hv1d
        clear hx1d hy1d
        go_wp2_with fail
        go_quiet_grown (first | (go_at_fn g; refine Calls.grown_of (hc1d _ _)))
        have S2 : Aside (SWK enc k w0 blk off d (grow (wr.drewN nq) osq)) := S1.out.grown nq osq
        clear l1da l1db hc1d S1 hv1d hd1d ea1d pa1d ba1d ra1d ec1d pc1d bc1d rc1d
        generalize grow (wr.drewN nq) osq = w2 at S2 ⊢
        clear nq osq
        go_wp2
        go_roundg (h - i)
        case measure => omega
        case rel => exact ⟨i, h, rfl, by go_num, by omega, by omega, by omega, Nat.le_refl _, S2, L1, (show Hid _ from Or.inr (Or.inr (by rw [show p - h = q by omega]; exact hL)))⟩
      | false =>
        have ea1u : ((q : Int)).toNat = q := by omega
        have pa1u : (0 : Int) ≤ (q : Int) := by omega
        have ba1u : (q : Int) < (d.size : Int) := by omega
        have ra1u : IntKind.i64.wrap ((q : Int)) = (q : Int) := by rw [IntKind.wrap_i64]; omega
        have ec1u : ((h : Int)).toNat = h := by omega
        have pc1u : (0 : Int) ≤ (h : Int) := by omega
        have bc1u : (h : Int) < (d.size : Int) := by omega
        have rc1u : IntKind.i64.wrap ((h : Int)) = (h : Int) := by rw [IntKind.wrap_i64]; omega
        obtain ⟨x1u, hx1u⟩ : ∃ x, x = d[q]! := ⟨_, rfl⟩
        obtain ⟨y1u, hy1u⟩ : ∃ x, x = d[h]! := ⟨_, rfl⟩
        have l1ua := S1.out.ld R (by omega) P (q) (by omega)
        have l1ub := S1.out.ld R (by omega) P (h) (by omega)
        rw [← hx1u] at l1ua
        rw [← hy1u] at l1ub
        have hc1u := S1.out.cmp HC.out (by omega) x1u y1u
        have hv1u : ¬ cf x1u y1u < 0 := by rw [hx1u, hy1u]; exact of_decide_eq_false hL
        have hd1u : decide (cf x1u y1u < 0) = false := decide_eq_false hv1u
        clear hx1u hy1u
        go_wp2_with fail
        go_quiet_grown (first | (go_at_fn g; refine Calls.grown_of (hc1u _ _)))
        have S2 : Aside (SWK enc k w0 blk off d (grow (wr.drewN nq) osq)) := S1.out.grown nq osq
        clear l1ua l1ub hc1u S1 hv1u hd1u ea1u pa1u ba1u ra1u ec1u pc1u bc1u rc1u
        generalize grow (wr.drewN nq) osq = w2 at S2 ⊢
        clear nq osq
        go_wp2
        go_roundg (j - (h + 1))
        case measure => omega
        case rel => exact ⟨h + 1, j, by go_num, rfl, by omega, by omega, by omega, Nat.le_refl _, S2, (show Hid _ from Or.inr (Or.inr (by rw [Nat.add_sub_cancel, show n - (h + 1) = q by omega]; exact hL))), L2⟩
    · have hltz : ¬ (i : Int) < (j : Int) := by omega
      obtain ⟨s, hs3⟩ : ∃ s : Nat, s = i := ⟨_, rfl⟩
      obtain ⟨e, he3⟩ : ∃ e : Nat, e + i = n := ⟨n - i, by omega⟩
      have ee : (n : Int) - (s : Int) = (e : Int) := by omega
      have L1' : Hid (s = a ∨ e = b ∨ ltOf cf d[e]! d[s - 1]! = false) := by
        rcases L1.out with h | h | h
        · exact .inl (by omega)
        · exact .inr (.inl (by omega))
        · exact .inr (.inr (by rw [show e = n - i by omega, hs3]; exact h))
      have L2' : Hid (s = m ∨ e = m ∨ ltOf cf d[e - 1]! d[s]! = true) := by
        rcases L2.out with h | h | h
        · exact .inl (by omega)
        · exact .inr (.inl (by omega))
        · exact .inr (.inr (by rw [show e - 1 = p - j by omega, show s = j by omega]; exact h))
      have hs1 : a ≤ s := by omega
      have hs2 : s ≤ m := by omega
      have he1 : m ≤ e := by omega
      have he2 : e ≤ b := by omega
      have hse : Hid (s + e = mid + m) := by unfold Hid; omega
      have hse1 : s + e ≤ mid + m ∧ mid + m ≤ s + e := by omega
      clear L1 L2 he3 hmi hij hjb hkx hlt
      subst hs3
      by_cases hc : s < m ∧ m < e
      · have hc1 : (s : Int) < (m : Int) := by omega
        have hc2 : (m : Int) < (e : Int) := by omega
        go_wp2_with (go_at_call 105; refine Stop.at ?_)
        unfold Stop
        refine (HR.out s m e d _ rfl S1.out (by omega) (by omega) (by omega)).mono ?_
        rintro ex w5 ⟨rfl, hS5⟩
        have S5 : Aside _ := hS5
        have hD : (rotR m (m - s) (e - m) d).size = d.size := rotR_size _ _ _ _ _ (Nat.le_refl _)
        have RT : Hid (Rotd d (rotR m (m - s) (e - m) d) a s e b m) := rotd_done (by omega) (by omega)
        clear S1 hS5
        generalize rotR m (m - s) (e - m) d = d1 at S5 hD RT
        have hd1 : d1.size = d.size := hD
        clear hD
        clear hc1 hc2 hc
        by_cases hc : a < s ∧ s < mid
        · have hc1 : (a : Int) < (s : Int) := by omega
          have hc2 : (s : Int) < (mid : Int) := by omega
          go_wp2_with (go_at_call 95; refine Stop.at ?_)
          unfold Stop
          refine (HI.out a s mid d1 _ (by omega) hd1 S5.out (by omega) (by omega) (by omega)).mono ?_
          rintro ex w6 ⟨rfl, d2, hS6, hQT⟩
          have S6 : Aside _ := hS6
          have hd2 : d2.size = d.size := by rw [hQT.1]; exact hd1
          have QT : Hid _ := hQT
          clear S5 hS6 hQT
          clear hc1 hc2 hc
          by_cases hc : mid < e ∧ e < b
          · first
            | (exfalso; omega)
            | (have hc1 : (mid : Int) < (e : Int) := by omega
               have hc2 : (e : Int) < (b : Int) := by omega
               go_wp2_with (go_at_call 95; refine Stop.at ?_)
               unfold Stop
               refine (HI.out mid e b d2 _ (by omega) hd2 S6.out (by omega) (by omega) (by omega)).mono ?_
               rintro ex w7 ⟨rfl, d3, hS7, hVT⟩
               have S7 : Aside _ := hS7
               have hd3 : d3.size = d.size := by rw [hVT.1]; exact hd2
               have VT : Hid _ := hVT
               clear S6 hS7 hVT
               clear hc1 hc2 hc
               go_wp2 <;> (go_end0; exact ⟨rfl, d3, S7.out, mrgd_parts ho hs1 hs2 he1 he2 hse.out L1'.out L2'.out RT.out QT.out VT.out⟩))
          · have VT : Hid (Mrgd (ltOf cf) d2 d2 mid e b) := mrgd_none hc
            by_cases hc1 : mid < e
            · have hc2 : (mid : Int) < (e : Int) := by omega
              have hc3 : ¬ (e : Int) < (b : Int) := by omega
              clear hc hc1
              go_wp2 <;> (go_end0; exact ⟨rfl, d2, S6.out, mrgd_parts ho hs1 hs2 he1 he2 hse.out L1'.out L2'.out RT.out QT.out VT.out⟩)
            · have hc2 : ¬ (mid : Int) < (e : Int) := by omega
              clear hc hc1
              go_wp2 <;> (go_end0; exact ⟨rfl, d2, S6.out, mrgd_parts ho hs1 hs2 he1 he2 hse.out L1'.out L2'.out RT.out QT.out VT.out⟩)
        · have QT : Hid (Mrgd (ltOf cf) d1 d1 a s mid) := mrgd_none hc
          by_cases hc1 : a < s
          · have hc2 : (a : Int) < (s : Int) := by omega
            have hc3 : ¬ (s : Int) < (mid : Int) := by omega
            clear hc hc1
            by_cases hc : mid < e ∧ e < b
            · first
              | (exfalso; omega)
              | (have hc1 : (mid : Int) < (e : Int) := by omega
                 have hc2 : (e : Int) < (b : Int) := by omega
                 go_wp2_with (go_at_call 95; refine Stop.at ?_)
                 unfold Stop
                 refine (HI.out mid e b d1 _ (by omega) hd1 S5.out (by omega) (by omega) (by omega)).mono ?_
                 rintro ex w7 ⟨rfl, d3, hS7, hVT⟩
                 have S7 : Aside _ := hS7
                 have hd3 : d3.size = d.size := by rw [hVT.1]; exact hd1
                 have VT : Hid _ := hVT
                 clear S5 hS7 hVT
                 clear hc1 hc2 hc
                 go_wp2 <;> (go_end0; exact ⟨rfl, d3, S7.out, mrgd_parts ho hs1 hs2 he1 he2 hse.out L1'.out L2'.out RT.out QT.out VT.out⟩))
            · have VT : Hid (Mrgd (ltOf cf) d1 d1 mid e b) := mrgd_none hc
              by_cases hc1 : mid < e
              · have hc2 : (mid : Int) < (e : Int) := by omega
                have hc3 : ¬ (e : Int) < (b : Int) := by omega
                clear hc hc1
                go_wp2 <;> (go_end0; exact ⟨rfl, d1, S5.out, mrgd_parts ho hs1 hs2 he1 he2 hse.out L1'.out L2'.out RT.out QT.out VT.out⟩)
              · have hc2 : ¬ (mid : Int) < (e : Int) := by omega
                clear hc hc1
                go_wp2 <;> (go_end0; exact ⟨rfl, d1, S5.out, mrgd_parts ho hs1 hs2 he1 he2 hse.out L1'.out L2'.out RT.out QT.out VT.out⟩)
          · have hc2 : ¬ (a : Int) < (s : Int) := by omega
            clear hc hc1
            by_cases hc : mid < e ∧ e < b
            · first
              | (exfalso; omega)
              | (have hc1 : (mid : Int) < (e : Int) := by omega
                 have hc2 : (e : Int) < (b : Int) := by omega
                 go_wp2_with (go_at_call 95; refine Stop.at ?_)
                 unfold Stop
                 refine (HI.out mid e b d1 _ (by omega) hd1 S5.out (by omega) (by omega) (by omega)).mono ?_
                 rintro ex w7 ⟨rfl, d3, hS7, hVT⟩
                 have S7 : Aside _ := hS7
                 have hd3 : d3.size = d.size := by rw [hVT.1]; exact hd1
                 have VT : Hid _ := hVT
                 clear S5 hS7 hVT
                 clear hc1 hc2 hc
                 go_wp2 <;> (go_end0; exact ⟨rfl, d3, S7.out, mrgd_parts ho hs1 hs2 he1 he2 hse.out L1'.out L2'.out RT.out QT.out VT.out⟩))
            · have VT : Hid (Mrgd (ltOf cf) d1 d1 mid e b) := mrgd_none hc
              by_cases hc1 : mid < e
              · have hc2 : (mid : Int) < (e : Int) := by omega
                have hc3 : ¬ (e : Int) < (b : Int) := by omega
                clear hc hc1
                go_wp2 <;> (go_end0; exact ⟨rfl, d1, S5.out, mrgd_parts ho hs1 hs2 he1 he2 hse.out L1'.out L2'.out RT.out QT.out VT.out⟩)
              · have hc2 : ¬ (mid : Int) < (e : Int) := by omega
                clear hc hc1
                go_wp2 <;> (go_end0; exact ⟨rfl, d1, S5.out, mrgd_parts ho hs1 hs2 he1 he2 hse.out L1'.out L2'.out RT.out QT.out VT.out⟩)
      · have RT : Hid (Rotd d d a s e b m) := rotd_none hc
        by_cases hc1 : s < m
        · have hc2 : (s : Int) < (m : Int) := by omega
          have hc3 : ¬ (m : Int) < (e : Int) := by omega
          clear hc hc1
          by_cases hc : a < s ∧ s < mid
          · have hc1 : (a : Int) < (s : Int) := by omega
            have hc2 : (s : Int) < (mid : Int) := by omega
            go_wp2_with (go_at_call 95; refine Stop.at ?_)
            unfold Stop
            refine (HI.out a s mid d _ (by omega) rfl S1.out (by omega) (by omega) (by omega)).mono ?_
            rintro ex w6 ⟨rfl, d2, hS6, hQT⟩
            have S6 : Aside _ := hS6
            have hd2 : d2.size = d.size := by rw [hQT.1]
            have QT : Hid _ := hQT
            clear S1 hS6 hQT
            clear hc1 hc2 hc
            by_cases hc : mid < e ∧ e < b
            · first
              | (exfalso; omega)
              | (have hc1 : (mid : Int) < (e : Int) := by omega
                 have hc2 : (e : Int) < (b : Int) := by omega
                 go_wp2_with (go_at_call 95; refine Stop.at ?_)
                 unfold Stop
                 refine (HI.out mid e b d2 _ (by omega) hd2 S6.out (by omega) (by omega) (by omega)).mono ?_
                 rintro ex w7 ⟨rfl, d3, hS7, hVT⟩
                 have S7 : Aside _ := hS7
                 have hd3 : d3.size = d.size := by rw [hVT.1]; exact hd2
                 have VT : Hid _ := hVT
                 clear S6 hS7 hVT
                 clear hc1 hc2 hc
                 go_wp2 <;> (go_end0; exact ⟨rfl, d3, S7.out, mrgd_parts ho hs1 hs2 he1 he2 hse.out L1'.out L2'.out RT.out QT.out VT.out⟩))
            · have VT : Hid (Mrgd (ltOf cf) d2 d2 mid e b) := mrgd_none hc
              by_cases hc1 : mid < e
              · have hc2 : (mid : Int) < (e : Int) := by omega
                have hc3 : ¬ (e : Int) < (b : Int) := by omega
                clear hc hc1
                go_wp2 <;> (go_end0; exact ⟨rfl, d2, S6.out, mrgd_parts ho hs1 hs2 he1 he2 hse.out L1'.out L2'.out RT.out QT.out VT.out⟩)
              · have hc2 : ¬ (mid : Int) < (e : Int) := by omega
                clear hc hc1
                go_wp2 <;> (go_end0; exact ⟨rfl, d2, S6.out, mrgd_parts ho hs1 hs2 he1 he2 hse.out L1'.out L2'.out RT.out QT.out VT.out⟩)
          · have QT : Hid (Mrgd (ltOf cf) d d a s mid) := mrgd_none hc
            by_cases hc1 : a < s
            · have hc2 : (a : Int) < (s : Int) := by omega
              have hc3 : ¬ (s : Int) < (mid : Int) := by omega
              clear hc hc1
              by_cases hc : mid < e ∧ e < b
              · first
                | (exfalso; omega)
                | (have hc1 : (mid : Int) < (e : Int) := by omega
                   have hc2 : (e : Int) < (b : Int) := by omega
                   go_wp2_with (go_at_call 95; refine Stop.at ?_)
                   unfold Stop
                   refine (HI.out mid e b d _ (by omega) rfl S1.out (by omega) (by omega) (by omega)).mono ?_
                   rintro ex w7 ⟨rfl, d3, hS7, hVT⟩
                   have S7 : Aside _ := hS7
                   have hd3 : d3.size = d.size := by rw [hVT.1]
                   have VT : Hid _ := hVT
                   clear S1 hS7 hVT
                   clear hc1 hc2 hc
                   go_wp2 <;> (go_end0; exact ⟨rfl, d3, S7.out, mrgd_parts ho hs1 hs2 he1 he2 hse.out L1'.out L2'.out RT.out QT.out VT.out⟩))
              · have VT : Hid (Mrgd (ltOf cf) d d mid e b) := mrgd_none hc
                by_cases hc1 : mid < e
                · have hc2 : (mid : Int) < (e : Int) := by omega
                  have hc3 : ¬ (e : Int) < (b : Int) := by omega
                  clear hc hc1
                  go_wp2 <;> (go_end0; exact ⟨rfl, d, S1.out, mrgd_parts ho hs1 hs2 he1 he2 hse.out L1'.out L2'.out RT.out QT.out VT.out⟩)
                · have hc2 : ¬ (mid : Int) < (e : Int) := by omega
                  clear hc hc1
                  go_wp2 <;> (go_end0; exact ⟨rfl, d, S1.out, mrgd_parts ho hs1 hs2 he1 he2 hse.out L1'.out L2'.out RT.out QT.out VT.out⟩)
            · have hc2 : ¬ (a : Int) < (s : Int) := by omega
              clear hc hc1
              by_cases hc : mid < e ∧ e < b
              · first
                | (exfalso; omega)
                | (have hc1 : (mid : Int) < (e : Int) := by omega
                   have hc2 : (e : Int) < (b : Int) := by omega
                   go_wp2_with (go_at_call 95; refine Stop.at ?_)
                   unfold Stop
                   refine (HI.out mid e b d _ (by omega) rfl S1.out (by omega) (by omega) (by omega)).mono ?_
                   rintro ex w7 ⟨rfl, d3, hS7, hVT⟩
                   have S7 : Aside _ := hS7
                   have hd3 : d3.size = d.size := by rw [hVT.1]
                   have VT : Hid _ := hVT
                   clear S1 hS7 hVT
                   clear hc1 hc2 hc
                   go_wp2 <;> (go_end0; exact ⟨rfl, d3, S7.out, mrgd_parts ho hs1 hs2 he1 he2 hse.out L1'.out L2'.out RT.out QT.out VT.out⟩))
              · have VT : Hid (Mrgd (ltOf cf) d d mid e b) := mrgd_none hc
                by_cases hc1 : mid < e
                · have hc2 : (mid : Int) < (e : Int) := by omega
                  have hc3 : ¬ (e : Int) < (b : Int) := by omega
                  clear hc hc1
                  go_wp2 <;> (go_end0; exact ⟨rfl, d, S1.out, mrgd_parts ho hs1 hs2 he1 he2 hse.out L1'.out L2'.out RT.out QT.out VT.out⟩)
                · have hc2 : ¬ (mid : Int) < (e : Int) := by omega
                  clear hc hc1
                  go_wp2 <;> (go_end0; exact ⟨rfl, d, S1.out, mrgd_parts ho hs1 hs2 he1 he2 hse.out L1'.out L2'.out RT.out QT.out VT.out⟩)
        · have hc2 : ¬ (s : Int) < (m : Int) := by omega
          clear hc hc1
          by_cases hc : a < s ∧ s < mid
          · have hc1 : (a : Int) < (s : Int) := by omega
            have hc2 : (s : Int) < (mid : Int) := by omega
            go_wp2_with (go_at_call 95; refine Stop.at ?_)
            unfold Stop
            refine (HI.out a s mid d _ (by omega) rfl S1.out (by omega) (by omega) (by omega)).mono ?_
            rintro ex w6 ⟨rfl, d2, hS6, hQT⟩
            have S6 : Aside _ := hS6
            have hd2 : d2.size = d.size := by rw [hQT.1]
            have QT : Hid _ := hQT
            clear S1 hS6 hQT
            clear hc1 hc2 hc
            by_cases hc : mid < e ∧ e < b
            · first
              | (exfalso; omega)
              | (have hc1 : (mid : Int) < (e : Int) := by omega
                 have hc2 : (e : Int) < (b : Int) := by omega
                 go_wp2_with (go_at_call 95; refine Stop.at ?_)
                 unfold Stop
                 refine (HI.out mid e b d2 _ (by omega) hd2 S6.out (by omega) (by omega) (by omega)).mono ?_
                 rintro ex w7 ⟨rfl, d3, hS7, hVT⟩
                 have S7 : Aside _ := hS7
                 have hd3 : d3.size = d.size := by rw [hVT.1]; exact hd2
                 have VT : Hid _ := hVT
                 clear S6 hS7 hVT
                 clear hc1 hc2 hc
                 go_wp2 <;> (go_end0; exact ⟨rfl, d3, S7.out, mrgd_parts ho hs1 hs2 he1 he2 hse.out L1'.out L2'.out RT.out QT.out VT.out⟩))
            · have VT : Hid (Mrgd (ltOf cf) d2 d2 mid e b) := mrgd_none hc
              by_cases hc1 : mid < e
              · have hc2 : (mid : Int) < (e : Int) := by omega
                have hc3 : ¬ (e : Int) < (b : Int) := by omega
                clear hc hc1
                go_wp2 <;> (go_end0; exact ⟨rfl, d2, S6.out, mrgd_parts ho hs1 hs2 he1 he2 hse.out L1'.out L2'.out RT.out QT.out VT.out⟩)
              · have hc2 : ¬ (mid : Int) < (e : Int) := by omega
                clear hc hc1
                go_wp2 <;> (go_end0; exact ⟨rfl, d2, S6.out, mrgd_parts ho hs1 hs2 he1 he2 hse.out L1'.out L2'.out RT.out QT.out VT.out⟩)
          · have QT : Hid (Mrgd (ltOf cf) d d a s mid) := mrgd_none hc
            by_cases hc1 : a < s
            · have hc2 : (a : Int) < (s : Int) := by omega
              have hc3 : ¬ (s : Int) < (mid : Int) := by omega
              clear hc hc1
              by_cases hc : mid < e ∧ e < b
              · first
                | (exfalso; omega)
                | (have hc1 : (mid : Int) < (e : Int) := by omega
                   have hc2 : (e : Int) < (b : Int) := by omega
                   go_wp2_with (go_at_call 95; refine Stop.at ?_)
                   unfold Stop
                   refine (HI.out mid e b d _ (by omega) rfl S1.out (by omega) (by omega) (by omega)).mono ?_
                   rintro ex w7 ⟨rfl, d3, hS7, hVT⟩
                   have S7 : Aside _ := hS7
                   have hd3 : d3.size = d.size := by rw [hVT.1]
                   have VT : Hid _ := hVT
                   clear S1 hS7 hVT
                   clear hc1 hc2 hc
                   go_wp2 <;> (go_end0; exact ⟨rfl, d3, S7.out, mrgd_parts ho hs1 hs2 he1 he2 hse.out L1'.out L2'.out RT.out QT.out VT.out⟩))
              · have VT : Hid (Mrgd (ltOf cf) d d mid e b) := mrgd_none hc
                by_cases hc1 : mid < e
                · have hc2 : (mid : Int) < (e : Int) := by omega
                  have hc3 : ¬ (e : Int) < (b : Int) := by omega
                  clear hc hc1
                  go_wp2 <;> (go_end0; exact ⟨rfl, d, S1.out, mrgd_parts ho hs1 hs2 he1 he2 hse.out L1'.out L2'.out RT.out QT.out VT.out⟩)
                · have hc2 : ¬ (mid : Int) < (e : Int) := by omega
                  clear hc hc1
                  go_wp2 <;> (go_end0; exact ⟨rfl, d, S1.out, mrgd_parts ho hs1 hs2 he1 he2 hse.out L1'.out L2'.out RT.out QT.out VT.out⟩)
            · have hc2 : ¬ (a : Int) < (s : Int) := by omega
              clear hc hc1
              by_cases hc : mid < e ∧ e < b
              · first
                | (exfalso; omega)
                | (have hc1 : (mid : Int) < (e : Int) := by omega
                   have hc2 : (e : Int) < (b : Int) := by omega
                   go_wp2_with (go_at_call 95; refine Stop.at ?_)
                   unfold Stop
                   refine (HI.out mid e b d _ (by omega) rfl S1.out (by omega) (by omega) (by omega)).mono ?_
                   rintro ex w7 ⟨rfl, d3, hS7, hVT⟩
                   have S7 : Aside _ := hS7
                   have hd3 : d3.size = d.size := by rw [hVT.1]
                   have VT : Hid _ := hVT
                   clear S1 hS7 hVT
                   clear hc1 hc2 hc
                   go_wp2 <;> (go_end0; exact ⟨rfl, d3, S7.out, mrgd_parts ho hs1 hs2 he1 he2 hse.out L1'.out L2'.out RT.out QT.out VT.out⟩))
              · have VT : Hid (Mrgd (ltOf cf) d d mid e b) := mrgd_none hc
                by_cases hc1 : mid < e
                · have hc2 : (mid : Int) < (e : Int) := by omega
                  have hc3 : ¬ (e : Int) < (b : Int) := by omega
                  clear hc hc1
                  go_wp2 <;> (go_end0; exact ⟨rfl, d, S1.out, mrgd_parts ho hs1 hs2 he1 he2 hse.out L1'.out L2'.out RT.out QT.out VT.out⟩)
                · have hc2 : ¬ (mid : Int) < (e : Int) := by omega
                  clear hc hc1
                  go_wp2 <;> (go_end0; exact ⟨rfl, d, S1.out, mrgd_parts ho hs1 hs2 he1 he2 hse.out L1'.out L2'.out RT.out QT.out VT.out⟩)
end
end Go.Proofs.Ytooggheoaglbeaa

/- Blocks sorted each by itself, then merged two by two. -/
namespace Go.Proofs.Ytooggheoaglbeaa
open Go.Sort
set_option linter.unusedVariables false
section
variable {α : Type} {lt : α → α → Bool}
/-- Up to a place blocks are sorted; behind it all is as it was. -/
def BlkI (lt : α → α → Bool) (l : List α) (B a : Nat) (y : List α) : Prop := ∃ X, X.length = a ∧ y = X ++ l.drop a ∧ X ++ srtB lt B (l.drop a) = srtB lt B l
/-- Up to a place blocks of B' are sorted; behind it blocks of B are. -/
def BlkS (lt : α → α → Bool) (l : List α) (B B' a : Nat) (y : List α) : Prop := ∃ X, X.length = a ∧ y = X ++ srtB lt B (l.drop a) ∧ X ++ srtB lt B' (l.drop a) = srtB lt B' l
theorem blkI_start (l : List α) (B : Nat) : BlkI lt l B 0 l := ⟨[], rfl, by simp, by simp⟩
theorem blk_start {l y : List α} {B B' : Nat} (h : y = srtB lt B l) : BlkS lt l B B' 0 y := ⟨[], rfl, by simpa using h, by simp⟩
theorem drop_take_drop (l : List α) (a B : Nat) : l.drop a = (l.drop a).take B ++ l.drop (a + B) := by
  rw [← List.drop_drop, List.take_append_drop]
theorem blk_next (ho : Ord lt) {l : List α} {dk d' : Array α} {B a m b : Nat} (h : BlkS lt l B (2 * B) a dk.toList) (h0 : 0 < B) (hm : m = a + B) (hb : b = a + 2 * B) (hn : b ≤ l.length) (hM : Mrgd lt dk d' a m b) : BlkS lt l B (2 * B) b d'.toList := by
  obtain ⟨X, hX, hy, hw⟩ := h
  have e2 : (l.drop a).drop (2 * B) = l.drop b := by rw [List.drop_drop, hb]
  have e1 : ((l.drop a).drop B).drop B = l.drop b := by rw [List.drop_drop, List.drop_drop, hb]; congr 1; omega
  have s1 := srtB_next (lt := lt) B (l.drop a) h0 (by simp; omega)
  have s2 := srtB_next (lt := lt) B ((l.drop a).drop B) h0 (by simp; omega)
  have s3 := srtB_next (lt := lt) (2 * B) (l.drop a) (by omega) (by simp; omega)
  have q := hM.2 X (srt lt ((l.drop a).take B)) (srt lt (((l.drop a).drop B).take B)) (srtB lt B (l.drop b)) (by rw [hy, s1, s2, e1]; simp) hX (by rw [srt_len ho]; simp; omega) (by rw [srt_len ho]; simp; omega) (srt_srt ho _) (srt_srt ho _)
  rw [srt_two ho] at q
  refine ⟨X ++ srt lt ((l.drop a).take (2 * B)), ?_, q, ?_⟩
  · rw [List.length_append, srt_len ho]; simp; omega
  · rw [List.append_assoc, ← e2, ← s3, hw]
theorem blk_end1 (ho : Ord lt) {l : List α} {dk d' : Array α} {B a m n : Nat} (h : BlkS lt l B (2 * B) a dk.toList) (h0 : 0 < B) (hm : m = a + B) (hn : n = l.length) (h1 : m < n) (h2 : n ≤ a + 2 * B) (hM : Mrgd lt dk d' a m n) : d'.toList = srtB lt (2 * B) l := by
  obtain ⟨X, hX, hy, hw⟩ := h
  have s1 := srtB_next (lt := lt) B (l.drop a) h0 (by simp; omega)
  have s2 := srtB_small (lt := lt) B ((l.drop a).drop B) (by simp; omega)
  have s3 := srtB_small (lt := lt) (2 * B) (l.drop a) (by simp; omega)
  have q := hM.2 X (srt lt ((l.drop a).take B)) (srt lt ((l.drop a).drop B)) [] (by rw [hy, s1, s2]; simp) hX (by rw [srt_len ho]; simp; omega) (by rw [srt_len ho]; simp; omega) (srt_srt ho _) (srt_srt ho _)
  rw [← srt_app ho, List.take_append_drop, ← s3, List.append_nil, hw] at q
  exact q
theorem blk_end2 {l y : List α} {B a : Nat} (h : BlkS lt l B (2 * B) a y) (h1 : l.length ≤ a + B) : y = srtB lt (2 * B) l := by
  obtain ⟨X, hX, hy, hw⟩ := h
  rw [srtB_small (lt := lt) B (l.drop a) (by simp; omega)] at hy
  rw [srtB_small (lt := lt) (2 * B) (l.drop a) (by simp; omega)] at hw
  rw [hy, hw]
end
section
variable {α : Type} [Inhabited α] {lt : α → α → Bool}
theorem blkI_next (ho : Ord lt) {l : List α} {dk : Array α} {B a b : Nat} (h : BlkI lt l B a dk.toList) (h0 : 0 < B) (hb : b = a + B) (hn : b ≤ l.length) : BlkI lt l B b (insertionSort lt dk a b).toList := by
  obtain ⟨X, hX, hy, hw⟩ := h
  subst hb
  have e : (l.drop a).drop B = l.drop (a + B) := by rw [List.drop_drop]
  have q := insort_list ho X ((l.drop a).take B) (l.drop (a + B)) dk a (a + B) (by rw [hy, List.append_assoc, ← drop_take_drop]) hX.symm (by simp; omega)
  refine ⟨X ++ srt lt ((l.drop a).take B), ?_, q, ?_⟩
  · rw [List.length_append, srt_len ho]; simp; omega
  · rw [List.append_assoc, ← e, ← srtB_next (lt := lt) B (l.drop a) h0 (by simp; omega), hw]
theorem blkI_end (ho : Ord lt) {l : List α} {dk : Array α} {B a n : Nat} (h : BlkI lt l B a dk.toList) (ha : a ≤ n) (hn : n = l.length) (h1 : n ≤ a + B) : (insertionSort lt dk a n).toList = srtB lt B l := by
  obtain ⟨X, hX, hy, hw⟩ := h
  have q := insort_list ho X (l.drop a) [] dk a n (by rw [hy]; simp) hX.symm (by simp; omega)
  rw [srtB_small (lt := lt) B (l.drop a) (by simp; omega)] at hw
  rw [q, List.append_nil, hw]
end
end Go.Proofs.Ytooggheoaglbeaa

/- 'slices.symMergeCmpFunc' and 'slices.stableCmpFunc' at events: said of any program that has these bodies. -/
namespace Go.Proofs.Ytooggheoaglbeaa
open Go.Shelf Go.RowKit Go.Lib Go.Sort
set_option linter.unusedVariables false
section
variable {P : Program} {α : Type} [Inhabited α]
theorem symMerge_P {k : Nat} (Y : TyE P k) (FG : P.funcs[95]? = some Try.f95) (F1 : P.funcs[115]? = some Try.f115) (F2 : P.funcs[105]? = some Try.f105) (es : ∀ args w, (callFunc 115 args).run P w = .ok (.enter 115 args) w) (er : ∀ args w, (callFunc 105 args).run P w = .ok (.enter 105 args) w) (em : ∀ args w, (callFunc 95 args).run P w = .ok (.enter 95 args) w)
    (enc : α → List Value) (cf : α → α → Int) (ho : Ord (ltOf cf)) (g : Nat) (cb : Array Value) (blk off cap : Nat) (d0 : Array α) (w0 : World)
    (eg : ∀ args w, (callFunc g args).run P w = .ok (.enter g args) w) (hcmp : CmpLays P g cb enc k cf blk off d0.size w0) (R : RowK enc k w0 blk off d0) :
    ∀ (N a m b : Nat) (d : Array α) (w : World), b - a ≤ N → d0.size = d.size → SWK enc k w0 blk off d w → a < m → m < b → b ≤ d.size → d.size < 4611686018427387904 →
    Calls P 95 #[.slice (some ⟨blk, off, none⟩) d.size cap, .int .i64 a, .int .i64 m, .int .i64 b, .func (.func g) #[] cb] w fun e w' => e = .returned (.tuple #[]) ∧ ∃ d', SWK enc k w0 blk off d' w' ∧ Mrgd (ltOf cf) d d' a m b
  | 0, a, m, b, d, w, hN, hs, S, h1, h2, hb, hsz => by omega
  | N + 1, a, m, b, d, w, hN, hs, S, h1, h2, hb, hsz => by
    have IH := symMerge_P Y FG F1 F2 es er em enc cf ho g cb blk off cap d0 w0 eg hcmp R N
    have ih : ∀ (a' m' b' : Nat) (D : Array α) (W : World), b' - a' < b - a → D.size = d.size → SWK enc k w0 blk off D W → a' < m' → m' < b' → b' ≤ d.size → Calls P 95 #[.slice (some ⟨blk, off, none⟩) d.size cap, .int .i64 a', .int .i64 m', .int .i64 b', .func (.func g) #[] cb] W fun e w' => e = .returned (.tuple #[]) ∧ ∃ d', SWK enc k w0 blk off d' w' ∧ Mrgd (ltOf cf) D d' a' m' b' := fun a' m' b' D W hlt hD T q1 q2 q3 => by
      have := IH a' m' b' D W (by omega) (by omega) T q1 q2 (by omega) (by omega)
      rwa [hD] at this
    by_cases c1 : m = a + 1
    · exact sym_left Y FG enc cf ho g cb blk off cap a m b d0 d w0 w eg hcmp R hs S h1 h2 hb hsz c1
    · by_cases c2 : b = m + 1
      · exact sym_right Y FG enc cf ho g cb blk off cap a m b d0 d w0 w eg hcmp R hs S h1 h2 hb hsz c2 c1
      · by_cases c3 : (a + b) / 2 < m
        · exact sym_mid1 Y FG enc cf ho g cb blk off cap a m b d0 d w0 w eg hcmp R hs S h1 h2 hb hsz F1 F2 es er em ih (by omega) (by omega) _ rfl c3
        · exact sym_mid2 Y FG enc cf ho g cb blk off cap a m b d0 d w0 w eg hcmp R hs S h1 h2 hb hsz F1 F2 es er em ih (by omega) (by omega) _ rfl (by omega)
set_option maxHeartbeats 8000000 in
set_option maxRecDepth 1000000 in
theorem stable_P {k : Nat} (Y : TyE P k) (FG : P.funcs[76]? = some Try.f76) (em : ∀ args w, (callFunc 95 args).run P w = .ok (.enter 95 args) w) (ei : ∀ args w, (callFunc 94 args).run P w = .ok (.enter 94 args) w)
    (enc : α → List Value) (cf : α → α → Int) (ho : Ord (ltOf cf)) (g : Nat) (cb : Array Value) (blk off cap : Nat) (d : Array α) (w0 w : World) (n : Nat) (hn : d.size = n) (hsz : n < 1000000)
    (hins : ∀ (a b : Nat) (D : Array α) (W : World), D.size = n → SWK enc k w0 blk off D W → a ≤ b → b ≤ n → Calls P 94 #[.slice (some ⟨blk, off, none⟩) n cap, .int .i64 a, .int .i64 b, .func (.func g) #[] cb] W fun e w' => e = .returned (.tuple #[]) ∧ SWK enc k w0 blk off (insertionSort (ltOf cf) D a b) w' ∧ (insertionSort (ltOf cf) D a b).size = n)
    (hsym : ∀ (a m b : Nat) (D : Array α) (W : World), D.size = n → SWK enc k w0 blk off D W → a < m → m < b → b ≤ n → Calls P 95 #[.slice (some ⟨blk, off, none⟩) n cap, .int .i64 a, .int .i64 m, .int .i64 b, .func (.func g) #[] cb] W fun e w' => e = .returned (.tuple #[]) ∧ ∃ d', SWK enc k w0 blk off d' w' ∧ Mrgd (ltOf cf) D d' a m b)
    (S : SWK enc k w0 blk off d w) :
    Calls P 76 #[.slice (some ⟨blk, off, none⟩) n cap, .int .i64 n, .func (.func g) #[] cb] w fun e w' => e = .returned (.tuple #[]) ∧ ∃ d', SWK enc k w0 blk off d' w' ∧ d'.toList = srt (ltOf cf) d.toList := by
  have mixed := Y.mixed; have t0 := Y.t0; have a0 := Y.a0; have z0 := Y.z0; have v0 := Y.v0; have t3 := Y.t3; have a3 := Y.a3; have z3 := Y.z3; have v3 := Y.v3; have t4 := Y.t4; have a4 := Y.a4; have z4 := Y.z4; have v4 := Y.v4; have tS := Y.tS; have aS := Y.aS; have zS := Y.zS; have vS := Y.vS; have tF := Y.tF; have aF := Y.aF; have zF := Y.zF; have vF := Y.vF; have tU := Y.tU; have aU := Y.aU; have zU := Y.zU; have vU := Y.vU; have aE := Y.aE; have zE := Y.zE
  have S0 : Aside (SWK enc k w0 blk off d w) := S
  have HI := hide hins
  have HS := hide hsym
  obtain ⟨l, hl⟩ : ∃ l, l = d.toList := ⟨_, rfl⟩
  have hln : Hid (n = l.length) := by unfold Hid; rw [hl, ← hn]; simp
  have hln1 : n ≤ l.length ∧ l.length ≤ n := by have := hln.out; omega
  have hd0 : Hid (d.size = n) := hn
  have BI : Hid (BlkI (ltOf cf) l 20 0 d.toList) := by unfold Hid; rw [← hl]; exact blkI_start l 20
  rw [← hl]
  clear S Y hins hsym hl hn
  go_enter FG, Try.ntmps76
  go_wp2
  go_loopg [7, 8] n (fun kx s7 s8 wr => ∃ (a b : Nat) (dk : Array α), s7 = .int .i64 a ∧ s8 = .int .i64 b ∧ Hid (b = a + 20) ∧ b ≤ a + 20 ∧ a + 20 ≤ b ∧ a ≤ n ∧ n - a ≤ kx ∧ Hid (dk.size = n) ∧ Aside (SWK enc k w0 blk off dk wr) ∧ Hid (BlkI (ltOf cf) l 20 a dk.toList))
  case atStart => exact ⟨0, 20, d, rfl, rfl, rfl, by omega, by omega, by omega, by omega, hd0, S0, BI⟩
  case round =>
    clear S0 BI
    obtain ⟨a, b, dk, rfl, rfl, hab, hab1, hab2, han, hkx, hds, S1, B1⟩ := hrel
    by_cases hlt : b ≤ n
    · have hltz : (b : Int) ≤ (n : Int) := by omega
      go_wp2_with (go_at_call 94; refine Stop.at ?_)
      unfold Stop
      refine (HI.out a b dk _ hds.out S1.out (by omega) hlt).mono ?_
      rintro ex w2 ⟨rfl, hS2, hz2⟩
      have S2 : Aside _ := hS2
      have B2 : Hid _ := blkI_next ho B1.out (by omega) hab.out (by omega)
      have HZ2 : Hid _ := hz2
      clear hS2 hz2 B1 S1
      generalize insertionSort (ltOf cf) dk a b = dk2 at S2 B2 HZ2
      obtain ⟨b2, hb2⟩ : ∃ b2 : Nat, b2 = b + 20 := ⟨_, rfl⟩
      have eb2 : (b : Int) + 20 = (b2 : Int) := by omega
      have hb3 := hide hb2
      have hb4 : b2 ≤ b + 20 ∧ b + 20 ≤ b2 := by omega
      clear hb2
      go_wp2
      go_roundg (n - b)
      case measure => omega
      case rel => exact ⟨b, b2, dk2, rfl, rfl, hb3, by omega, by omega, hlt, Nat.le_refl _, HZ2, S2, B2⟩
    · have hltz : ¬ (b : Int) ≤ (n : Int) := by omega
      go_wp2_with (go_at_call 94; refine Stop.at ?_)
      unfold Stop
      refine (HI.out a n dk _ hds.out S1.out (by omega) (Nat.le_refl _)).mono ?_
      rintro ex w2 ⟨rfl, hS2, hz2⟩
      have S2 : Aside _ := hS2
      have B2 : Hid _ := blkI_end ho B1.out han hln.out (by omega)
      have HZ2 : Hid _ := hz2
      clear hS2 hz2 B1 S1
      generalize insertionSort (ltOf cf) dk a n = dk2 at S2 B2 HZ2
      go_wp2
      go_loopg [6] n (fun kx2 s6 wr => ∃ (B : Nat) (dk : Array α), s6 = .int .i64 B ∧ 20 ≤ B ∧ B ≤ 2 * n + 20 ∧ n - B ≤ kx2 ∧ Hid (dk.size = n) ∧ Aside (SWK enc k w0 blk off dk wr) ∧ Hid (dk.toList = srtB (ltOf cf) B l))
      case atStart => exact ⟨20, dk2, rfl, by omega, by omega, by omega, HZ2, S2, B2⟩
      case round =>
        clear S2 B2 HZ2
        obtain ⟨B, dk, rfl, hB0, hBn, hkx2, hds2, S3, B3⟩ := hrel
        by_cases hlt2 : B < n
        · have hlt2z : (B : Int) < (n : Int) := by omega
          obtain ⟨B2, hB2⟩ : ∃ B2 : Nat, B2 = 2 * B := ⟨_, rfl⟩
          have eB2 : 2 * (B : Int) = (B2 : Int) := by omega
          have eB3 : (B : Int) * 2 = (B2 : Int) := by omega
          have HB2 := hide hB2
          have hB4 : B2 ≤ 2 * B ∧ 2 * B ≤ B2 := by omega
          have B4 : Hid (BlkS (ltOf cf) l B (2 * B) 0 dk.toList) := blk_start B3.out
          clear hB2 B3
          go_wp2
          go_loopg [7, 8] n (fun kx3 s7 s8 wr => ∃ (a b : Nat) (dk : Array α), s7 = .int .i64 a ∧ s8 = .int .i64 b ∧ Hid (b = a + 2 * B) ∧ b ≤ a + 2 * B ∧ a + 2 * B ≤ b ∧ a ≤ n ∧ n - a ≤ kx3 ∧ Hid (dk.size = n) ∧ Aside (SWK enc k w0 blk off dk wr) ∧ Hid (BlkS (ltOf cf) l B (2 * B) a dk.toList))
          case atStart => exact ⟨0, B2, dk, rfl, rfl, (show Hid _ from by unfold Hid; rw [HB2.out]; omega), by omega, by omega, by omega, by omega, hds2, S3, B4⟩
          case round =>
            clear S3 B4 hds2
            obtain ⟨a, b, dk, rfl, rfl, hab, hab1, hab2, han, hkx3, hds3, S4, B5⟩ := hrel
            obtain ⟨m, hm⟩ : ∃ m : Nat, m = a + B := ⟨_, rfl⟩
            have em2 : (a : Int) + (B : Int) = (m : Int) := by omega
            have HM := hide hm
            have hm1 : m ≤ a + B ∧ a + B ≤ m := by omega
            clear hm
            by_cases hlt3 : b ≤ n
            · have hlt3z : (b : Int) ≤ (n : Int) := by omega
              go_wp2_with (go_at_call 95; refine Stop.at ?_)
              unfold Stop
              refine (HS.out a m b dk _ hds3.out S4.out (by omega) (by omega) hlt3).mono ?_
              rintro ex w5 ⟨rfl, dk5, hS5, hM5⟩
              have S5 : Aside _ := hS5
              have B6 : Hid _ := blk_next ho B5.out (by omega) HM.out hab.out (by omega) hM5
              have HZ5 : Hid (dk5.size = n) := by unfold Hid; rw [hM5.1]; exact hds3.out
              clear hS5 hM5 S4 B5
              obtain ⟨b2, hb2⟩ : ∃ b2 : Nat, b2 = b + 2 * B := ⟨_, rfl⟩
              have eb2 : (b : Int) + (B2 : Int) = (b2 : Int) := by omega
              have hb3 := hide hb2
              have hb4 : b2 ≤ b + 2 * B ∧ b + 2 * B ≤ b2 := by omega
              clear hb2
              go_wp2
              go_roundg (n - b)
              case measure => omega
              case rel => exact ⟨b, b2, dk5, rfl, rfl, hb3, by omega, by omega, hlt3, Nat.le_refl _, HZ5, S5, B6⟩
            · have hlt3z : ¬ (b : Int) ≤ (n : Int) := by omega
              by_cases hmn : m < n
              · have hmnz : (m : Int) < (n : Int) := by omega
                go_wp2_with (go_at_call 95; refine Stop.at ?_)
                unfold Stop
                refine (HS.out a m n dk _ hds3.out S4.out (by omega) hmn (Nat.le_refl _)).mono ?_
                rintro ex w5 ⟨rfl, dk5, hS5, hM5⟩
                have S5 : Aside _ := hS5
                have B6 : Hid (dk5.toList = srtB (ltOf cf) B2 l) := by
                  unfold Hid
                  rw [HB2.out]
                  exact blk_end1 ho B5.out (by omega) HM.out hln.out hmn (by omega) hM5
                have HZ5 : Hid (dk5.size = n) := by unfold Hid; rw [hM5.1]; exact hds3.out
                clear hS5 hM5 S4 B5
                go_wp2
                go_roundg (n - B2)
                case measure => omega
                case rel => exact ⟨B2, dk5, rfl, by omega, by omega, Nat.le_refl _, HZ5, S5, B6⟩
              · have hmnz : ¬ (m : Int) < (n : Int) := by omega
                have B6 : Hid (dk.toList = srtB (ltOf cf) B2 l) := by
                  unfold Hid
                  rw [HB2.out]
                  exact blk_end2 B5.out (by omega)
                clear B5
                go_wp2
                go_roundg (n - B2)
                case measure => omega
                case rel => exact ⟨B2, dk, rfl, by omega, by omega, Nat.le_refl _, hds3, S4, B6⟩
        · have hlt2z : ¬ (B : Int) < (n : Int) := by omega
          go_wp2
          go_end0
          exact ⟨rfl, dk, S3.out, by rw [B3.out, srtB_small B l (by omega)]⟩
end
end Go.Proofs.Ytooggheoaglbeaa

/- Where the contracts of the library lie in this program: numbers alone. -/
namespace Go.Proofs.Ytooggheoaglbeaa
open Go.Shelf

def insE_ren : Go.Shelf.Ren := ⟨fun | 20 => 94 | n => n, fun | 24 => 28 | 22 => 30 | 3 => 3 | 25 => 78 | 4 => 4 | 0 => 0 | n => n, fun | n => n⟩
theorem insE : Go.Proofs.SlLaysF0.n20 Try.prog insE_ren := {
  mixed := by kernel_rfl,
  f20 := ⟨Try.f94.name, by decide, Try.func94.trans (congrArg some (by kernel_rfl))⟩,
  t0 := Try.underlying0,
  a0 := Try.isAgg0,
  z0 := Try.sizeOf0,
  v0 := Try.zeroValue0,
  t3 := Try.underlying3,
  a3 := Try.isAgg3,
  z3 := Try.sizeOf3,
  v3 := Try.zeroValue3,
  t4 := Try.underlying4,
  a4 := Try.isAgg4,
  z4 := Try.sizeOf4,
  v4 := Try.zeroValue4,
  t22 := Try.underlying30,
  a22 := Try.isAgg30,
  z22 := Try.sizeOf30,
  v22 := Try.zeroValue30,
  t25 := Try.underlying78,
  a25 := Try.isAgg78,
  z25 := Try.sizeOf78,
  v25 := Try.zeroValue78 }

end Go.Proofs.Ytooggheoaglbeaa

/- What 'slices.Clone', 'compareDots', 'compare' and 'clone' do. -/
namespace Go.Proofs.Ytooggheoaglbeaa
open Go.RowKit
set_option linter.unusedVariables false

set_option maxHeartbeats 400000 in
set_option maxRecDepth 100000 in
theorem cloneN_any (a : Option Addr) (n cap : Nat) (l : List Int) (w : World) (hN : NS w a n l) (hn : n ≤ 1000000) :
    Calls Try.prog 74 #[.slice a n cap] w fun e w' => ∃ v, e = .returned v ∧ OwnN w.heap.size w' v l ∧ Below w.heap.size w w' := by
  have q22 : ∀ (w : World) (a : Option Addr) (n c n' c' : Nat), (binOp .eql 25 (.slice a n c) (.slice none n' c')).run Try.prog w = .ok (.bool a.isNone) w := fun w a n c n' c' => Lib.run_eql_slice_nil w _ _ a n c n' c' Try.underlying25
  rcases a with _ | p
  · have hl : l = [] := by
      rcases hN.2.2 with h0 | ⟨b, off, hh, _⟩
      · exact List.eq_nil_of_length_eq_zero (by rw [hN.1, h0])
      · cases hh
    subst hl
    clear hN
    go_enter Try.func74, Try.ntmps74
    go_wp2
    go_ret
    exact ⟨_, rfl, OwnN.nil _ _, Below.refl _ _⟩
  · have HD0 := hide hN
    clear hN
    go_enter Try.func74, Try.ntmps74
    go_wp2_with (at_builtin; refine Stop.at ?_)
    unfold Stop
    refine append_nums rfl _ _ 25 Try.underlying25 rfl w.heap.size _ [] l rfl (OwnN.made w w.heap.size _ rfl (Nat.le_refl _)) p n cap rfl (HD0.out.alloc _) (by have := HD0.out.1; simp; omega) (by simp) ?_
    intro v' w' h1 _ h2
    have HO := hide h1
    have HB := hide (h2 _ (bel1 w _))
    clear h1 h2
    go_wp2
    go_ret
    exact ⟨_, rfl, HO.out, HB.out⟩
set_option maxHeartbeats 400000 in
set_option maxRecDepth 100000 in
theorem cloneF_any (a : Option Addr) (n cap : Nat) (l : List Eff) (w : World) (hE : ES w a n l) (hn : n ≤ 100000) :
    Calls Try.prog 75 #[.slice a n cap] w fun e w' => ∃ v, e = .returned v ∧ OwnR encF 6 35 w.heap.size w' v l ∧ Below w.heap.size w w' := by
  have q22 : ∀ (w : World) (a : Option Addr) (n c n' c' : Nat), (binOp .eql 26 (.slice a n c) (.slice none n' c')).run Try.prog w = .ok (.bool a.isNone) w := fun w a n c n' c' => Lib.run_eql_slice_nil w _ _ a n c n' c' Try.underlying26
  rcases a with _ | p
  · have hl : l = [] := by
      rcases hE.1.2.2 with h0 | ⟨b, off, hh, _⟩
      · exact List.eq_nil_of_length_eq_zero (by rw [hE.1.1, h0])
      · cases hh
    subst hl
    clear hE
    go_enter Try.func75, Try.ntmps75
    go_wp2
    go_ret
    exact ⟨_, rfl, OwnR.nil _ _, Below.refl _ _⟩
  · have HD0 := hide hE
    clear hE
    go_enter Try.func75, Try.ntmps75
    go_wp2_with (at_builtin; refine Stop.at ?_)
    unfold Stop
    refine append_rows (enc := encF) (k := 6) rfl _ _ 26 rfl Try.underlying26 Try.infoEff rfl (by decide) (by decide) encF_len encF_one w.heap.size _ [] l rfl (OwnR.made w w.heap.size _ rfl (Nat.le_refl _)) (some p) n cap rfl (fun h => by cases h) (HD0.out.1.alloc _) (by have := HD0.out.1.1; simp; omega) (by simp) ?_
    intro v' w' h1 _ h2
    have HO := hide h1
    have HB := hide (h2 _ (bel1 w _))
    clear h1 h2
    go_wp2
    go_ret
    exact ⟨_, rfl, HO.out, HB.out⟩

set_option maxHeartbeats 400000 in
theorem compareDots_any (x y : Dot) (w : World) : Calls Try.prog 80 #[.agg #[.int .i64 x.1, .int .i64 x.2], .agg #[.int .i64 y.1, .int .i64 y.2]] w fun e w' => e = .returned (.int .i64 (cmpD x y)) ∧ Gr w w' := by
  have HC := hide (fun W => Less_any x y W)
  have HD := hide (fun W => Less_any y x W)
  rcases h1 : lessD x y with _ | _
  · rcases h2 : lessD y x with _ | _
    · have HE : Hid (0 = cmpD x y) := by unfold Hid cmpD; simp [h1, h2]
      rw [h1] at HC
      rw [h2] at HD
      clear h1 h2
      obtain ⟨r, s⟩ := x
      obtain ⟨r', s'⟩ := y
      have HU := hide (((Gr.refl w).alloc (bxD r s)).alloc (bxD r' s'))
      have c0 : ((w.alloc (bxD r s)).alloc (bxD r' s')).cell? ⟨w.heap.size, 0, none⟩ = some (.int .i64 r) := cell_old _ (cell_new w _ _ _ rfl 0 _ rfl)
      have c1 : ((w.alloc (bxD r s)).alloc (bxD r' s')).cell? ⟨w.heap.size, 1, none⟩ = some (.int .i64 s) := cell_old _ (cell_new w _ _ _ rfl 1 _ rfl)
      have c2 : ((w.alloc (bxD r s)).alloc (bxD r' s')).cell? ⟨w.heap.size + 1, 0, none⟩ = some (.int .i64 r') := cell_new _ _ _ _ (by simp) 0 _ rfl
      have c3 : ((w.alloc (bxD r s)).alloc (bxD r' s')).cell? ⟨w.heap.size + 1, 1, none⟩ = some (.int .i64 s') := cell_new _ _ _ _ (by simp) 1 _ rfl
      go_enter Try.func80, Try.ntmps80
      go_wp2_with (go_at_call 97; refine Stop.at ?_)
      unfold Stop
      refine (HC.out _).mono ?_
      rintro e u ⟨rfl, hg⟩
      replace HU := hide (HU.out.trans hg)
      replace c0 := bcell hg.bel c0
      replace c1 := bcell hg.bel c1
      replace c2 := bcell hg.bel c2
      replace c3 := bcell hg.bel c3
      clear hg
      go_wp2_with (go_at_call 97; refine (HD.out _).mono ?_; rintro e u2 ⟨rfl, hg⟩)
      go_ret
      exact ⟨ret_int HE.out, HU.out.trans hg⟩
    · have HE : Hid (1 = cmpD x y) := by unfold Hid cmpD; simp [h1, h2]
      rw [h1] at HC
      rw [h2] at HD
      clear h1 h2
      obtain ⟨r, s⟩ := x
      obtain ⟨r', s'⟩ := y
      have HU := hide (((Gr.refl w).alloc (bxD r s)).alloc (bxD r' s'))
      have c0 : ((w.alloc (bxD r s)).alloc (bxD r' s')).cell? ⟨w.heap.size, 0, none⟩ = some (.int .i64 r) := cell_old _ (cell_new w _ _ _ rfl 0 _ rfl)
      have c1 : ((w.alloc (bxD r s)).alloc (bxD r' s')).cell? ⟨w.heap.size, 1, none⟩ = some (.int .i64 s) := cell_old _ (cell_new w _ _ _ rfl 1 _ rfl)
      have c2 : ((w.alloc (bxD r s)).alloc (bxD r' s')).cell? ⟨w.heap.size + 1, 0, none⟩ = some (.int .i64 r') := cell_new _ _ _ _ (by simp) 0 _ rfl
      have c3 : ((w.alloc (bxD r s)).alloc (bxD r' s')).cell? ⟨w.heap.size + 1, 1, none⟩ = some (.int .i64 s') := cell_new _ _ _ _ (by simp) 1 _ rfl
      go_enter Try.func80, Try.ntmps80
      go_wp2_with (go_at_call 97; refine Stop.at ?_)
      unfold Stop
      refine (HC.out _).mono ?_
      rintro e u ⟨rfl, hg⟩
      replace HU := hide (HU.out.trans hg)
      replace c0 := bcell hg.bel c0
      replace c1 := bcell hg.bel c1
      replace c2 := bcell hg.bel c2
      replace c3 := bcell hg.bel c3
      clear hg
      go_wp2_with (go_at_call 97; refine (HD.out _).mono ?_; rintro e u2 ⟨rfl, hg⟩)
      go_ret
      exact ⟨ret_int HE.out, HU.out.trans hg⟩
  · have HE : Hid (-1 = cmpD x y) := by unfold Hid cmpD; simp [h1]
    rw [h1] at HC
    clear h1 HD
    obtain ⟨r, s⟩ := x
    obtain ⟨r', s'⟩ := y
    have HU := hide (((Gr.refl w).alloc (bxD r s)).alloc (bxD r' s'))
    go_enter Try.func80, Try.ntmps80
    go_wp2_with (go_at_call 97; refine (HC.out _).mono ?_; rintro e u ⟨rfl, hg⟩)
    go_ret
    exact ⟨ret_int HE.out, HU.out.trans hg⟩
/-- How two events are in order. -/
def cmpE (c : List Int) (d : Dot) (c' : List Int) (d' : Dot) : Int := orI (cmpI (sumL c) (sumL c')) (cmpD d d')
set_option maxHeartbeats 2000000 in
theorem compareE_any (r s : Int) (pa : Option Addr) (na ca : Nat) (pe : Option Addr) (ne ce : Nat) (r' s' : Int) (pb : Option Addr) (nb cb : Nat) (pf : Option Addr) (nf cf : Nat) (c c' : List Int) (w : World) (hN : NS w pa na c) (hN' : NS w pb nb c') :
    Calls Try.prog 55 #[.agg #[.int .i64 r, .int .i64 s, .slice pa na ca, .slice pe ne ce], .agg #[.int .i64 r', .int .i64 s', .slice pb nb cb, .slice pf nf cf]] w fun e w' => e = .returned (.int .i64 (cmpE c (r, s) c' (r', s'))) ∧ Below w.heap.size w w' := by
  have HM1 := hide (fun W (h : NS W pa na c) => Sum_any pa na ca c W h)
  have HM2 := hide (fun W (h : NS W pb nb c') => Sum_any pb nb cb c' W h)
  have HCD := hide (fun W => compareDots_any (r, s) (r', s') W)
  have HU := hide (bel2 w (bxE r s pa na ca pe ne ce) (bxE r' s' pb nb cb pf nf cf))
  have N1 := hide ((hN.alloc (bxE r s pa na ca pe ne ce)).alloc (bxE r' s' pb nb cb pf nf cf))
  have N2 := hide ((hN'.alloc (bxE r s pa na ca pe ne ce)).alloc (bxE r' s' pb nb cb pf nf cf))
  have X1 := (BX.new w _ rfl #[.int .i64 r, .int .i64 s, .slice pa na ca, .slice pe ne ce] 28).alloc (bxE r' s' pb nb cb pf nf cf)
  have X2 := BX.new (w.alloc (bxE r s pa na ca pe ne ce)) (w.heap.size + 1) (by simp) #[.int .i64 r', .int .i64 s', .slice pb nb cb, .slice pf nf cf] 28
  have c0 := X1.cell 0 _ rfl
  have c1 := X1.cell 1 _ rfl
  have c2 := X1.cell 2 _ rfl
  have d0 := X2.cell 0 _ rfl
  have d1 := X2.cell 1 _ rfl
  have d2 := X2.cell 2 _ rfl
  clear hN hN' X1 X2
  have HE : Hid (orI (cmpI (sumL c) (sumL c')) (cmpD (r, s) (r', s')) = cmpE c (r, s) c' (r', s')) := rfl
  go_enter Try.func55, Try.ntmps55
  go_wp2
  generalize hu : (w.alloc (bxE r s pa na ca pe ne ce)).alloc (bxE r' s' pb nb cb pf nf cf) = u at *
  clear hu
  generalize sumL c = z1 at HM1 HE
  generalize sumL c' = z2 at HM2 HE
  generalize cmpD (r, s) (r', s') = z3 at HCD HE
  refine wp_region_held_drew (S := fun W => Below u.heap.size u W) (by kernel_rfl) ((Below.refl _ u).drew) (fun hS0 => ?_)
  refine takeInH 0 5 ?v1 rfl rfl (by kernel_rfl) (by kernel_rfl) (by kernel_rfl) (fun _ _ _ h => h) (by kernel_rfl) hS0 ?hy1 ?_
  case hy1 => (intro W hW; clear hW; go_simp; try rfl)
  simp only [Act.put, List.setIfInBounds_toArray, List.set_cons_zero, List.set_cons_succ]
  refine takeInH 1 6 ?v2 rfl rfl (by kernel_rfl) (by kernel_rfl) (by kernel_rfl) (fun _ _ _ h => h) (by kernel_rfl) hS0 ?hy2 ?_
  case hy2 => (intro W hW; have e0 := bcell hW c0; have e1 := bcell hW c1; have e2 := bcell hW c2; have e3 := bcell hW d0; have e4 := bcell hW d1; have e5 := bcell hW d2; clear hW; go_simp; try rfl)
  simp only [Act.put, List.setIfInBounds_toArray, List.set_cons_zero, List.set_cons_succ]
  refine takeInH 3 8 ?v3 rfl rfl (by kernel_rfl) (by kernel_rfl) (by kernel_rfl) (fun _ _ _ h => h) (by kernel_rfl) hS0 ?hy3 ?_
  case hy3 => (intro W hW; clear hW; go_simp; try rfl)
  simp only [Act.put, List.setIfInBounds_toArray, List.set_cons_zero, List.set_cons_succ]
  refine takeInH 4 9 ?v4 rfl rfl (by kernel_rfl) (by kernel_rfl) (by kernel_rfl) (fun _ _ _ h => h) (by kernel_rfl) hS0 ?hy4 ?_
  case hy4 => (intro W hW; have e0 := bcell hW c0; have e1 := bcell hW c1; have e2 := bcell hW c2; have e3 := bcell hW d0; have e4 := bcell hW d1; have e5 := bcell hW d2; clear hW; go_simp; try rfl)
  simp only [Act.put, List.setIfInBounds_toArray, List.set_cons_zero, List.set_cons_succ]
  refine takeInH 7 12 ?v5 rfl rfl (by kernel_rfl) (by kernel_rfl) (by kernel_rfl) (fun _ _ _ h => h) (by kernel_rfl) hS0 ?hy5 ?_
  case hy5 => (intro W hW; clear hW; go_simp; try rfl)
  simp only [Act.put, List.setIfInBounds_toArray, List.set_cons_zero, List.set_cons_succ]
  refine takeInH 8 13 ?v6 rfl rfl (by kernel_rfl) (by kernel_rfl) (by kernel_rfl) (fun _ _ _ h => h) (by kernel_rfl) hS0 ?hy6 ?_
  case hy6 => (intro W hW; have e0 := bcell hW c0; have e1 := bcell hW c1; have e2 := bcell hW c2; have e3 := bcell hW d0; have e4 := bcell hW d1; have e5 := bcell hW d2; clear hW; go_simp; try rfl)
  simp only [Act.put, List.setIfInBounds_toArray, List.set_cons_zero, List.set_cons_succ]
  refine takeInH 9 14 ?v7 rfl rfl (by kernel_rfl) (by kernel_rfl) (by kernel_rfl) (fun _ _ _ h => h) (by kernel_rfl) hS0 ?hy7 ?_
  case hy7 => (intro W hW; clear hW; go_simp; try rfl)
  simp only [Act.put, List.setIfInBounds_toArray, List.set_cons_zero, List.set_cons_succ]
  refine takeInH 10 15 ?v8 rfl rfl (by kernel_rfl) (by kernel_rfl) (by kernel_rfl) (fun _ _ _ h => h) (by kernel_rfl) hS0 ?hy8 ?_
  case hy8 => (intro W hW; have e0 := bcell hW c0; have e1 := bcell hW c1; have e2 := bcell hW c2; have e3 := bcell hW d0; have e4 := bcell hW d1; have e5 := bcell hW d2; clear hW; go_simp; try rfl)
  simp only [Act.put, List.setIfInBounds_toArray, List.set_cons_zero, List.set_cons_succ]
  refine wpAnyH_ready (rs := [2]) (by kernel_rfl) (by simp) ?_
  refine AllReadyH.cons rfl (fun K hK => ?_) AllReadyH.nil
  go_simp
  refine (HM1.out _ (N1.out.below hS0)).mono ?_
  rintro e w' ⟨rfl, hb⟩
  try go_wp2_with fail
  refine hK.out _ _ ?hs9 (fun hS1 => ?_)
  case hs9 => exact bel_next hS0 hb
  clear hK K
  try simp only [Act.put, List.setIfInBounds_toArray, List.set_cons_zero, List.set_cons_succ]
  refine wpAnyH_ready (rs := [5]) (by kernel_rfl) (by simp) ?_
  refine AllReadyH.cons rfl (fun K hK => ?_) AllReadyH.nil
  go_simp
  refine (HM2.out _ (N2.out.below hS1)).mono ?_
  rintro e w' ⟨rfl, hb⟩
  try go_wp2_with fail
  refine hK.out _ _ ?hs10 (fun hS2 => ?_)
  case hs10 => exact bel_next hS1 hb
  clear hK K
  try simp only [Act.put, List.setIfInBounds_toArray, List.set_cons_zero, List.set_cons_succ]
  refine wpAnyH_ready (rs := [6]) (by kernel_rfl) (by simp) ?_
  refine AllReadyH.cons rfl (fun K hK => ?_) AllReadyH.nil
  go_simp
  refine (cmpI_any _ _ _).mono ?_
  rintro e w' ⟨rfl, hw⟩
  replace hw := hw.symm
  subst hw
  try go_wp2_with fail
  refine hK.out _ _ ?hs11 (fun hS3 => ?_)
  case hs11 => exact hS2
  clear hK K
  try simp only [Act.put, List.setIfInBounds_toArray, List.set_cons_zero, List.set_cons_succ]
  refine wpAnyH_ready (rs := [11]) (by kernel_rfl) (by simp) ?_
  refine AllReadyH.cons rfl (fun K hK => ?_) AllReadyH.nil
  go_simp
  refine (HCD.out _).mono ?_
  rintro e w8 ⟨rfl, hg⟩
  have hb := hg.bel
  clear hg
  try go_wp2_with fail
  refine hK.out _ _ ?hs12 (fun hS4 => ?_)
  case hs12 => exact bel_next hS3 hb
  clear hK K
  try simp only [Act.put, List.setIfInBounds_toArray, List.set_cons_zero, List.set_cons_succ]
  refine wpAnyH_ready (rs := [12]) (by kernel_rfl) (by simp) ?_
  refine AllReadyH.cons rfl (fun K hK => ?_) AllReadyH.nil
  go_simp
  refine hK.out _ _ ?hs13 (fun hS5 => ?_)
  case hs13 => exact bel_next hS4 (bel1 _ _)
  clear hK K
  try simp only [Act.put, List.setIfInBounds_toArray, List.set_cons_zero, List.set_cons_succ]
  refine wpAnyH_ready (rs := [13]) (by kernel_rfl) (by simp) ?_
  refine AllReadyH.cons rfl (fun K hK => ?_) AllReadyH.nil
  go_simp
  refine Calls.mono (or_any _ _ _ _ (cell_new w8 _ _ _ rfl 0 _ rfl) (cell_new w8 _ _ _ rfl 1 _ rfl)) ?_
  rintro e w' ⟨rfl, hw⟩
  replace hw := hw.symm
  subst hw
  try go_wp2_with fail
  refine hK.out _ _ ?hs14 (fun hS6 => ?_)
  case hs14 => exact hS5
  clear hK K
  try simp only [Act.put, List.setIfInBounds_toArray, List.set_cons_zero, List.set_cons_succ]
  refine takeInH 14 4 ?v15 rfl rfl (by kernel_rfl) (by kernel_rfl) (by kernel_rfl) (fun _ _ _ h => h) (by kernel_rfl) hS6 ?hy15 ?_
  case hy15 => (intro W hW; clear hW; go_simp; try rfl)
  simp only [Act.put, List.setIfInBounds_toArray, List.set_cons_zero, List.set_cons_succ]
  refine wpAnyH_done (by kernel_rfl) ?_ _
  go_wp2
  go_ret
  exact ⟨ret_int HE.out, bel_next HU.out hS6⟩
end Go.Proofs.Ytooggheoaglbeaa

/- The order of two events: draws and new blocks alone. -/
namespace Go.Proofs.Ytooggheoaglbeaa
open Go.RowKit
set_option linter.unusedVariables false
set_option maxHeartbeats 400000 in
theorem numbers_gr (a : Option Addr) (n cap : Nat) (c : List Int) (w : World) (hN : NS w a n c) :
    Calls Try.prog 65 #[.slice a n cap] w fun e w' => e = .returned (.agg #[.int .i64 (at5 c 0), .int .i64 (at5 c 1), .int .i64 (at5 c 2), .int .i64 (at5 c 3), .int .i64 (at5 c 4)]) ∧ Gr w w' := by
  have HN := hide hN
  obtain ⟨hlen, hmax, hcells⟩ := hN
  unfold maxLen at hmax
  by_cases hm : mayC c = true
  · have HM := hide hm
    have hk : chk c = 0 := by unfold chk; rw [if_pos hm]
    clear hlen hcells hm
    go_enter Try.func65, Try.ntmps65
    have hcp := run_copy_five (w.alloc (.cells #[.int .i64 0, .int .i64 0, .int .i64 0, .int .i64 0, .int .i64 0] 88)) (w.heap.size + 1) (by simp) a n cap c (HN.out.alloc _) HM.out
    go_wp2_with (go_at_call 63; refine (check_any _ _ _ c _ ((HN.out.alloc _).alloc _)).mono ?_; rintro e w' ⟨rfl, rfl⟩; rw [hk])
    exact bodyPost_ret (results_cell_row rfl _ _ _ _ _ _ _ rfl (heap_alloc2_old _ _ _) Try.underlying88 rfl Try.info5) rfl ⟨rfl, ((Gr.refl _).alloc _).alloc _⟩
  · have hc0 : ∀ k, at5 c k = 0 := fun k => by unfold at5; rw [if_neg hm]
    have HC : Hid (∀ k, at5 c k = 0) := hc0
    have hk : chk c = 1 := by unfold chk; rw [if_neg hm]
    clear hlen hcells hm hc0
    go_enter Try.func65, Try.ntmps65
    go_wp2_with (go_at_call 63; refine (check_any _ _ _ c _ ((HN.out.alloc _).alloc _)).mono ?_; rintro e w' ⟨rfl, rfl⟩; rw [hk])
    refine bodyPost_ret (results_cell_row rfl _ _ _ _ _ _ _ rfl (heap_alloc2_old _ _ _) Try.underlying88 rfl Try.info5) rfl ⟨?_, ((Gr.refl _).alloc _).alloc _⟩
    rw [HC.out, HC.out, HC.out, HC.out, HC.out]
set_option maxHeartbeats 400000 in
theorem Sum_gr (a : Option Addr) (n cap : Nat) (c : List Int) (w : World) (hN : NS w a n c) :
    Calls Try.prog 79 #[.slice a n cap] w fun e w' => e = .returned (.int .i64 (sumL c)) ∧ Gr w w' := by
  have HN := hide hN
  clear hN
  have b0 := at5_bd c 0
  have i0 : ∀ w : World, (Instr.index 88 (.agg #[.int .i64 (at5 c 0), .int .i64 (at5 c 1), .int .i64 (at5 c 2), .int .i64 (at5 c 3), .int .i64 (at5 c 4)]) (.int .i64 0)).run Try.prog w = .ok (.int .i64 (at5 c 0)) w := fun _ => by kernel_rfl
  have b1 := at5_bd c 1
  have i1 : ∀ w : World, (Instr.index 88 (.agg #[.int .i64 (at5 c 0), .int .i64 (at5 c 1), .int .i64 (at5 c 2), .int .i64 (at5 c 3), .int .i64 (at5 c 4)]) (.int .i64 1)).run Try.prog w = .ok (.int .i64 (at5 c 1)) w := fun _ => by kernel_rfl
  have b2 := at5_bd c 2
  have i2 : ∀ w : World, (Instr.index 88 (.agg #[.int .i64 (at5 c 0), .int .i64 (at5 c 1), .int .i64 (at5 c 2), .int .i64 (at5 c 3), .int .i64 (at5 c 4)]) (.int .i64 2)).run Try.prog w = .ok (.int .i64 (at5 c 2)) w := fun _ => by kernel_rfl
  have b3 := at5_bd c 3
  have i3 : ∀ w : World, (Instr.index 88 (.agg #[.int .i64 (at5 c 0), .int .i64 (at5 c 1), .int .i64 (at5 c 2), .int .i64 (at5 c 3), .int .i64 (at5 c 4)]) (.int .i64 3)).run Try.prog w = .ok (.int .i64 (at5 c 3)) w := fun _ => by kernel_rfl
  have b4 := at5_bd c 4
  have i4 : ∀ w : World, (Instr.index 88 (.agg #[.int .i64 (at5 c 0), .int .i64 (at5 c 1), .int .i64 (at5 c 2), .int .i64 (at5 c 3), .int .i64 (at5 c 4)]) (.int .i64 4)).run Try.prog w = .ok (.int .i64 (at5 c 4)) w := fun _ => by kernel_rfl
  have HS : Hid (at5 c 0 + at5 c 1 + at5 c 2 + at5 c 3 + at5 c 4 = sumL c) := rfl
  go_enter Try.func79, Try.ntmps79
  go_wp2_with (go_at_call 65; refine (numbers_gr _ _ _ c _ HN.out).mono ?_; rintro e w1 ⟨rfl, hb1⟩; have HB1 := hide hb1; clear hb1)
  generalize at5 c 0 = x0 at *
  generalize at5 c 1 = x1 at *
  generalize at5 c 2 = x2 at *
  generalize at5 c 3 = x3 at *
  generalize at5 c 4 = x4 at *
  go_loop [3, 8] (fun s i => (i = .int .i64 0 ∧ s = .int .i64 0) ∨ (i = .int .i64 1 ∧ s = .int .i64 x0) ∨ (i = .int .i64 2 ∧ s = .int .i64 (x0 + x1)) ∨ (i = .int .i64 3 ∧ s = .int .i64 (x0 + x1 + x2)) ∨ (i = .int .i64 4 ∧ s = .int .i64 (x0 + x1 + x2 + x3)) ∨ (i = .int .i64 5 ∧ s = .int .i64 (x0 + x1 + x2 + x3 + x4))) (fun _ i => 5 - (intOf i).toNat)
  case atStart => exact .inl ⟨rfl, rfl⟩
  case round =>
    rcases hrel with ⟨rfl, rfl⟩ | ⟨rfl, rfl⟩ | ⟨rfl, rfl⟩ | ⟨rfl, rfl⟩ | ⟨rfl, rfl⟩ | ⟨rfl, rfl⟩
    · go_wp2
      go_round
      case rel => exact .inr (.inl ⟨rfl, rfl⟩)
      case measure => decide
    · go_wp2
      go_round
      case rel => exact .inr (.inr (.inl ⟨rfl, rfl⟩))
      case measure => decide
    · go_wp2
      go_round
      case rel => exact .inr (.inr (.inr (.inl ⟨rfl, rfl⟩)))
      case measure => decide
    · go_wp2
      go_round
      case rel => exact .inr (.inr (.inr (.inr (.inl ⟨rfl, rfl⟩))))
      case measure => decide
    · go_wp2
      go_round
      case rel => exact .inr (.inr (.inr (.inr (.inr (⟨rfl, rfl⟩)))))
      case measure => decide
    · go_wp2
      go_ret
      exact ⟨ret_int HS.out, HB1.out⟩
set_option maxHeartbeats 2000000 in
theorem compareE_gr (r s : Int) (pa : Option Addr) (na ca : Nat) (pe : Option Addr) (ne ce : Nat) (r' s' : Int) (pb : Option Addr) (nb cb : Nat) (pf : Option Addr) (nf cf : Nat) (c c' : List Int) (w : World) (hN : NS w pa na c) (hN' : NS w pb nb c') :
    Calls Try.prog 55 #[.agg #[.int .i64 r, .int .i64 s, .slice pa na ca, .slice pe ne ce], .agg #[.int .i64 r', .int .i64 s', .slice pb nb cb, .slice pf nf cf]] w fun e w' => e = .returned (.int .i64 (cmpE c (r, s) c' (r', s'))) ∧ Gr w w' := by
  have HM1 := hide (fun W (h : NS W pa na c) => Sum_gr pa na ca c W h)
  have HM2 := hide (fun W (h : NS W pb nb c') => Sum_gr pb nb cb c' W h)
  have HCD := hide (fun W => compareDots_any (r, s) (r', s') W)
  have HU := hide (((Gr.refl w).alloc (bxE r s pa na ca pe ne ce)).alloc (bxE r' s' pb nb cb pf nf cf))
  have N1 := hide ((hN.alloc (bxE r s pa na ca pe ne ce)).alloc (bxE r' s' pb nb cb pf nf cf))
  have N2 := hide ((hN'.alloc (bxE r s pa na ca pe ne ce)).alloc (bxE r' s' pb nb cb pf nf cf))
  have X1 := (BX.new w _ rfl #[.int .i64 r, .int .i64 s, .slice pa na ca, .slice pe ne ce] 28).alloc (bxE r' s' pb nb cb pf nf cf)
  have X2 := BX.new (w.alloc (bxE r s pa na ca pe ne ce)) (w.heap.size + 1) (by simp) #[.int .i64 r', .int .i64 s', .slice pb nb cb, .slice pf nf cf] 28
  have c0 := X1.cell 0 _ rfl
  have c1 := X1.cell 1 _ rfl
  have c2 := X1.cell 2 _ rfl
  have d0 := X2.cell 0 _ rfl
  have d1 := X2.cell 1 _ rfl
  have d2 := X2.cell 2 _ rfl
  clear hN hN' X1 X2
  have HE : Hid (orI (cmpI (sumL c) (sumL c')) (cmpD (r, s) (r', s')) = cmpE c (r, s) c' (r', s')) := rfl
  go_enter Try.func55, Try.ntmps55
  go_wp2
  generalize hu : (w.alloc (bxE r s pa na ca pe ne ce)).alloc (bxE r' s' pb nb cb pf nf cf) = u at *
  clear hu
  generalize sumL c = z1 at HM1 HE
  generalize sumL c' = z2 at HM2 HE
  generalize cmpD (r, s) (r', s') = z3 at HCD HE
  refine wp_region_held_drew (S := fun W => Gr u W) (by kernel_rfl) ((Gr.refl u).drew) (fun hS0 => ?_)
  refine takeInH 0 5 ?v1 rfl rfl (by kernel_rfl) (by kernel_rfl) (by kernel_rfl) (fun _ _ _ h => h) (by kernel_rfl) hS0 ?hy1 ?_
  case hy1 => (intro W hW; clear hW; go_simp; try rfl)
  simp only [Act.put, List.setIfInBounds_toArray, List.set_cons_zero, List.set_cons_succ]
  refine takeInH 1 6 ?v2 rfl rfl (by kernel_rfl) (by kernel_rfl) (by kernel_rfl) (fun _ _ _ h => h) (by kernel_rfl) hS0 ?hy2 ?_
  case hy2 => (intro W hW; have e0 := bcell hW.bel c0; have e1 := bcell hW.bel c1; have e2 := bcell hW.bel c2; have e3 := bcell hW.bel d0; have e4 := bcell hW.bel d1; have e5 := bcell hW.bel d2; clear hW; go_simp; try rfl)
  simp only [Act.put, List.setIfInBounds_toArray, List.set_cons_zero, List.set_cons_succ]
  refine takeInH 3 8 ?v3 rfl rfl (by kernel_rfl) (by kernel_rfl) (by kernel_rfl) (fun _ _ _ h => h) (by kernel_rfl) hS0 ?hy3 ?_
  case hy3 => (intro W hW; clear hW; go_simp; try rfl)
  simp only [Act.put, List.setIfInBounds_toArray, List.set_cons_zero, List.set_cons_succ]
  refine takeInH 4 9 ?v4 rfl rfl (by kernel_rfl) (by kernel_rfl) (by kernel_rfl) (fun _ _ _ h => h) (by kernel_rfl) hS0 ?hy4 ?_
  case hy4 => (intro W hW; have e0 := bcell hW.bel c0; have e1 := bcell hW.bel c1; have e2 := bcell hW.bel c2; have e3 := bcell hW.bel d0; have e4 := bcell hW.bel d1; have e5 := bcell hW.bel d2; clear hW; go_simp; try rfl)
  simp only [Act.put, List.setIfInBounds_toArray, List.set_cons_zero, List.set_cons_succ]
  refine takeInH 7 12 ?v5 rfl rfl (by kernel_rfl) (by kernel_rfl) (by kernel_rfl) (fun _ _ _ h => h) (by kernel_rfl) hS0 ?hy5 ?_
  case hy5 => (intro W hW; clear hW; go_simp; try rfl)
  simp only [Act.put, List.setIfInBounds_toArray, List.set_cons_zero, List.set_cons_succ]
  refine takeInH 8 13 ?v6 rfl rfl (by kernel_rfl) (by kernel_rfl) (by kernel_rfl) (fun _ _ _ h => h) (by kernel_rfl) hS0 ?hy6 ?_
  case hy6 => (intro W hW; have e0 := bcell hW.bel c0; have e1 := bcell hW.bel c1; have e2 := bcell hW.bel c2; have e3 := bcell hW.bel d0; have e4 := bcell hW.bel d1; have e5 := bcell hW.bel d2; clear hW; go_simp; try rfl)
  simp only [Act.put, List.setIfInBounds_toArray, List.set_cons_zero, List.set_cons_succ]
  refine takeInH 9 14 ?v7 rfl rfl (by kernel_rfl) (by kernel_rfl) (by kernel_rfl) (fun _ _ _ h => h) (by kernel_rfl) hS0 ?hy7 ?_
  case hy7 => (intro W hW; clear hW; go_simp; try rfl)
  simp only [Act.put, List.setIfInBounds_toArray, List.set_cons_zero, List.set_cons_succ]
  refine takeInH 10 15 ?v8 rfl rfl (by kernel_rfl) (by kernel_rfl) (by kernel_rfl) (fun _ _ _ h => h) (by kernel_rfl) hS0 ?hy8 ?_
  case hy8 => (intro W hW; have e0 := bcell hW.bel c0; have e1 := bcell hW.bel c1; have e2 := bcell hW.bel c2; have e3 := bcell hW.bel d0; have e4 := bcell hW.bel d1; have e5 := bcell hW.bel d2; clear hW; go_simp; try rfl)
  simp only [Act.put, List.setIfInBounds_toArray, List.set_cons_zero, List.set_cons_succ]
  refine wpAnyH_ready (rs := [2]) (by kernel_rfl) (by simp) ?_
  refine AllReadyH.cons rfl (fun K hK => ?_) AllReadyH.nil
  go_simp
  refine (HM1.out _ (N1.out.below hS0.bel)).mono ?_
  rintro e w' ⟨rfl, hb⟩
  try go_wp2_with fail
  refine hK.out _ _ ?hs9 (fun hS1 => ?_)
  case hs9 => exact hS0.trans hb
  clear hK K
  try simp only [Act.put, List.setIfInBounds_toArray, List.set_cons_zero, List.set_cons_succ]
  refine wpAnyH_ready (rs := [5]) (by kernel_rfl) (by simp) ?_
  refine AllReadyH.cons rfl (fun K hK => ?_) AllReadyH.nil
  go_simp
  refine (HM2.out _ (N2.out.below hS1.bel)).mono ?_
  rintro e w' ⟨rfl, hb⟩
  try go_wp2_with fail
  refine hK.out _ _ ?hs10 (fun hS2 => ?_)
  case hs10 => exact hS1.trans hb
  clear hK K
  try simp only [Act.put, List.setIfInBounds_toArray, List.set_cons_zero, List.set_cons_succ]
  refine wpAnyH_ready (rs := [6]) (by kernel_rfl) (by simp) ?_
  refine AllReadyH.cons rfl (fun K hK => ?_) AllReadyH.nil
  go_simp
  refine (cmpI_any _ _ _).mono ?_
  rintro e w' ⟨rfl, hw⟩
  replace hw := hw.symm
  subst hw
  try go_wp2_with fail
  refine hK.out _ _ ?hs11 (fun hS3 => ?_)
  case hs11 => exact hS2
  clear hK K
  try simp only [Act.put, List.setIfInBounds_toArray, List.set_cons_zero, List.set_cons_succ]
  refine wpAnyH_ready (rs := [11]) (by kernel_rfl) (by simp) ?_
  refine AllReadyH.cons rfl (fun K hK => ?_) AllReadyH.nil
  go_simp
  refine (HCD.out _).mono ?_
  rintro e w8 ⟨rfl, hg⟩
  have hb := hg
  clear hg
  try go_wp2_with fail
  refine hK.out _ _ ?hs12 (fun hS4 => ?_)
  case hs12 => exact hS3.trans hb
  clear hK K
  try simp only [Act.put, List.setIfInBounds_toArray, List.set_cons_zero, List.set_cons_succ]
  refine wpAnyH_ready (rs := [12]) (by kernel_rfl) (by simp) ?_
  refine AllReadyH.cons rfl (fun K hK => ?_) AllReadyH.nil
  go_simp
  refine hK.out _ _ ?hs13 (fun hS5 => ?_)
  case hs13 => exact hS4.trans ((Gr.refl _).alloc _)
  clear hK K
  try simp only [Act.put, List.setIfInBounds_toArray, List.set_cons_zero, List.set_cons_succ]
  refine wpAnyH_ready (rs := [13]) (by kernel_rfl) (by simp) ?_
  refine AllReadyH.cons rfl (fun K hK => ?_) AllReadyH.nil
  go_simp
  refine Calls.mono (or_any _ _ _ _ (cell_new w8 _ _ _ rfl 0 _ rfl) (cell_new w8 _ _ _ rfl 1 _ rfl)) ?_
  rintro e w' ⟨rfl, hw⟩
  replace hw := hw.symm
  subst hw
  try go_wp2_with fail
  refine hK.out _ _ ?hs14 (fun hS6 => ?_)
  case hs14 => exact hS5
  clear hK K
  try simp only [Act.put, List.setIfInBounds_toArray, List.set_cons_zero, List.set_cons_succ]
  refine takeInH 14 4 ?v15 rfl rfl (by kernel_rfl) (by kernel_rfl) (by kernel_rfl) (fun _ _ _ h => h) (by kernel_rfl) hS6 ?hy15 ?_
  case hy15 => (intro W hW; clear hW; go_simp; try rfl)
  simp only [Act.put, List.setIfInBounds_toArray, List.set_cons_zero, List.set_cons_succ]
  refine wpAnyH_done (by kernel_rfl) ?_ _
  go_wp2
  go_ret
  exact ⟨ret_int HE.out, HU.out.trans hS6⟩
end Go.Proofs.Ytooggheoaglbeaa

