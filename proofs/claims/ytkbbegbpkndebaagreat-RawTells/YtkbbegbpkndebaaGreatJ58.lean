/- Texts of this claim, joined: HQ9. -/
import Derived.Test.YtkbbegbpkndebaaGreatJ50
import Derived.Test.YtkbbegbpkndebaaGreatJ51
import Derived.Test.YtkbbegbpkndebaaGreatJ56
/- What layer 13's awake asks of Apply: an event that only adds, to sets in which adds hold. -/
namespace Go.Proofs.YtkbbegbpkndebaaGreat
open Go.RowKit Go.Lib
set_option linter.unusedVariables false
def fitS (k : Kd) (x : Eff) : Bool := fitF k x && decide (x.1 = 1) && !(k.1.getD x.2.1.toNat false)
theorem fitS_iff {k : Kd} {kx : Int} {j : Nat} {ky wd : List Int} {xn xt : Int} (h : fitS k (kx, (j : Int), ky, xn, xt, wd) = true) : fitF k (kx, (j : Int), ky, xn, xt, wd) = true ∧ kx = 1 ∧ rK k j = false := by
 unfold fitS at h
 simp only [Bool.and_eq_true, decide_eq_true_iff, Bool.not_eq_true'] at h
 refine ⟨h.1.1, h.1.2, ?_⟩
 have q := h.2
 rwa [show ((j : Int)).toNat = j by omega] at q
theorem drop13s (gD : Nat) (ps : Option Addr) (ns cs : Nat) (pc : Option Addr) (nc cc : Nat) (g : Int) (q1 : Option Addr) (n1 d1 : Nat) (q2 : Option Addr) (n2 d2 : Nat) (q3 : Option Addr) (n3 d3 : Nat) (q4 : Option Addr) (n4 d4 : Nat) (er es : Int) (pa : Option Addr) (na ca : Nat) (pe : Option Addr) (ne ce : Nat) (k : Kd) (c : List Int) (l : List Eff) (R : Rw) (cn : Nat) (kx : Int) (j : Nat) (ky : List Int) (xn xt : Int) (wd : List Int) (w0 w : World) (hX : BX w gD #[.slice ps ns cs, .slice pc nc cc, .int .i64 g, .slice q1 n1 d1, .slice q2 n2 d2, .slice q3 n3 d3, .slice q4 n4 d4, .int .i64 er, .int .i64 es, .slice pa na ca, .slice pe ne ce] 94) (hO : OO w0.heap.size w q1 n1 d1 q2 n2 d2 q3 n3 d3 q4 n4 d4 R) (hB : Below w0.heap.size w0 w) (hK : KM w0 ps ns cs pc nc cc k) (hP : NS w0 pa na c) (hE : ES w0 pe ne l) (hM : MG k cn R) (hc : cn ≤ 2000) (hD : mayD (er, es) = true) (hC : mayC c = true) (hF : ∀ y ∈ l, mayF y = true) (hx : mayF (kx, (j : Int), ky, xn, xt, wd) = true) (hfit : fitS k (kx, (j : Int), ky, xn, xt, wd) = true) : Calls Tryz.prog 121 #[.pointer (some ⟨gD, 0, none⟩), .agg #[.int .i64 kx, .int .i64 (j : Int), .string (strOfNums ky), .int .i64 xn, .int .i64 xt, .string (strOfNums wd)]] w fun e w' => e = .returned (.int .i64 0) ∧ OO w0.heap.size w' q1 n1 d1 q2 n2 d2 q3 n3 d3 q4 n4 d4 (dropW k ((er, es), c, l) R (kx, (j : Int), ky, xn, xt, wd)) ∧ Fr w0.heap.size w w' := by
 obtain ⟨_, h1, _⟩ := fitS_iff hfit
 exact drop13_oth gD ps ns cs pc nc cc g q1 n1 d1 q2 n2 d2 q3 n3 d3 q4 n4 d4 er es pa na ca pe ne ce k c l R cn kx j ky xn xt wd w0 w hX hO hB (by omega)
theorem add13s (gD : Nat) (ps : Option Addr) (ns cs : Nat) (pc : Option Addr) (nc cc : Nat) (g : Int) (q1 : Option Addr) (n1 d1 : Nat) (q2 : Option Addr) (n2 d2 : Nat) (q3 : Option Addr) (n3 d3 : Nat) (q4 : Option Addr) (n4 d4 : Nat) (er es : Int) (pa : Option Addr) (na ca : Nat) (pe : Option Addr) (ne ce : Nat) (k : Kd) (c : List Int) (l : List Eff) (R : Rw) (cn : Nat) (kx : Int) (j : Nat) (ky : List Int) (xn xt : Int) (wd : List Int) (w0 w : World) (hX : BX w gD #[.slice ps ns cs, .slice pc nc cc, .int .i64 g, .slice q1 n1 d1, .slice q2 n2 d2, .slice q3 n3 d3, .slice q4 n4 d4, .int .i64 er, .int .i64 es, .slice pa na ca, .slice pe ne ce] 94) (hO : OO w0.heap.size w q1 n1 d1 q2 n2 d2 q3 n3 d3 q4 n4 d4 R) (hB : Below w0.heap.size w0 w) (hK : KM w0 ps ns cs pc nc cc k) (hP : NS w0 pa na c) (hE : ES w0 pe ne l) (hM : MG k cn R) (hc : cn ≤ 2000) (hD : mayD (er, es) = true) (hC : mayC c = true) (hF : ∀ y ∈ l, mayF y = true) (hx : mayF (kx, (j : Int), ky, xn, xt, wd) = true) (hfit : fitS k (kx, (j : Int), ky, xn, xt, wd) = true) : Calls Tryz.prog 122 #[.pointer (some ⟨gD, 0, none⟩), .agg #[.int .i64 kx, .int .i64 (j : Int), .string (strOfNums ky), .int .i64 xn, .int .i64 xt, .string (strOfNums wd)]] w fun e w' => e = .returned (.int .i64 0) ∧ OO w0.heap.size w' q1 n1 d1 q2 n2 d2 q3 n3 d3 q4 n4 d4 (addW k ((er, es), c, l) R (kx, (j : Int), ky, xn, xt, wd)) ∧ Fr w0.heap.size w w' := by
 obtain ⟨hft, h1, hrk⟩ := fitS_iff hfit
 subst h1
 exact add13_aw gD ps ns cs pc nc cc g q1 n1 d1 q2 n2 d2 q3 n3 d3 q4 n4 d4 er es pa na ca pe ne ce k c l R cn j ky xn xt wd w0 w hX hO hB hK hP hE hM hc hD hC hF hx hft hrk
theorem other13s_good (gD : Nat) (ps : Option Addr) (ns cs : Nat) (pc : Option Addr) (nc cc : Nat) (g : Int) (q1 : Option Addr) (n1 d1 : Nat) (q2 : Option Addr) (n2 d2 : Nat) (q3 : Option Addr) (n3 d3 : Nat) (q4 : Option Addr) (n4 d4 : Nat) (er es : Int) (pa : Option Addr) (na ca : Nat) (pe : Option Addr) (ne ce : Nat) (k : Kd) (c : List Int) (l : List Eff) (R : Rw) (cn : Nat) (kx : Int) (j : Nat) (ky : List Int) (xn xt : Int) (wd : List Int) (w0 w : World) (hX : BX w gD #[.slice ps ns cs, .slice pc nc cc, .int .i64 g, .slice q1 n1 d1, .slice q2 n2 d2, .slice q3 n3 d3, .slice q4 n4 d4, .int .i64 er, .int .i64 es, .slice pa na ca, .slice pe ne ce] 94) (hO : OO w0.heap.size w q1 n1 d1 q2 n2 d2 q3 n3 d3 q4 n4 d4 R) (hB : Below w0.heap.size w0 w) (hK : KM w0 ps ns cs pc nc cc k) (hP : NS w0 pa na c) (hE : ES w0 pe ne l) (hM : MG k cn R) (hc : cn ≤ 2000) (hD : mayD (er, es) = true) (hC : mayC c = true) (hF : ∀ y ∈ l, mayF y = true) (hx : mayF (kx, (j : Int), ky, xn, xt, wd) = true) (hfit : fitS k (kx, (j : Int), ky, xn, xt, wd) = true) (hok : okW (restW k ((er, es), c, l) R (kx, (j : Int), ky, xn, xt, wd)) (kx, (j : Int), ky, xn, xt, wd) = true) : Calls Tryz.prog 123 #[.pointer (some ⟨gD, 0, none⟩), .agg #[.int .i64 kx, .int .i64 (j : Int), .string (strOfNums ky), .int .i64 xn, .int .i64 xt, .string (strOfNums wd)]] w fun e w' => e = .returned (.int .i64 0) ∧ OO w0.heap.size w' q1 n1 d1 q2 n2 d2 q3 n3 d3 q4 n4 d4 (restW k ((er, es), c, l) R (kx, (j : Int), ky, xn, xt, wd)) ∧ Fr w0.heap.size w w' := by
 obtain ⟨_, h1, _⟩ := fitS_iff hfit
 rw [restW_set (show ((kx, (j : Int), ky, xn, xt, wd) : Eff).1 = 1 ∨ ((kx, (j : Int), ky, xn, xt, wd) : Eff).1 = 2 from .inl h1)]
 exact oth13_set gD ps ns cs pc nc cc g q1 n1 d1 q2 n2 d2 q3 n3 d3 q4 n4 d4 er es pa na ca pe ne ce k c l R cn kx j ky xn xt wd w0 w hX hO hB (.inl h1)
theorem other13s_full (gD : Nat) (ps : Option Addr) (ns cs : Nat) (pc : Option Addr) (nc cc : Nat) (g : Int) (q1 : Option Addr) (n1 d1 : Nat) (q2 : Option Addr) (n2 d2 : Nat) (q3 : Option Addr) (n3 d3 : Nat) (q4 : Option Addr) (n4 d4 : Nat) (er es : Int) (pa : Option Addr) (na ca : Nat) (pe : Option Addr) (ne ce : Nat) (k : Kd) (c : List Int) (l : List Eff) (R : Rw) (cn : Nat) (kx : Int) (j : Nat) (ky : List Int) (xn xt : Int) (wd : List Int) (w0 w : World) (hX : BX w gD #[.slice ps ns cs, .slice pc nc cc, .int .i64 g, .slice q1 n1 d1, .slice q2 n2 d2, .slice q3 n3 d3, .slice q4 n4 d4, .int .i64 er, .int .i64 es, .slice pa na ca, .slice pe ne ce] 94) (hO : OO w0.heap.size w q1 n1 d1 q2 n2 d2 q3 n3 d3 q4 n4 d4 R) (hB : Below w0.heap.size w0 w) (hK : KM w0 ps ns cs pc nc cc k) (hP : NS w0 pa na c) (hE : ES w0 pe ne l) (hM : MG k cn R) (hc : cn ≤ 2000) (hD : mayD (er, es) = true) (hC : mayC c = true) (hF : ∀ y ∈ l, mayF y = true) (hx : mayF (kx, (j : Int), ky, xn, xt, wd) = true) (hfit : fitS k (kx, (j : Int), ky, xn, xt, wd) = true) (hok : okW (restW k ((er, es), c, l) R (kx, (j : Int), ky, xn, xt, wd)) (kx, (j : Int), ky, xn, xt, wd) = false) : Calls Tryz.prog 123 #[.pointer (some ⟨gD, 0, none⟩), .agg #[.int .i64 kx, .int .i64 (j : Int), .string (strOfNums ky), .int .i64 xn, .int .i64 xt, .string (strOfNums wd)]] w fun e w' => e = .returned (.int .i64 6) ∧ Fr w0.heap.size w w' := by
 obtain ⟨_, h1, _⟩ := fitS_iff hfit
 rw [okW_not (by simp only; omega)] at hok
 cases hok
set_option maxRecDepth 2000 in
set_option maxHeartbeats 8000000 in
theorem turn13s_drop (gD : Nat) (ps : Option Addr) (ns cs : Nat) (pc : Option Addr) (nc cc : Nat) (g : Int) (q1 : Option Addr) (n1 d1 : Nat) (q2 : Option Addr) (n2 d2 : Nat) (q3 : Option Addr) (n3 d3 : Nat) (q4 : Option Addr) (n4 d4 : Nat) (er es : Int) (pa : Option Addr) (na ca : Nat) (pe : Option Addr) (ne ce : Nat) (k : Kd) (c : List Int) (l : List Eff) (R : Rw) (cn : Nat) (w0 w : World) (hX : BX w gD #[.slice ps ns cs, .slice pc nc cc, .int .i64 g, .slice q1 n1 d1, .slice q2 n2 d2, .slice q3 n3 d3, .slice q4 n4 d4, .int .i64 er, .int .i64 es, .slice pa na ca, .slice pe ne ce] 94) (hO : OO w0.heap.size w q1 n1 d1 q2 n2 d2 q3 n3 d3 q4 n4 d4 R) (hB : Below w0.heap.size w0 w) (hK : KM w0 ps ns cs pc nc cc k) (hP : NS w0 pa na c) (hE : ES w0 pe ne l) (hM : MG k cn R) (hc : cn + 16 ≤ 2000) (hne : ne ≤ 16) (hD : mayD (er, es) = true) (hC : mayC c = true) (hF : ∀ y ∈ l, mayF y = true) (hfit : ∀ y ∈ l, fitS k y = true) : Calls Tryz.prog 124 #[.slice pe ne ce, .func (.func 121) #[.pointer (some ⟨gD, 0, none⟩)] #[]] w fun e w' => e = .returned (.int .i64 0) ∧ (OO w0.heap.size w' q1 n1 d1 q2 n2 d2 q3 n3 d3 q4 n4 d4 (l.foldl (dropW k ((er, es), c, l)) R) ∧ MG k (cn + ne) (l.foldl (dropW k ((er, es), c, l)) R)) ∧ Fr w0.heap.size w w' := by
 have HXD := hide hX
 have HB0 := hide hB
 have HK := hide hK
 have HPN := hide hP
 have HEN := hide hE
 have HLN := hide hE.1.1
 have HD := hide hD
 have HC := hide hC
 have HF := hide hF
 have HFTS := hide hfit
 clear hX hB hK hP hE hD hC hF hfit
 go_enter Tryz.func124, Tryz.ntmps124
 go_wp2
 go_loopw [10] (fun v wr => ∃ i : Nat, i ≤ ne ∧ v = .int .i64 i ∧ Hid (OO w0.heap.size wr q1 n1 d1 q2 n2 d2 q3 n3 d3 q4 n4 d4 ((l.take i).foldl (dropW k ((er, es), c, l)) R)) ∧ Hid (MG k (cn + i) ((l.take i).foldl (dropW k ((er, es), c, l)) R)) ∧ Hid (Fr w0.heap.size w wr)) (fun v _ => ne - (intOf v).toNat)
 case atStart => exact ⟨0, by omega, rfl, hO, hM, Fr.refl _ _⟩
 case round =>
  obtain ⟨i, hi, rfl, HO, HM, HFR⟩ := hrel
  by_cases hlt : i < ne
  ·obtain ⟨x, hx⟩ : ∃ x, l[i]? = some x := ⟨_, List.getElem?_eq_getElem (by rw [HLN.out]; exact hlt)⟩
   rcases HEN.out.1.2.2 with h0 | ⟨bp, op, rfl, _⟩
   ·omega
   obtain ⟨c0, c1, c2, c3, c4, c5⟩ := HEN.out.at i x hx
   replace c0 := bcell (HB0.out.trans HFR.out.1) c0
   replace c1 := bcell (HB0.out.trans HFR.out.1) c1
   replace c2 := bcell (HB0.out.trans HFR.out.1) c2
   replace c3 := bcell (HB0.out.trans HFR.out.1) c3
   replace c4 := bcell (HB0.out.trans HFR.out.1) c4
   replace c5 := bcell (HB0.out.trans HFR.out.1) c5
   have HMF := hide (HF.out x (List.mem_of_getElem? hx))
   have HFT := hide (HFTS.out x (List.mem_of_getElem? hx))
   obtain ⟨kx, xo, ky, xn, xt, wd⟩ := x
   obtain ⟨j, rfl⟩ : ∃ j : Nat, xo = (j : Int) := ⟨xo.toNat, by have q := (mayF13.1 HMF.out).1; simp only at q; omega⟩
   simp only at c0 c1 c2 c3 c4 c5
   have hi0 : (0 : Int) ≤ (i : Int) := by omega
   have hi1 : (i : Int) < (ne : Int) := by omega
   have HNX : Hid ((l.take (i + 1)).foldl (dropW k ((er, es), c, l)) R = dropW k ((er, es), c, l) ((l.take i).foldl (dropW k ((er, es), c, l)) R) (kx, (j : Int), ky, xn, xt, wd)) := by
    unfold Hid
    rw [take_snocL hx, List.foldl_append]
    rfl
   have HM9 := hide (HM.out.drop (e := ((er, es), c, l)) (x := (kx, (j : Int), ky, xn, xt, wd)) (by omega) (key_may HMF.out) HD.out)
   clear hx
   go_upto_region 4 with fail
   have BQ := hide (bel1 wr (.cells #[.int .i64 kx, .int .i64 (j : Int), .string (strOfNums ky), .int .i64 xn, .int .i64 xt, .string (strOfNums wd)] 82))
   have HFX := hide (Fr.trans HFR.out (Fr.bel (Nat.le_trans HB0.out.size HFR.out.1.size) BQ.out))
   have HXB : Hid (BX (wr.alloc (.cells #[.int .i64 kx, .int .i64 (j : Int), .string (strOfNums ky), .int .i64 xn, .int .i64 xt, .string (strOfNums wd)] 82)) wr.heap.size #[.int .i64 kx, .int .i64 (j : Int), .string (strOfNums ky), .int .i64 xn, .int .i64 xt, .string (strOfNums wd)] 82) := BX.new wr _ rfl _ _
   replace HO := hide (HO.out.below BQ.out)
   clear c0 c1 c2 c3 c4 c5 HFR BQ
   generalize hgx : wr.heap.size = gX at *
   generalize wr.alloc (.cells #[.int .i64 kx, .int .i64 (j : Int), .string (strOfNums ky), .int .i64 xn, .int .i64 xt, .string (strOfNums wd)] 82) = wx at *
   clear hgx
   have HXW := hide (HFX.out.2 _ _ _ HXD.out ntyD)
   have HBW := hide (HB0.out.trans HFX.out.1)
   have e0 := HXB.out.cell 0 _ rfl
   have e1 := HXB.out.cell 1 _ rfl
   have e2 := HXB.out.cell 2 _ rfl
   have e3 := HXB.out.cell 3 _ rfl
   have e4 := HXB.out.cell 4 _ rfl
   have e5 := HXB.out.cell 5 _ rfl
   go_wp2_with (go_at_call 121; refine (drop13s gD ps ns cs pc nc cc g q1 n1 d1 q2 n2 d2 q3 n3 d3 q4 n4 d4 er es pa na ca _ ne ce k c l ((l.take i).foldl (dropW k ((er, es), c, l)) R) (cn + i) kx j ky xn xt wd w0 _ HXW.out HO.out HBW.out HK.out HPN.out HEN.out HM.out (by omega) HD.out HC.out HF.out HMF.out HFT.out).mono ?_; rintro e w9 ⟨rfl, ho, hf⟩; have HO9 := hide ho; have HF9 := hide (Fr.trans HFX.out hf); clear ho hf)
   go_roundw
   case rel => exact ⟨i + 1, by omega, by go_num, (show Hid _ from by unfold Hid; rw [HNX.out]; exact HO9.out), (show Hid _ from by unfold Hid; rw [HNX.out, ← Nat.add_assoc]; exact HM9.out), HF9⟩
   case measure => simp [intOf]; omega
  ·obtain rfl : i = ne := by omega
   have HO9 : Hid (OO w0.heap.size wr q1 n1 d1 q2 n2 d2 q3 n3 d3 q4 n4 d4 (l.foldl (dropW k ((er, es), c, l)) R)) := by have q := HO.out; rwa [List.take_of_length_le (by rw [HLN.out]; exact Nat.le_refl _)] at q
   have HM9 : Hid (MG k (cn + i) (l.foldl (dropW k ((er, es), c, l)) R)) := by have q := HM.out; rwa [List.take_of_length_le (by rw [HLN.out]; exact Nat.le_refl _)] at q
   clear HO HM
   go_wp2
   go_ret
   exact ⟨rfl, ⟨HO9.out, HM9.out⟩, HFR.out⟩
set_option maxRecDepth 2000 in
set_option maxHeartbeats 8000000 in
theorem turn13s_add (gD : Nat) (ps : Option Addr) (ns cs : Nat) (pc : Option Addr) (nc cc : Nat) (g : Int) (q1 : Option Addr) (n1 d1 : Nat) (q2 : Option Addr) (n2 d2 : Nat) (q3 : Option Addr) (n3 d3 : Nat) (q4 : Option Addr) (n4 d4 : Nat) (er es : Int) (pa : Option Addr) (na ca : Nat) (pe : Option Addr) (ne ce : Nat) (k : Kd) (c : List Int) (l : List Eff) (R : Rw) (cn : Nat) (w0 w : World) (hX : BX w gD #[.slice ps ns cs, .slice pc nc cc, .int .i64 g, .slice q1 n1 d1, .slice q2 n2 d2, .slice q3 n3 d3, .slice q4 n4 d4, .int .i64 er, .int .i64 es, .slice pa na ca, .slice pe ne ce] 94) (hO : OO w0.heap.size w q1 n1 d1 q2 n2 d2 q3 n3 d3 q4 n4 d4 R) (hB : Below w0.heap.size w0 w) (hK : KM w0 ps ns cs pc nc cc k) (hP : NS w0 pa na c) (hE : ES w0 pe ne l) (hM : MG k cn R) (hc : cn + 16 ≤ 2000) (hne : ne ≤ 16) (hD : mayD (er, es) = true) (hC : mayC c = true) (hF : ∀ y ∈ l, mayF y = true) (hfit : ∀ y ∈ l, fitS k y = true) : Calls Tryz.prog 124 #[.slice pe ne ce, .func (.func 122) #[.pointer (some ⟨gD, 0, none⟩)] #[]] w fun e w' => e = .returned (.int .i64 0) ∧ (OO w0.heap.size w' q1 n1 d1 q2 n2 d2 q3 n3 d3 q4 n4 d4 (l.foldl (addW k ((er, es), c, l)) R) ∧ MG k (cn + ne) (l.foldl (addW k ((er, es), c, l)) R)) ∧ Fr w0.heap.size w w' := by
 have HXD := hide hX
 have HB0 := hide hB
 have HK := hide hK
 have HPN := hide hP
 have HEN := hide hE
 have HLN := hide hE.1.1
 have HD := hide hD
 have HC := hide hC
 have HF := hide hF
 have HFTS := hide hfit
 clear hX hB hK hP hE hD hC hF hfit
 go_enter Tryz.func124, Tryz.ntmps124
 go_wp2
 go_loopw [10] (fun v wr => ∃ i : Nat, i ≤ ne ∧ v = .int .i64 i ∧ Hid (OO w0.heap.size wr q1 n1 d1 q2 n2 d2 q3 n3 d3 q4 n4 d4 ((l.take i).foldl (addW k ((er, es), c, l)) R)) ∧ Hid (MG k (cn + i) ((l.take i).foldl (addW k ((er, es), c, l)) R)) ∧ Hid (Fr w0.heap.size w wr)) (fun v _ => ne - (intOf v).toNat)
 case atStart => exact ⟨0, by omega, rfl, hO, hM, Fr.refl _ _⟩
 case round =>
  obtain ⟨i, hi, rfl, HO, HM, HFR⟩ := hrel
  by_cases hlt : i < ne
  ·obtain ⟨x, hx⟩ : ∃ x, l[i]? = some x := ⟨_, List.getElem?_eq_getElem (by rw [HLN.out]; exact hlt)⟩
   rcases HEN.out.1.2.2 with h0 | ⟨bp, op, rfl, _⟩
   ·omega
   obtain ⟨c0, c1, c2, c3, c4, c5⟩ := HEN.out.at i x hx
   replace c0 := bcell (HB0.out.trans HFR.out.1) c0
   replace c1 := bcell (HB0.out.trans HFR.out.1) c1
   replace c2 := bcell (HB0.out.trans HFR.out.1) c2
   replace c3 := bcell (HB0.out.trans HFR.out.1) c3
   replace c4 := bcell (HB0.out.trans HFR.out.1) c4
   replace c5 := bcell (HB0.out.trans HFR.out.1) c5
   have HMF := hide (HF.out x (List.mem_of_getElem? hx))
   have HFT := hide (HFTS.out x (List.mem_of_getElem? hx))
   obtain ⟨kx, xo, ky, xn, xt, wd⟩ := x
   obtain ⟨j, rfl⟩ : ∃ j : Nat, xo = (j : Int) := ⟨xo.toNat, by have q := (mayF13.1 HMF.out).1; simp only at q; omega⟩
   simp only at c0 c1 c2 c3 c4 c5
   have hi0 : (0 : Int) ≤ (i : Int) := by omega
   have hi1 : (i : Int) < (ne : Int) := by omega
   have HNX : Hid ((l.take (i + 1)).foldl (addW k ((er, es), c, l)) R = addW k ((er, es), c, l) ((l.take i).foldl (addW k ((er, es), c, l)) R) (kx, (j : Int), ky, xn, xt, wd)) := by
    unfold Hid
    rw [take_snocL hx, List.foldl_append]
    rfl
   have HM9 := hide (HM.out.add (e := ((er, es), c, l)) (x := (kx, (j : Int), ky, xn, xt, wd)) (by omega) (key_may HMF.out) HD.out)
   clear hx
   go_upto_region 4 with fail
   have BQ := hide (bel1 wr (.cells #[.int .i64 kx, .int .i64 (j : Int), .string (strOfNums ky), .int .i64 xn, .int .i64 xt, .string (strOfNums wd)] 82))
   have HFX := hide (Fr.trans HFR.out (Fr.bel (Nat.le_trans HB0.out.size HFR.out.1.size) BQ.out))
   have HXB : Hid (BX (wr.alloc (.cells #[.int .i64 kx, .int .i64 (j : Int), .string (strOfNums ky), .int .i64 xn, .int .i64 xt, .string (strOfNums wd)] 82)) wr.heap.size #[.int .i64 kx, .int .i64 (j : Int), .string (strOfNums ky), .int .i64 xn, .int .i64 xt, .string (strOfNums wd)] 82) := BX.new wr _ rfl _ _
   replace HO := hide (HO.out.below BQ.out)
   clear c0 c1 c2 c3 c4 c5 HFR BQ
   generalize hgx : wr.heap.size = gX at *
   generalize wr.alloc (.cells #[.int .i64 kx, .int .i64 (j : Int), .string (strOfNums ky), .int .i64 xn, .int .i64 xt, .string (strOfNums wd)] 82) = wx at *
   clear hgx
   have HXW := hide (HFX.out.2 _ _ _ HXD.out ntyD)
   have HBW := hide (HB0.out.trans HFX.out.1)
   have e0 := HXB.out.cell 0 _ rfl
   have e1 := HXB.out.cell 1 _ rfl
   have e2 := HXB.out.cell 2 _ rfl
   have e3 := HXB.out.cell 3 _ rfl
   have e4 := HXB.out.cell 4 _ rfl
   have e5 := HXB.out.cell 5 _ rfl
   go_wp2_with (go_at_call 122; refine (add13s gD ps ns cs pc nc cc g q1 n1 d1 q2 n2 d2 q3 n3 d3 q4 n4 d4 er es pa na ca _ ne ce k c l ((l.take i).foldl (addW k ((er, es), c, l)) R) (cn + i) kx j ky xn xt wd w0 _ HXW.out HO.out HBW.out HK.out HPN.out HEN.out HM.out (by omega) HD.out HC.out HF.out HMF.out HFT.out).mono ?_; rintro e w9 ⟨rfl, ho, hf⟩; have HO9 := hide ho; have HF9 := hide (Fr.trans HFX.out hf); clear ho hf)
   go_roundw
   case rel => exact ⟨i + 1, by omega, by go_num, (show Hid _ from by unfold Hid; rw [HNX.out]; exact HO9.out), (show Hid _ from by unfold Hid; rw [HNX.out, ← Nat.add_assoc]; exact HM9.out), HF9⟩
   case measure => simp [intOf]; omega
  ·obtain rfl : i = ne := by omega
   have HO9 : Hid (OO w0.heap.size wr q1 n1 d1 q2 n2 d2 q3 n3 d3 q4 n4 d4 (l.foldl (addW k ((er, es), c, l)) R)) := by have q := HO.out; rwa [List.take_of_length_le (by rw [HLN.out]; exact Nat.le_refl _)] at q
   have HM9 : Hid (MG k (cn + i) (l.foldl (addW k ((er, es), c, l)) R)) := by have q := HM.out; rwa [List.take_of_length_le (by rw [HLN.out]; exact Nat.le_refl _)] at q
   clear HO HM
   go_wp2
   go_ret
   exact ⟨rfl, ⟨HO9.out, HM9.out⟩, HFR.out⟩
set_option maxRecDepth 2000 in
set_option maxHeartbeats 8000000 in
theorem turn13s_other (gD : Nat) (ps : Option Addr) (ns cs : Nat) (pc : Option Addr) (nc cc : Nat) (g : Int) (q1 : Option Addr) (n1 d1 : Nat) (q2 : Option Addr) (n2 d2 : Nat) (q3 : Option Addr) (n3 d3 : Nat) (q4 : Option Addr) (n4 d4 : Nat) (er es : Int) (pa : Option Addr) (na ca : Nat) (pe : Option Addr) (ne ce : Nat) (k : Kd) (c : List Int) (l : List Eff) (R : Rw) (cn : Nat) (w0 w : World) (hX : BX w gD #[.slice ps ns cs, .slice pc nc cc, .int .i64 g, .slice q1 n1 d1, .slice q2 n2 d2, .slice q3 n3 d3, .slice q4 n4 d4, .int .i64 er, .int .i64 es, .slice pa na ca, .slice pe ne ce] 94) (hO : OO w0.heap.size w q1 n1 d1 q2 n2 d2 q3 n3 d3 q4 n4 d4 R) (hB : Below w0.heap.size w0 w) (hK : KM w0 ps ns cs pc nc cc k) (hP : NS w0 pa na c) (hE : ES w0 pe ne l) (hM : MG k cn R) (hc : cn + 16 ≤ 2000) (hne : ne ≤ 16) (hD : mayD (er, es) = true) (hC : mayC c = true) (hF : ∀ y ∈ l, mayF y = true) (hfit : ∀ y ∈ l, fitS k y = true) (RS : Option Rw) (hRS : stepsR k ((er, es), c, l) l R = RS) : Calls Tryz.prog 124 #[.slice pe ne ce, .func (.func 123) #[.pointer (some ⟨gD, 0, none⟩)] #[]] w fun e w' => (∀ v, RS = some v → e = .returned (.int .i64 0) ∧ OO w0.heap.size w' q1 n1 d1 q2 n2 d2 q3 n3 d3 q4 n4 d4 v) ∧ (RS = none → e = .returned (.int .i64 6)) ∧ Fr w0.heap.size w w' := by
 have HXD := hide hX
 have HB0 := hide hB
 have HK := hide hK
 have HPN := hide hP
 have HEN := hide hE
 have HLN := hide hE.1.1
 have HD := hide hD
 have HC := hide hC
 have HF := hide hF
 have HFTS := hide hfit
 clear hX hB hK hP hE hD hC hF hfit
 go_enter Tryz.func124, Tryz.ntmps124
 go_wp2
 go_loopw [10] (fun v wr => ∃ (i : Nat) (Ri : Rw), i ≤ ne ∧ v = .int .i64 i ∧ Hid (OO w0.heap.size wr q1 n1 d1 q2 n2 d2 q3 n3 d3 q4 n4 d4 Ri) ∧ Hid (MG k (cn + i) Ri) ∧ Hid (stepsR k ((er, es), c, l) (l.drop i) Ri = RS) ∧ Hid (Fr w0.heap.size w wr)) (fun v _ => ne - (intOf v).toNat)
 case atStart => exact ⟨0, R, by omega, rfl, hO, hM, (show Hid _ from hRS), Fr.refl _ _⟩
 case round =>
  obtain ⟨i, Ri, hi, rfl, HO, HM, HRS, HFR⟩ := hrel
  by_cases hlt : i < ne
  ·obtain ⟨x, hx⟩ : ∃ x, l[i]? = some x := ⟨_, List.getElem?_eq_getElem (by rw [HLN.out]; exact hlt)⟩
   rcases HEN.out.1.2.2 with h0 | ⟨bp, op, rfl, _⟩
   ·omega
   obtain ⟨c0, c1, c2, c3, c4, c5⟩ := HEN.out.at i x hx
   replace c0 := bcell (HB0.out.trans HFR.out.1) c0
   replace c1 := bcell (HB0.out.trans HFR.out.1) c1
   replace c2 := bcell (HB0.out.trans HFR.out.1) c2
   replace c3 := bcell (HB0.out.trans HFR.out.1) c3
   replace c4 := bcell (HB0.out.trans HFR.out.1) c4
   replace c5 := bcell (HB0.out.trans HFR.out.1) c5
   have HMF := hide (HF.out x (List.mem_of_getElem? hx))
   have HFT := hide (HFTS.out x (List.mem_of_getElem? hx))
   obtain ⟨kx, xo, ky, xn, xt, wd⟩ := x
   obtain ⟨j, rfl⟩ : ∃ j : Nat, xo = (j : Int) := ⟨xo.toNat, by have q := (mayF13.1 HMF.out).1; simp only at q; omega⟩
   simp only at c0 c1 c2 c3 c4 c5
   have hi0 : (0 : Int) ≤ (i : Int) := by omega
   have hi1 : (i : Int) < (ne : Int) := by omega
   rcases hok : okW (restW k ((er, es), c, l) Ri (kx, (j : Int), ky, xn, xt, wd)) (kx, (j : Int), ky, xn, xt, wd) with _ | _
   ·have HOK := hide hok
    have HRS9 := hide (stepsR_far hx HRS.out hok)
    clear hx hok HRS
    go_upto_region 4 with fail
    have BQ := hide (bel1 wr (.cells #[.int .i64 kx, .int .i64 (j : Int), .string (strOfNums ky), .int .i64 xn, .int .i64 xt, .string (strOfNums wd)] 82))
    have HFX := hide (Fr.trans HFR.out (Fr.bel (Nat.le_trans HB0.out.size HFR.out.1.size) BQ.out))
    have HXB : Hid (BX (wr.alloc (.cells #[.int .i64 kx, .int .i64 (j : Int), .string (strOfNums ky), .int .i64 xn, .int .i64 xt, .string (strOfNums wd)] 82)) wr.heap.size #[.int .i64 kx, .int .i64 (j : Int), .string (strOfNums ky), .int .i64 xn, .int .i64 xt, .string (strOfNums wd)] 82) := BX.new wr _ rfl _ _
    replace HO := hide (HO.out.below BQ.out)
    clear c0 c1 c2 c3 c4 c5 HFR BQ
    generalize hgx : wr.heap.size = gX at *
    generalize wr.alloc (.cells #[.int .i64 kx, .int .i64 (j : Int), .string (strOfNums ky), .int .i64 xn, .int .i64 xt, .string (strOfNums wd)] 82) = wx at *
    clear hgx
    have HXW := hide (HFX.out.2 _ _ _ HXD.out ntyD)
    have HBW := hide (HB0.out.trans HFX.out.1)
    have e0 := HXB.out.cell 0 _ rfl
    have e1 := HXB.out.cell 1 _ rfl
    have e2 := HXB.out.cell 2 _ rfl
    have e3 := HXB.out.cell 3 _ rfl
    have e4 := HXB.out.cell 4 _ rfl
    have e5 := HXB.out.cell 5 _ rfl
    go_wp2_with (go_at_call 123; refine (other13s_full gD ps ns cs pc nc cc g q1 n1 d1 q2 n2 d2 q3 n3 d3 q4 n4 d4 er es pa na ca _ ne ce k c l (Ri) (cn + i) kx j ky xn xt wd w0 _ HXW.out HO.out HBW.out HK.out HPN.out HEN.out HM.out (by omega) HD.out HC.out HF.out HMF.out HFT.out HOK.out).mono ?_; rintro e w9 ⟨rfl, hf⟩; have HF9 := hide (Fr.trans HFX.out hf); clear hf)
    go_ret
    exact ⟨fun v hv => (by rw [HRS9.out] at hv; cases hv), fun _ => rfl, HF9.out⟩
   ·have HOK := hide hok
    have HRS9 := hide (stepsR_next hx HRS.out hok)
    have HM9 := hide (HM.out.rest (e := ((er, es), c, l)) (x := (kx, (j : Int), ky, xn, xt, wd)) (by omega) ⟨HD.out, HC.out, HMF.out⟩ hok)
    clear hx hok HRS
    go_upto_region 4 with fail
    have BQ := hide (bel1 wr (.cells #[.int .i64 kx, .int .i64 (j : Int), .string (strOfNums ky), .int .i64 xn, .int .i64 xt, .string (strOfNums wd)] 82))
    have HFX := hide (Fr.trans HFR.out (Fr.bel (Nat.le_trans HB0.out.size HFR.out.1.size) BQ.out))
    have HXB : Hid (BX (wr.alloc (.cells #[.int .i64 kx, .int .i64 (j : Int), .string (strOfNums ky), .int .i64 xn, .int .i64 xt, .string (strOfNums wd)] 82)) wr.heap.size #[.int .i64 kx, .int .i64 (j : Int), .string (strOfNums ky), .int .i64 xn, .int .i64 xt, .string (strOfNums wd)] 82) := BX.new wr _ rfl _ _
    replace HO := hide (HO.out.below BQ.out)
    clear c0 c1 c2 c3 c4 c5 HFR BQ
    generalize hgx : wr.heap.size = gX at *
    generalize wr.alloc (.cells #[.int .i64 kx, .int .i64 (j : Int), .string (strOfNums ky), .int .i64 xn, .int .i64 xt, .string (strOfNums wd)] 82) = wx at *
    clear hgx
    have HXW := hide (HFX.out.2 _ _ _ HXD.out ntyD)
    have HBW := hide (HB0.out.trans HFX.out.1)
    have e0 := HXB.out.cell 0 _ rfl
    have e1 := HXB.out.cell 1 _ rfl
    have e2 := HXB.out.cell 2 _ rfl
    have e3 := HXB.out.cell 3 _ rfl
    have e4 := HXB.out.cell 4 _ rfl
    have e5 := HXB.out.cell 5 _ rfl
    go_wp2_with (go_at_call 123; refine (other13s_good gD ps ns cs pc nc cc g q1 n1 d1 q2 n2 d2 q3 n3 d3 q4 n4 d4 er es pa na ca _ ne ce k c l (Ri) (cn + i) kx j ky xn xt wd w0 _ HXW.out HO.out HBW.out HK.out HPN.out HEN.out HM.out (by omega) HD.out HC.out HF.out HMF.out HFT.out HOK.out).mono ?_; rintro e w9 ⟨rfl, ho, hf⟩; have HO9 := hide ho; have HF9 := hide (Fr.trans HFX.out hf); clear ho hf)
    go_roundw
    case rel => exact ⟨i + 1, _, by omega, by go_num, HO9, (show Hid _ from by unfold Hid; rw [← Nat.add_assoc]; exact HM9.out), HRS9, HF9⟩
    case measure => simp [intOf]; omega
  ·obtain rfl : i = ne := by omega
   have HR9 := hide (stepsR_end HLN.out HRS.out)
   clear HRS
   go_wp2
   go_ret
   exact ⟨fun v hv => ⟨rfl, (by rw [HR9.out] at hv; cases hv; exact HO.out)⟩, fun hv => (by rw [HR9.out] at hv; cases hv), HFR.out⟩
set_option maxRecDepth 2000 in
set_option maxHeartbeats 8000000 in
theorem doAll13s (gD : Nat) (ps : Option Addr) (ns cs : Nat) (pc : Option Addr) (nc cc : Nat) (g : Int) (q1 : Option Addr) (n1 d1 : Nat) (q2 : Option Addr) (n2 d2 : Nat) (q3 : Option Addr) (n3 d3 : Nat) (q4 : Option Addr) (n4 d4 : Nat) (er es : Int) (pa : Option Addr) (na ca : Nat) (pe : Option Addr) (ne ce : Nat) (k : Kd) (c : List Int) (l : List Eff) (R : Rw) (w0 w : World) (hX : BX w gD #[.slice ps ns cs, .slice pc nc cc, .int .i64 g, .slice q1 n1 d1, .slice q2 n2 d2, .slice q3 n3 d3, .slice q4 n4 d4, .int .i64 er, .int .i64 es, .slice pa na ca, .slice pe ne ce] 94) (hO : OO w0.heap.size w q1 n1 d1 q2 n2 d2 q3 n3 d3 q4 n4 d4 R) (hB : Below w0.heap.size w0 w) (hK : KM w0 ps ns cs pc nc cc k) (hP : NS w0 pa na c) (hE : ES w0 pe ne l) (hM : MG k 0 R) (hne : ne ≤ 16) (hD : mayD (er, es) = true) (hC : mayC c = true) (hF : ∀ y ∈ l, mayF y = true) (hfit : ∀ y ∈ l, fitS k y = true) (RS : Option Rw) (hRS : applyW k R ((er, es), c, l) = RS) : Calls Tryz.prog 51 #[.pointer (some ⟨gD, 0, none⟩)] w fun e w' => (∀ v, RS = some v → e = .returned (.int .i64 0) ∧ OO w0.heap.size w' q1 n1 d1 q2 n2 d2 q3 n3 d3 q4 n4 d4 v) ∧ (RS = none → e = .returned (.int .i64 6)) ∧ Fr w0.heap.size w w' := by
 have HXD := hide hX
 have HB0 := hide hB
 have HK := hide hK
 have HPN := hide hP
 have HEN := hide hE
 have HD := hide hD
 have HC := hide hC
 have HF := hide hF
 have HFT := hide hfit
 have HRS : Hid (stepsR k ((er, es), c, l) l (l.foldl (addW k ((er, es), c, l)) (l.foldl (dropW k ((er, es), c, l)) R)) = RS) := by unfold Hid; rw [← hRS, applyW_is]
 have BQ := hide (bel1 w (.cells #[.func (.func 121) #[.pointer (some ⟨gD, 0, none⟩)] #[], .func (.func 122) #[.pointer (some ⟨gD, 0, none⟩)] #[], .func (.func 123) #[.pointer (some ⟨gD, 0, none⟩)] #[]] 154))
 have HO0 := hide (hO.below BQ.out)
 have HM0 := hide hM
 have HFR0 := hide (Fr.bel hB.size BQ.out)
 have HXS0 : Hid (BX (w.alloc (.cells #[.func (.func 121) #[.pointer (some ⟨gD, 0, none⟩)] #[], .func (.func 122) #[.pointer (some ⟨gD, 0, none⟩)] #[], .func (.func 123) #[.pointer (some ⟨gD, 0, none⟩)] #[]] 154)) w.heap.size #[.func (.func 121) #[.pointer (some ⟨gD, 0, none⟩)] #[], .func (.func 122) #[.pointer (some ⟨gD, 0, none⟩)] #[], .func (.func 123) #[.pointer (some ⟨gD, 0, none⟩)] #[]] 154) := BX.new w _ rfl _ _
 clear hX hB hK hP hE hD hC hF hfit hRS hO hM BQ
 go_enter Tryz.func51, Tryz.ntmps51
 go_wp2
 generalize hgs : w.heap.size = gS at HXS0 ⊢
 generalize w.alloc (.cells #[.func (.func 121) #[.pointer (some ⟨gD, 0, none⟩)] #[], .func (.func 122) #[.pointer (some ⟨gD, 0, none⟩)] #[], .func (.func 123) #[.pointer (some ⟨gD, 0, none⟩)] #[]] 154) = u at *
 clear hgs
 go_loopw [14] (fun v wr => ∃ i : Nat, i ≤ 3 ∧ v = .int .i64 i ∧ Hid (ST13 w0.heap.size i ne k ((er, es), c, l) R RS q1 n1 d1 q2 n2 d2 q3 n3 d3 q4 n4 d4 wr) ∧ Hid (Fr w0.heap.size w wr) ∧ Hid (BX wr gS #[.func (.func 121) #[.pointer (some ⟨gD, 0, none⟩)] #[], .func (.func 122) #[.pointer (some ⟨gD, 0, none⟩)] #[], .func (.func 123) #[.pointer (some ⟨gD, 0, none⟩)] #[]] 154)) (fun v _ => 3 - (intOf v).toNat)
 case atStart => exact ⟨0, by omega, rfl, (show Hid _ from .inl ⟨rfl, HO0.out, HM0.out⟩), HFR0, HXS0⟩
 case round =>
  clear HO0 HM0 HFR0 HXS0
  obtain ⟨i, hi, rfl, HST, HFR, HXS⟩ := hrel
  have HXW := hide (HFR.out.2 _ _ _ HXD.out ntyD)
  have HBW := hide (HB0.out.trans HFR.out.1)
  rcases HST.out with ⟨rfl, ho, hm⟩ | ⟨rfl, ho, hm⟩ | ⟨rfl, ho, hm⟩ | ⟨rfl, v, hv, ho⟩
  ·clear HST
   have HO := hide ho
   have HM := hide hm
   clear ho hm
   have x0 := HXS.out.cell 0 _ rfl
   have d10 := HXW.out.cell 10 _ rfl
   go_wp2_with (go_at_call 124; refine (turn13s_drop gD ps ns cs pc nc cc g q1 n1 d1 q2 n2 d2 q3 n3 d3 q4 n4 d4 er es pa na ca pe ne ce k c l R 0 w0 _ HXW.out HO.out HBW.out HK.out HPN.out HEN.out HM.out (by omega) hne HD.out HC.out HF.out HFT.out).mono ?_; rintro e w9 ⟨rfl, ho, hf⟩; have HO9 := hide ho.1; have HM9 := hide ho.2; have HF9 := hide (Fr.trans HFR.out hf); have HX9 := hide (hf.2 _ _ _ HXS.out ntyFn); clear ho hf)
   clear x0 d10
   go_roundw
   case rel => exact ⟨1, by omega, by go_num, (show Hid _ from .inr (.inl ⟨rfl, HO9.out, HM9.out⟩)), HF9, HX9⟩
   case measure => simp [intOf]
  ·clear HST
   have HO := hide ho
   have HM := hide hm
   clear ho hm
   have x0 := HXS.out.cell 1 _ rfl
   have d10 := HXW.out.cell 10 _ rfl
   go_wp2_with (go_at_call 124; refine (turn13s_add gD ps ns cs pc nc cc g q1 n1 d1 q2 n2 d2 q3 n3 d3 q4 n4 d4 er es pa na ca pe ne ce k c l (l.foldl (dropW k ((er, es), c, l)) R) (0 + ne) w0 _ HXW.out HO.out HBW.out HK.out HPN.out HEN.out HM.out (by omega) hne HD.out HC.out HF.out HFT.out).mono ?_; rintro e w9 ⟨rfl, ho, hf⟩; have HO9 := hide ho.1; have HM9 := hide ho.2; have HF9 := hide (Fr.trans HFR.out hf); have HX9 := hide (hf.2 _ _ _ HXS.out ntyFn); clear ho hf)
   clear x0 d10
   go_roundw
   case rel => exact ⟨2, by omega, by go_num, (show Hid _ from .inr (.inr (.inl ⟨rfl, HO9.out, HM9.out⟩))), HF9, HX9⟩
   case measure => simp [intOf]
  ·clear HST
   have HO := hide ho
   have HM := hide hm
   clear ho hm
   have x0 := HXS.out.cell 2 _ rfl
   have d10 := HXW.out.cell 10 _ rfl
   rcases hrs : RS with _ | v
   ·subst hrs
    go_wp2_with (go_at_call 124; refine (turn13s_other gD ps ns cs pc nc cc g q1 n1 d1 q2 n2 d2 q3 n3 d3 q4 n4 d4 er es pa na ca pe ne ce k c l (l.foldl (addW k ((er, es), c, l)) (l.foldl (dropW k ((er, es), c, l)) R)) (0 + ne + ne) w0 _ HXW.out HO.out HBW.out HK.out HPN.out HEN.out HM.out (by omega) hne HD.out HC.out HF.out HFT.out none HRS.out).mono ?_; rintro e w9 ⟨_, h2, hf⟩; obtain rfl := h2 rfl; have HF9 := hide (Fr.trans HFR.out hf); clear hf h2)
    go_ret
    exact ⟨rfl, HF9.out⟩
   ·subst hrs
    go_wp2_with (go_at_call 124; refine (turn13s_other gD ps ns cs pc nc cc g q1 n1 d1 q2 n2 d2 q3 n3 d3 q4 n4 d4 er es pa na ca pe ne ce k c l (l.foldl (addW k ((er, es), c, l)) (l.foldl (dropW k ((er, es), c, l)) R)) (0 + ne + ne) w0 _ HXW.out HO.out HBW.out HK.out HPN.out HEN.out HM.out (by omega) hne HD.out HC.out HF.out HFT.out (some v) HRS.out).mono ?_; rintro e w9 ⟨h1, _, hf⟩; obtain ⟨rfl, ho⟩ := h1 v rfl; have HO9 := hide ho; have HF9 := hide (Fr.trans HFR.out hf); have HX9 := hide (hf.2 _ _ _ HXS.out ntyFn); clear hf ho h1)
    clear x0 d10
    go_roundw
    case rel => exact ⟨3, by omega, by go_num, (show Hid _ from .inr (.inr (.inr ⟨rfl, v, rfl, HO9.out⟩))), HF9, HX9⟩
    case measure => simp [intOf]
  ·clear HST
   have HO9 := hide ho
   have HV := hide hv
   clear ho hv
   go_wp2
   go_ret
   exact ⟨fun v' hv' => ⟨rfl, (by rw [HV.out] at hv'; cases hv'; exact HO9.out)⟩, fun hv' => (by rw [HV.out] at hv'; cases hv'), HFR.out⟩
set_option maxRecDepth 2000 in
set_option maxHeartbeats 8000000 in
theorem Apply13s_good (ps : Option Addr) (ns cs : Nat) (pc : Option Addr) (nc cc : Nat) (k : Kd) (g : Int) (p1 : Option Addr) (n1 c1 : Nat) (p2 : Option Addr) (n2 c2 : Nat) (p3 : Option Addr) (n3 c3 : Nat) (p4 : Option Addr) (n4 c4 : Nat) (r : Rw) (er es : Int) (pa : Option Addr) (na ca : Nat) (pe : Option Addr) (ne ce : Nat) (c : List Int) (l : List Eff) (w : World) (hg : k.2.2 = g) (hK : KM w ps ns cs pc nc cc k) (hR : RM w p1 n1 c1 p2 n2 c2 p3 n3 c3 p4 n4 c4 r) (hN : NS w pa na c) (hE : ES w pe ne l) (hm : mayW k r = true) (he : mayE ((er, es), c, l) = true) (hf : fitsW k ((er, es), c, l) = true) (hz : SzW r) (hn : n1 ≤ 1000 ∧ n2 ≤ 1000 ∧ n3 ≤ 1000 ∧ n4 ≤ 1000) (hsm : ∀ s ∈ r.1, s.length ≤ 1000 ∧ ∀ x ∈ s, x.2.1.length ≤ 1000 ∧ x.2.2.length ≤ 1000) (hrg : ∀ g ∈ r.2.2.2, g.length ≤ 1000) (v : Rw) (hfs : ∀ y ∈ l, fitS k y = true) (hap : applyW k r ((er, es), c, l) = some v) : Calls Tryz.prog 14 #[.agg #[.slice ps ns cs, .slice pc nc cc, .int .i64 g], .agg #[.slice p1 n1 c1, .slice p2 n2 c2, .slice p3 n3 c3, .slice p4 n4 c4], .agg #[.int .i64 er, .int .i64 es, .slice pa na ca, .slice pe ne ce]] w fun e w' => ∃ q1 d1 q2 d2 q3 d3 q4 d4, e = .returned (.tuple #[.agg #[.slice q1 n1 d1, .slice q2 n2 d2, .slice q3 n3 d3, .slice q4 n4 d4], .int .i64 0]) ∧ OO w.heap.size w' q1 n1 d1 q2 n2 d2 q3 n3 d3 q4 n4 d4 v ∧ Below w.heap.size w w' := by
 have HCK := hide (chkW_yes hm)
 have HCE : Hid (errB (mayE ((er, es), c, l)) = 0) := by unfold Hid errB; rw [he]; rfl
 have HFI : Hid ((kindsB k && mayE ((er, es), c, l) && fitsW k ((er, es), c, l)) = true) := by unfold Hid; rw [(mayW_iff.1 hm).1, he, hf]; rfl
 have HMG := hide (MG.start hm hsm hrg)
 have HAP := hide hap
 have HZ := hide hz
 have HMF := hide (mayE_effs he).1
 have hne : ne ≤ 16 := by have q := (mayE_effs he).2.2; have q2 := hE.1.1; simp only at q; omega
 have HFF := hide hfs
 have HDD := hide (mayE_head he).1
 have HCC := hide (mayE_head he).2
 clear hm he hf hz hsm hrg hap hfs
 have HB : Hid (Below w.heap.size w ((((w.alloc (.cells #[.slice ps ns cs, .slice pc nc cc, .int .i64 g] 25)).alloc (.cells #[.slice p1 n1 c1, .slice p2 n2 c2, .slice p3 n3 c3, .slice p4 n4 c4] 31)).alloc (.cells #[.int .i64 er, .int .i64 es, .slice pa na ca, .slice pe ne ce] 38)).alloc (.cells #[.slice none 0 0, .slice none 0 0, .slice none 0 0, .slice none 0 0] 31))) := ((bel2 w _ _).alloc (by simp; omega) _).alloc (by simp; omega) _
 have HK := hide hK
 have HR := hide hR
 have HNN := hide hN
 have HEN := hide hE
 have HBK : Hid (BX ((((w.alloc (.cells #[.slice ps ns cs, .slice pc nc cc, .int .i64 g] 25)).alloc (.cells #[.slice p1 n1 c1, .slice p2 n2 c2, .slice p3 n3 c3, .slice p4 n4 c4] 31)).alloc (.cells #[.int .i64 er, .int .i64 es, .slice pa na ca, .slice pe ne ce] 38)).alloc (.cells #[.slice none 0 0, .slice none 0 0, .slice none 0 0, .slice none 0 0] 31)) w.heap.size #[.slice ps ns cs, .slice pc nc cc, .int .i64 g] 25) := (((BX.new w _ rfl _ _).alloc _).alloc _).alloc _
 have HBS : Hid (BX ((((w.alloc (.cells #[.slice ps ns cs, .slice pc nc cc, .int .i64 g] 25)).alloc (.cells #[.slice p1 n1 c1, .slice p2 n2 c2, .slice p3 n3 c3, .slice p4 n4 c4] 31)).alloc (.cells #[.int .i64 er, .int .i64 es, .slice pa na ca, .slice pe ne ce] 38)).alloc (.cells #[.slice none 0 0, .slice none 0 0, .slice none 0 0, .slice none 0 0] 31)) (w.heap.size + 1) #[.slice p1 n1 c1, .slice p2 n2 c2, .slice p3 n3 c3, .slice p4 n4 c4] 31) := ((BX.new (w.alloc (.cells #[.slice ps ns cs, .slice pc nc cc, .int .i64 g] 25)) _ (by simp) _ _).alloc _).alloc _
 have HBE : Hid (BX ((((w.alloc (.cells #[.slice ps ns cs, .slice pc nc cc, .int .i64 g] 25)).alloc (.cells #[.slice p1 n1 c1, .slice p2 n2 c2, .slice p3 n3 c3, .slice p4 n4 c4] 31)).alloc (.cells #[.int .i64 er, .int .i64 es, .slice pa na ca, .slice pe ne ce] 38)).alloc (.cells #[.slice none 0 0, .slice none 0 0, .slice none 0 0, .slice none 0 0] 31)) (w.heap.size + 1 + 1) #[.int .i64 er, .int .i64 es, .slice pa na ca, .slice pe ne ce] 38) := (BX.new ((w.alloc (.cells #[.slice ps ns cs, .slice pc nc cc, .int .i64 g] 25)).alloc (.cells #[.slice p1 n1 c1, .slice p2 n2 c2, .slice p3 n3 c3, .slice p4 n4 c4] 31)) _ (by simp) _ _).alloc _
 have HBZ : Hid (BX ((((w.alloc (.cells #[.slice ps ns cs, .slice pc nc cc, .int .i64 g] 25)).alloc (.cells #[.slice p1 n1 c1, .slice p2 n2 c2, .slice p3 n3 c3, .slice p4 n4 c4] 31)).alloc (.cells #[.int .i64 er, .int .i64 es, .slice pa na ca, .slice pe ne ce] 38)).alloc (.cells #[.slice none 0 0, .slice none 0 0, .slice none 0 0, .slice none 0 0] 31)) (w.heap.size + 1 + 1 + 1) #[.slice none 0 0, .slice none 0 0, .slice none 0 0, .slice none 0 0] 31) := BX.new (((w.alloc (.cells #[.slice ps ns cs, .slice pc nc cc, .int .i64 g] 25)).alloc (.cells #[.slice p1 n1 c1, .slice p2 n2 c2, .slice p3 n3 c3, .slice p4 n4 c4] 31)).alloc (.cells #[.int .i64 er, .int .i64 es, .slice pa na ca, .slice pe ne ce] 38)) _ (by simp) _ _
 clear hK hR hN hE
 go_enter Tryz.func14, Tryz.ntmps14
 go_upto_region 1 with fail
 generalize ((((w.alloc (.cells #[.slice ps ns cs, .slice pc nc cc, .int .i64 g] 25)).alloc (.cells #[.slice p1 n1 c1, .slice p2 n2 c2, .slice p3 n3 c3, .slice p4 n4 c4] 31)).alloc (.cells #[.int .i64 er, .int .i64 es, .slice pa na ca, .slice pe ne ce] 38)).alloc (.cells #[.slice none 0 0, .slice none 0 0, .slice none 0 0, .slice none 0 0] 31)) = u at *
 have a0 := HBK.out.cell 0 _ rfl
 have a1 := HBK.out.cell 1 _ rfl
 have a2 := HBK.out.cell 2 _ rfl
 have b0 := HBS.out.cell 0 _ rfl
 have b1 := HBS.out.cell 1 _ rfl
 have b2 := HBS.out.cell 2 _ rfl
 have b3 := HBS.out.cell 3 _ rfl
 have e0 := HBE.out.cell 0 _ rfl
 have e1 := HBE.out.cell 1 _ rfl
 have e2 := HBE.out.cell 2 _ rfl
 have e3 := HBE.out.cell 3 _ rfl
 go_upto_region 5 with (first | (go_at_call 16; refine (Check13 _ _ _ _ _ _ k _ _ _ _ _ _ _ _ _ _ _ _ _ r _ hg (HK.out.below HB.out) (HR.out.below HB.out)).mono ?_; rintro e w1 ⟨rfl, hb⟩; rw [HCK.out]; replace HB := hide (bel_next HB.out hb); replace HBK := hide (HBK.out.below hb); replace HBS := hide (HBS.out.below hb); replace HBE := hide (HBE.out.below hb); replace HBZ := hide (HBZ.out.below hb); (try replace a0 := bcell hb a0); (try replace a1 := bcell hb a1); (try replace a2 := bcell hb a2); (try replace b0 := bcell hb b0); (try replace b1 := bcell hb b1); (try replace b2 := bcell hb b2); (try replace b3 := bcell hb b3); (try replace e0 := bcell hb e0); (try replace e1 := bcell hb e1); (try replace e2 := bcell hb e2); (try replace e3 := bcell hb e3); clear hb) | (go_at_call 49; refine (CheckE_any er es pa na ca pe ne ce c l _ (HNN.out.below HB.out) (HEN.out.below HB.out)).mono ?_; rintro e w2 ⟨rfl, hb⟩; rw [HCE.out]; replace HB := hide (bel_next HB.out hb); replace HBK := hide (HBK.out.below hb); replace HBS := hide (HBS.out.below hb); replace HBE := hide (HBE.out.below hb); replace HBZ := hide (HBZ.out.below hb); (try replace a0 := bcell hb a0); (try replace a1 := bcell hb a1); (try replace a2 := bcell hb a2); (try replace b0 := bcell hb b0); (try replace b1 := bcell hb b1); (try replace b2 := bcell hb b2); (try replace b3 := bcell hb b3); (try replace e0 := bcell hb e0); (try replace e1 := bcell hb e1); (try replace e2 := bcell hb e2); (try replace e3 := bcell hb e3); clear hb) | (go_at_call 17; refine (Fits13 ps ns cs pc nc cc g k er es pa na ca pe ne ce c l _ hg (HK.out.below HB.out) (HNN.out.below HB.out) (HEN.out.below HB.out)).mono ?_; rintro e w3 ⟨rfl, hb⟩; rw [HFI.out]; replace HB := hide (bel_next HB.out hb); replace HBK := hide (HBK.out.below hb); replace HBS := hide (HBS.out.below hb); replace HBE := hide (HBE.out.below hb); replace HBZ := hide (HBZ.out.below hb); (try replace a0 := bcell hb a0); (try replace a1 := bcell hb a1); (try replace a2 := bcell hb a2); (try replace b0 := bcell hb b0); (try replace b1 := bcell hb b1); (try replace b2 := bcell hb b2); (try replace b3 := bcell hb b3); (try replace e0 := bcell hb e0); (try replace e1 := bcell hb e1); (try replace e2 := bcell hb e2); (try replace e3 := bcell hb e3); clear hb))
 clear a0 a1 a2 b0 b1 b2 b3 e0 e1 e2 e3
 have HKU := hide (HK.out.below HB.out)
 have HRU := hide (HR.out.below HB.out)
 have HNU := hide (HNN.out.below HB.out)
 have HEU := hide (HEN.out.below HB.out)
 clear HK HR HNN HEN HCK HCE HFI
 generalize hww : w3 = u at *
 clear hww
 refine wp_region_held_drew (S := fun W => Below u.heap.size u W) (by kernel_rfl) ((Below.refl _ u).drew) (fun hS0 => ?_)
 refine tkL 0 25 hS0 ?h ?_; case h => (intro W hW; have e0 := bcell hW (HBK.out.cell 0 _ rfl); have e1 := bcell hW (HBK.out.cell 1 _ rfl); have e2 := bcell hW (HBK.out.cell 2 _ rfl); have e3 := bcell hW (HBS.out.cell 0 _ rfl); have e4 := bcell hW (HBS.out.cell 1 _ rfl); have e5 := bcell hW (HBS.out.cell 2 _ rfl); have e6 := bcell hW (HBS.out.cell 3 _ rfl); have e7 := bcell hW (HBE.out.cell 0 _ rfl); have e8 := bcell hW (HBE.out.cell 1 _ rfl); have e9 := bcell hW (HBE.out.cell 2 _ rfl); have e10 := bcell hW (HBE.out.cell 3 _ rfl); clear hW; go_simp; try rfl); simp only [ly]
 refine tkL 1 26 hS0 ?h ?_; case h => (intro W hW; have e0 := bcell hW (HBK.out.cell 0 _ rfl); have e1 := bcell hW (HBK.out.cell 1 _ rfl); have e2 := bcell hW (HBK.out.cell 2 _ rfl); have e3 := bcell hW (HBS.out.cell 0 _ rfl); have e4 := bcell hW (HBS.out.cell 1 _ rfl); have e5 := bcell hW (HBS.out.cell 2 _ rfl); have e6 := bcell hW (HBS.out.cell 3 _ rfl); have e7 := bcell hW (HBE.out.cell 0 _ rfl); have e8 := bcell hW (HBE.out.cell 1 _ rfl); have e9 := bcell hW (HBE.out.cell 2 _ rfl); have e10 := bcell hW (HBE.out.cell 3 _ rfl); clear hW; go_simp; try rfl); simp only [ly]
 refine tkL 3 28 hS0 ?h ?_; case h => (intro W hW; have e0 := bcell hW (HBK.out.cell 0 _ rfl); have e1 := bcell hW (HBK.out.cell 1 _ rfl); have e2 := bcell hW (HBK.out.cell 2 _ rfl); have e3 := bcell hW (HBS.out.cell 0 _ rfl); have e4 := bcell hW (HBS.out.cell 1 _ rfl); have e5 := bcell hW (HBS.out.cell 2 _ rfl); have e6 := bcell hW (HBS.out.cell 3 _ rfl); have e7 := bcell hW (HBE.out.cell 0 _ rfl); have e8 := bcell hW (HBE.out.cell 1 _ rfl); have e9 := bcell hW (HBE.out.cell 2 _ rfl); have e10 := bcell hW (HBE.out.cell 3 _ rfl); clear hW; go_simp; try rfl); simp only [ly]
 refine wpAnyH_ready (rs := [2]) (by kernel_rfl) (by simp) ?_
 refine AllReadyH.cons rfl (fun K hK => ?_) AllReadyH.nil
 go_simp
 refine (copyRaw13 p1 n1 c1 p2 n2 c2 p3 n3 c3 p4 n4 c4 r _ (HRU.out.below hS0) hn HZ.out).mono ?_
 rintro e wc ⟨q1, d1, q2, d2, q3, d3, q4, d4, rfl, ho, hb⟩
 have HO := hide (ho.mono hS0.size)
 have BS9 := bel_next hS0 hb
 clear ho hb
 refine hK.out _ _ ?hs11 (fun hS1 => ?_)
 case hs11 => exact BS9
 clear hK K
 try simp only [ly]
 refine tkJ 4 29 hS1 ?_; simp only [ly]
 refine wpAnyH_ready (rs := [5]) (by kernel_rfl) (by simp) ?_
 refine AllReadyH.cons rfl (fun K hK => ?_) AllReadyH.nil
 go_simp
 have HXD : Hid (BX (wc.alloc (.cells #[.slice ps ns cs, .slice pc nc cc, .int .i64 g, .slice q1 n1 d1, .slice q2 n2 d2, .slice q3 n3 d3, .slice q4 n4 d4, .int .i64 er, .int .i64 es, .slice pa na ca, .slice pe ne ce] 94)) wc.heap.size #[.slice ps ns cs, .slice pc nc cc, .int .i64 g, .slice q1 n1 d1, .slice q2 n2 d2, .slice q3 n3 d3, .slice q4 n4 d4, .int .i64 er, .int .i64 es, .slice pa na ca, .slice pe ne ce] 94) := BX.new wc _ rfl _ _
 have hb := bel1 wc (.cells #[.slice ps ns cs, .slice pc nc cc, .int .i64 g, .slice q1 n1 d1, .slice q2 n2 d2, .slice q3 n3 d3, .slice q4 n4 d4, .int .i64 er, .int .i64 es, .slice pa na ca, .slice pe ne ce] 94)
 replace HO := hide (HO.out.below hb)
 have BS9 := bel_next hS1 hb
 clear hb
 generalize hgd : wc.heap.size = gD at HXD ⊢
 clear hgd
 generalize wc.alloc (.cells #[.slice ps ns cs, .slice pc nc cc, .int .i64 g, .slice q1 n1 d1, .slice q2 n2 d2, .slice q3 n3 d3, .slice q4 n4 d4, .int .i64 er, .int .i64 es, .slice pa na ca, .slice pe ne ce] 94) = wd at HXD HO BS9 ⊢
 refine hK.out _ _ ?hs13 (fun hS2 => ?_)
 case hs13 => exact BS9
 clear hK K
 try simp only [ly]
 refine tkJ 6 8 hS2 ?_; simp only [ly]
 refine wpAnyH_done (by kernel_rfl) ?_ _
 have HBD := hide hS2
 clear hS2
 go_upto_region 9 with (go_at_call 51; refine (doAll13s gD ps ns cs pc nc cc g q1 n1 d1 q2 n2 d2 q3 n3 d3 q4 n4 d4 er es pa na ca pe ne ce k c l r u _ HXD.out HO.out HBD.out HKU.out HNU.out HEU.out HMG.out hne HDD.out HCC.out HMF.out HFF.out (some v) HAP.out).mono ?_; rintro e w9 ⟨h1, _, hf⟩; obtain ⟨rfl, ho⟩ := h1 v rfl; have HO9 := hide (OO.mono ho HB.out.size); have HF9 := hide hf; clear hf h1 ho)
 have HZ9 := hide (HF9.out.2 _ _ _ (HBZ.out.below HBD.out) ntyR)
 have HX9 := hide (HF9.out.2 _ _ _ HXD.out ntyD)
 have HB9 := hide (bel_next HB.out (HBD.out.trans HF9.out.1))
 have f3 := HX9.out.cell 3 _ rfl
 have f4 := HX9.out.cell 4 _ rfl
 have f5 := HX9.out.cell 5 _ rfl
 have f6 := HX9.out.cell 6 _ rfl
 have z0 := HZ9.out.cell 0 _ rfl
 have y0 := HZ9.out.free 0
 have z1 := HZ9.out.cell 1 _ rfl
 have y1 := HZ9.out.free 1
 have z2 := HZ9.out.cell 2 _ rfl
 have y2 := HZ9.out.free 2
 have z3 := HZ9.out.cell 3 _ rfl
 have y3 := HZ9.out.free 3
 go_wp2
 refine bodyPost_ret (results_cell_tmp rfl _ _ _ _ _ _ _ _ rfl rfl (HZ9.out.put4 _ _ _ _) Tryz.underlying31 rfl (by kernel_rfl)) rfl ?_
 exact ⟨q1, d1, q2, d2, q3, d3, q4, d4, rfl, OO.put4 HO9.out HZ9.out (by decide) (by decide) (by decide) (by decide) q1 n1 d1 q2 n2 d2 q3 n3 d3 q4 n4 d4, bel_put4N HB9.out (by omega) _ _ _ _⟩
set_option maxRecDepth 4000 in
set_option maxHeartbeats 8000000 in
theorem awake13s (w : World) : Calls Tryz.prog 9 #[] w fun e w' => e = .returned (.bool true) ∧ Below w.heap.size w w' := by
 have HNW : Hid (∀ (gB : Nat) W, KM W (some ⟨gB, 0, none⟩) 1 1 none 0 0 ([false], [], 0) → Calls Tryz.prog 21 #[.agg #[.slice (some ⟨gB, 0, none⟩) 1 1, .slice none 0 0, .int .i64 0]] W fun e w' => ∃ q1 d1 q2 d2 q3 d3 q4 d4, e = .returned (.tuple #[.agg #[.slice q1 1 d1, .slice q2 0 d2, .slice q3 0 d3, .slice q4 0 d4], .int .i64 0]) ∧ OO W.heap.size w' q1 1 d1 q2 0 d2 q3 0 d3 q4 0 d4 ([[]], [], [], []) ∧ Below W.heap.size W w') := fun gB W h => New13_good _ 1 1 none 0 0 ([false], [], 0) 0 W rfl h (by decide)
 have HAP : Hid (∀ (gB gE : Nat) q1 d1 q2 d2 q3 d3 q4 d4 W, KM W (some ⟨gB, 0, none⟩) 1 1 none 0 0 ([false], [], 0) → RM W q1 1 d1 q2 0 d2 q3 0 d3 q4 0 d4 ([[]], [], [], []) → ES W (some ⟨gE, 0, none⟩) 1 [(1, 0, [107], 0, 0, [])] → Calls Tryz.prog 14 #[.agg #[.slice (some ⟨gB, 0, none⟩) 1 1, .slice none 0 0, .int .i64 0], .agg #[.slice q1 1 d1, .slice q2 0 d2, .slice q3 0 d3, .slice q4 0 d4], .agg #[.int .i64 1, .int .i64 1, .slice none 0 0, .slice (some ⟨gE, 0, none⟩) 1 1]] W fun e w' => ∃ r1 f1 r2 f2 r3 f3 r4 f4, e = .returned (.tuple #[.agg #[.slice r1 1 f1, .slice r2 0 f2, .slice r3 0 f3, .slice r4 0 f4], .int .i64 0]) ∧ OO W.heap.size w' r1 1 f1 r2 0 f2 r3 0 f3 r4 0 f4 ([[(kk13, [(1, 1)], [])]], [], [], []) ∧ Below W.heap.size W w') := fun gB gE q1 d1 q2 d2 q3 d3 q4 d4 W h1 h2 h3 =>
  Apply13s_good _ 1 1 none 0 0 ([false], [], 0) 0 q1 1 d1 q2 0 d2 q3 0 d3 q4 0 d4 ([[]], [], [], []) 1 1 none 0 0 _ 1 1 [] [(1, 0, [107], 0, 0, [])] W rfl h1 h2 (NS.nil _ _) h3 (by decide) (by decide) (by decide) szN13 (by decide) (fun s hs => by rw [List.mem_singleton] at hs; subst hs; exact ⟨by decide, fun x hx => (by cases hx)⟩) (fun s hs => by cases hs) ([[(kk13, [(1, 1)], [])]], [], [], []) (by decide) (by rw [← new13]; exact app13)
 have HBY : Hid (∀ (gB : Nat) q1 d1 q2 d2 q3 d3 q4 d4 W, KM W (some ⟨gB, 0, none⟩) 1 1 none 0 0 ([false], [], 0) → RM W q1 1 d1 q2 0 d2 q3 0 d3 q4 0 d4 ([[(kk13, [(1, 1)], [])]], [], [], []) → Calls Tryz.prog 24 #[.agg #[.slice (some ⟨gB, 0, none⟩) 1 1, .slice none 0 0, .int .i64 0], .agg #[.slice q1 1 d1, .slice q2 0 d2, .slice q3 0 d3, .slice q4 0 d4]] W fun e w' => ∃ v, e = .returned (.tuple #[v, .int .i64 0]) ∧ Own W.heap.size w' v (bytRw ([[(kk13, [(1, 1)], [])]], [], [], [])) ∧ Below W.heap.size W w') := fun gB q1 d1 q2 d2 q3 d3 q4 d4 W h1 h2 => by
  have q := Bytes13_good (some ⟨gB, 0, none⟩) 1 none 0 0 ([false], [], 0) 0 q1 1 d1 q2 0 d2 q3 0 d3 q4 0 d4 ([[(kk13, [(1, 1)], [])]], [], [], []) W rfl h1 h2 (by decide) szV13 okV13 (by decide) (N := 1) (L := 1) (by rw [pla13]; exact smV13) (by decide) (by decide) (by decide)
  rw [pla13] at q
  exact q
 have HBK0 : Hid (BX ((w.alloc (.cells #[.bool false] 4)).alloc (.cells #[.slice (some ⟨w.heap.size, 0, none⟩) 1 1, .slice none 0 0, .int .i64 0] 25)) (w.heap.size + 1) #[.slice (some ⟨w.heap.size, 0, none⟩) 1 1, .slice none 0 0, .int .i64 0] 25) := BX.new (w.alloc (.cells #[.bool false] 4)) _ (by simp) _ _
 have HKM := hide ((km13 w).below (bel1 (w.alloc (.cells #[.bool false] 4)) (.cells #[.slice (some ⟨w.heap.size, 0, none⟩) 1 1, .slice none 0 0, .int .i64 0] 25)))
 have HB := hide (bel2 w (.cells #[.bool false] 4) (.cells #[.slice (some ⟨w.heap.size, 0, none⟩) 1 1, .slice none 0 0, .int .i64 0] 25))
 go_enter Tryz.func9, Tryz.ntmps9
 go_upto_region 2 with fail
 generalize (w.alloc (.cells #[.bool false] 4)).alloc (.cells #[.slice (some ⟨w.heap.size, 0, none⟩) 1 1, .slice none 0 0, .int .i64 0] 25) = u at *
 generalize hgB : w.heap.size = gB at HBK0 HKM ⊢
 have HGB := hide hgB
 clear hgB
 have a0 := HBK0.out.cell 0 _ rfl
 have a1 := HBK0.out.cell 1 _ rfl
 have a2 := HBK0.out.cell 2 _ rfl
 go_upto_region 3 with (go_at_call 21; refine (HNW.out gB _ HKM.out).mono ?_; rintro e w1 ⟨q1, d1, q2, d2, q3, d3, q4, d4, rfl, ho, hb⟩; have HO := hide ho; replace HB := hide (bel_next HB.out hb); replace HKM := hide (HKM.out.below hb); replace HBK0 := hide (HBK0.out.below hb); clear ho hb a0 a1 a2)
 have HFB := hide (bel1 w1 (.cells #[.slice q1 1 d1, .slice q2 0 d2, .slice q3 0 d3, .slice q4 0 d4] 31))
 replace HB := hide (bel_next HB.out HFB.out)
 replace HKM := hide (HKM.out.below HFB.out)
 replace HBK0 := hide (HBK0.out.below HFB.out)
 replace HO := hide (HO.out.below HFB.out)
 have HXW : Hid (BX (w1.alloc (.cells #[.slice q1 1 d1, .slice q2 0 d2, .slice q3 0 d3, .slice q4 0 d4] 31)) w1.heap.size #[.slice q1 1 d1, .slice q2 0 d2, .slice q3 0 d3, .slice q4 0 d4] 31) := BX.new w1 _ rfl _ _
 clear HFB HNW
 generalize hgW : w1.heap.size = gW at HXW ⊢
 clear hgW
 generalize w1.alloc (.cells #[.slice q1 1 d1, .slice q2 0 d2, .slice q3 0 d3, .slice q4 0 d4] 31) = u2 at *
 have BE := hide (bel1 u2 (.cells #[.int .i64 1, .int .i64 0, .string ⟨#[107]⟩, .int .i64 0, .int .i64 0, .string ⟨#[]⟩] 82))
 have HES := hide (es13 u2)
 have a0 := HBK0.out.cell 0 _ rfl
 have a1 := HBK0.out.cell 1 _ rfl
 have a2 := HBK0.out.cell 2 _ rfl
 have b0 := HXW.out.cell 0 _ rfl
 have b1 := HXW.out.cell 1 _ rfl
 have b2 := HXW.out.cell 2 _ rfl
 have b3 := HXW.out.cell 3 _ rfl
 go_upto_region 4 with (go_at_call 14; refine (HAP.out gB _ q1 d1 q2 d2 q3 d3 q4 d4 _ (HKM.out.below BE.out) (HO.out.below BE.out).rm HES.out).mono ?_; rintro e w2 ⟨r1, f1, r2, f2, r3, f3, r4, f4, rfl, ho, hb⟩; have HP := hide ho; replace HB := hide (bel_next HB.out (bel_next BE.out hb)); replace HKM := hide (HKM.out.below (bel_next BE.out hb)); replace HBK0 := hide (HBK0.out.below (bel_next BE.out hb)); clear ho hb a0 a1 a2 b0 b1 b2 b3)
 have HFB := hide (bel1 w2 (.cells #[.slice r1 1 f1, .slice r2 0 f2, .slice r3 0 f3, .slice r4 0 f4] 31))
 replace HB := hide (bel_next HB.out HFB.out)
 replace HKM := hide (HKM.out.below HFB.out)
 replace HBK0 := hide (HBK0.out.below HFB.out)
 replace HP := hide (HP.out.below HFB.out)
 have HXX : Hid (BX (w2.alloc (.cells #[.slice r1 1 f1, .slice r2 0 f2, .slice r3 0 f3, .slice r4 0 f4] 31)) w2.heap.size #[.slice r1 1 f1, .slice r2 0 f2, .slice r3 0 f3, .slice r4 0 f4] 31) := BX.new w2 _ rfl _ _
 clear HFB HAP HES BE HO HXW
 generalize hgX : w2.heap.size = gX at HXX ⊢
 clear hgX
 generalize w2.alloc (.cells #[.slice r1 1 f1, .slice r2 0 f2, .slice r3 0 f3, .slice r4 0 f4] 31) = u3 at *
 have a0 := HBK0.out.cell 0 _ rfl
 have a1 := HBK0.out.cell 1 _ rfl
 have a2 := HBK0.out.cell 2 _ rfl
 have b0 := HXX.out.cell 0 _ rfl
 have b1 := HXX.out.cell 1 _ rfl
 have b2 := HXX.out.cell 2 _ rfl
 have b3 := HXX.out.cell 3 _ rfl
 go_upto_region 5 with (go_at_call 24; refine (HBY.out gB r1 f1 r2 f2 r3 f3 r4 f4 _ HKM.out HP.out.rm).mono ?_; rintro e w3 ⟨v, rfl, ho, hb⟩; obtain ⟨p9, c9, hv, _, _⟩ := ho.open (byt_by _); rw [byt13] at hv; subst hv; replace HB := hide (bel_next HB.out hb); replace HP := hide (HP.out.below hb); replace HXX := hide (HXX.out.below hb); clear ho hb a0 a1 a2 b0 b1 b2 b3)
 obtain ⟨gq, px, nx, cx, s, hq, _, hs, x0, _, hX, _⟩ := HP.out.at1 0 (by omega)
 subst hq
 have hnx : s.length = nx := kept_ent.len hX
 have hsv : s = [(kk13, [(1, 1)], [])] := by cases hs; rfl
 rw [hsv] at hnx
 obtain rfl : nx = 1 := hnx.symm
 have b0 := HXX.out.cell 0 _ rfl
 clear hX hs hsv hnx HP HKM HBK0 HBY
 go_wp2
 go_ret
 exact ⟨rfl, HB.out⟩
end Go.Proofs.YtkbbegbpkndebaaGreat

