/- Texts of this claim, joined: OH. -/
import Derived.Test.YtomppblgalepjaaGreatDoorJ21
import Derived.Test.YtomppblgalepjaaGreatDoorJ30
/- Whether something holds of each of a list: what is seen meanwhile (the program's, layer 16). -/
namespace Go.Proofs.YtomppblgalepjaaGreatDoor
open Go.RowKit Go.Lib
set_option linter.unusedVariables false
def OffD (D : Nat) (a : Option Addr) (n : Nat) : Prop := 0 < n → ∀ b : Addr, a = some b → (b.block < D ∨ D + 4 ≤ b.block)
theorem RS.gq {α : Type} {enc : α → List Value} {k : Nat} {D : Nat} {w w' : World} {a : Option Addr} {n : Nat} {l : List α} (h : RS enc k w a n l) (ho : OffD D a n) (hg : GQ 4 D w w') : RS enc k w' a n l := by
 obtain ⟨h1, h2, h3⟩ := h
 refine ⟨h1, h2, ?_⟩
 rcases h3 with hz | ⟨b, off, rfl, hc⟩
 ·exact .inl hz
 ·rcases Nat.eq_zero_or_pos n with h0 | h0
  ·exact .inl h0
  ·exact .inr ⟨b, off, rfl, fun i x hx j v hv => gqcell hg (hc i x hx j v hv) (ho h0 ⟨b, off, none⟩ rfl)⟩
def ST (D : Nat) (I : World → Prop) (b : Bool) (w : World) (e : Ending) (w' : World) : Prop := e = .returned (.bool b) ∧ GQ 4 D w w' ∧ (b = true → I w')
set_option maxHeartbeats 2000000 in
theorem one16Dg (D : Nat) (l : List Dg) (ok : Nat → Bool) (I : Nat → World → Prop) (hI : ∀ (i : Nat) (W W' : World), I i W → Below W.heap.size W W' → I i W') (hM : ∀ (i : Nat) (x : Dg) (W : World), l[i]? = some x → I i W → Calls Tryz.prog 70 #[.pointer (some ⟨D + 3, 0, none⟩), .agg #[.int .i64 x.1, .int .i64 x.2.1, .int .i64 x.2.2]] W (ST D (I (i + 1)) (ok i) W)) (gh i : Nat) (x : Dg) (w : World) (hx : l[i]? = some x) (hi : I i w) (hh : BX w gh #[.func (.func 70) #[.pointer (some ⟨D + 3, 0, none⟩)] #[]] 106) (hg : gh < D ∨ D + 4 ≤ gh) :
  Calls Tryz.prog 80 #[.agg #[.int .i64 x.1, .int .i64 x.2.1, .int .i64 x.2.2], .pointer (some ⟨gh, 0, none⟩)] w fun e w' => e = .returned (.bool (!ok i)) ∧ GQ 4 D w w' ∧ (ok i = true → I (i + 1) w') := by
 have HMM := hide (hM i x (w.alloc (.cells #[.int .i64 x.1, .int .i64 x.2.1, .int .i64 x.2.2] 60)) hx (hI i _ _ hi (bel1 w (.cells #[.int .i64 x.1, .int .i64 x.2.1, .int .i64 x.2.2] 60))))
 have b0 := (hh.alloc (.cells #[.int .i64 x.1, .int .i64 x.2.1, .int .i64 x.2.2] 60)).cell 0 _ rfl
 have HB := hide (bel1 w (.cells #[.int .i64 x.1, .int .i64 x.2.1, .int .i64 x.2.2] 60))
 have HX : Hid (BX (w.alloc (.cells #[.int .i64 x.1, .int .i64 x.2.1, .int .i64 x.2.2] 60)) w.heap.size #[.int .i64 x.1, .int .i64 x.2.1, .int .i64 x.2.2] 60) := BX.new w _ rfl _ _
 have c0 := HX.out.cell 0 _ rfl
 have c1 := HX.out.cell 1 _ rfl
 have c2 := HX.out.cell 2 _ rfl
 clear hM hI hi hx hh HX
 obtain ⟨z, hz⟩ : ∃ z, ok i = z := ⟨_, rfl⟩
 rw [hz] at HMM ⊢
 go_enter Tryz.func80, Tryz.ntmps80
 go_upto_region 1 with fail
 generalize w.alloc (.cells #[.int .i64 x.1, .int .i64 x.2.1, .int .i64 x.2.2] 60) = u at *
 cases z
 ·go_wp2_with (go_at_call 70; refine HMM.out.mono ?_; rintro e w1 ⟨rfl, hq, hp⟩; have HQ := hide hq; clear hq hp)
  go_ret
  exact ⟨rfl, (GQ.below 4 D HB.out).trans HQ.out, fun h => by cases h⟩
 ·go_wp2_with (go_at_call 70; refine HMM.out.mono ?_; rintro e w1 ⟨rfl, hq, hp⟩; have HQ := hide hq; have HP := hide (hp rfl); clear hq hp)
  go_ret
  exact ⟨rfl, (GQ.below 4 D HB.out).trans HQ.out, (by first | exact fun _ => HP.out | exact HP.out)⟩
set_option maxHeartbeats 4000000 in
theorem idx16Dg (D : Nat) (l : List Dg) (ok : Nat → Bool) (I : Nat → World → Prop) (hI : ∀ (i : Nat) (W W' : World), I i W → Below W.heap.size W W' → I i W') (hM : ∀ (i : Nat) (x : Dg) (W : World), l[i]? = some x → I i W → Calls Tryz.prog 70 #[.pointer (some ⟨D + 3, 0, none⟩), .agg #[.int .i64 x.1, .int .i64 x.2.1, .int .i64 x.2.2]] W (ST D (I (i + 1)) (ok i) W)) (gh : Nat) (a : Option Addr) (n c : Nat) (w : World) (hl : RS encDg 3 w a n l) (ho : OffD D a n) (hi : I 0 w) (hh : BX w gh #[.func (.func 70) #[.pointer (some ⟨D + 3, 0, none⟩)] #[]] 106) (hg : gh < D ∨ D + 4 ≤ gh) :
  Calls Tryz.prog 88 #[.slice a n c, .func (.func 80) #[] #[.pointer (some ⟨gh, 0, none⟩)]] w fun e w' => ∃ z : Int, e = .returned (.int .i64 z) ∧ GQ 4 D w w' ∧ decide (z ≥ 0) = !allN n ok ∧ (allN n ok = true → I n w') := by
 have hmax := hl.2.1
 unfold maxLen at hmax
 have HL := hide hl
 have HO := hide ho
 have HH := hide hh
 have HONE := hide (one16Dg D l ok I hI hM )
 have HI0 := hide hi
 have HG0 := hide hg
 clear hl ho hh hi hM hI hg
 go_enter Tryz.func88, Tryz.ntmps88
 go_wp2
 go_loopw [8] (fun v wr => ∃ i : Nat, i ≤ n ∧ v = .int .i64 i ∧ Hid (GQ 4 D w wr) ∧ Hid (I i wr) ∧ Hid (allN i ok = true)) (fun v _ => n - (RowKit.intOf v).toNat)
 case atStart => exact ⟨0, by omega, rfl, GQ.refl 4 D w, HI0.out, by unfold Hid allN; rfl⟩
 case round =>
  obtain ⟨i, hi, rfl, HB, HI, HA⟩ := hrel
  by_cases hlt : i < n
  ·obtain ⟨x, hx⟩ : ∃ x, l[i]? = some x := ⟨_, List.getElem?_eq_getElem (by rw [HL.out.1]; exact hlt)⟩
   obtain ⟨g1, g2, g3⟩ := HL.out.gq HO.out HB.out
   rcases g3 with h0 | ⟨bp, off, ha, hc⟩
   ·omega
   subst ha
   have hc0 := hc i x hx
   clear hc
   have s0 : wr.cell? ⟨bp, off + i * 3, none⟩ = some (.int .i64 x.1) := hc0 0 _ rfl
   have s1 := hc0 1 _ rfl
   have s2 := hc0 2 _ rfl
   clear hc0
   have hi0 : (0 : Int) ≤ (i : Int) := by omega
   have hi1 : (i : Int) < (n : Int) := by omega
   have HS1 := hide (HONE.out gh i x wr hx HI.out (BX.gq HH.out HB.out HG0.out) HG0.out)
   clear hx
   obtain ⟨x1, x2, x3⟩ := x
   rcases hz : ok i with _ | _
   ·have HZ : Hid (allN n ok = false) := allN_bad hlt hz
    rw [hz] at HS1
    clear hz
    go_wp2_with (go_at_call 80; refine HS1.out.mono ?_; rintro e w1 ⟨rfl, hq, hp⟩; have HQ := hide hq; clear hq hp; simp only [Bool.not_false])
    go_ret
    exact ⟨_, rfl, HB.out.trans HQ.out, (by rw [HZ.out]; simp), fun h => by rw [HZ.out] at h; cases h⟩
   ·have HZ : Hid (allN (i + 1) ok = true) := by unfold Hid; rw [allN_succ, HA.out, hz]; rfl
    rw [hz] at HS1
    clear hz
    go_wp2_with (go_at_call 80; refine HS1.out.mono ?_; rintro e w1 ⟨rfl, hq, hp⟩; have HQ := hide hq; have HP := hide (hp rfl); clear hq hp; simp only [Bool.not_true])
    go_roundw
    case rel => exact ⟨i + 1, by omega, by go_num, HB.out.trans HQ.out, HP.out, HZ.out⟩
    case measure => simp [RowKit.intOf]; omega
  ·obtain rfl : i = n := by omega
   go_wp2
   go_ret
   exact ⟨_, rfl, HB.out, (by rw [HA.out]; rfl), fun _ => HI.out⟩
set_option maxHeartbeats 2000000 in
theorem con16Dg (D : Nat) (l : List Dg) (ok : Nat → Bool) (I : Nat → World → Prop) (hI : ∀ (i : Nat) (W W' : World), I i W → Below W.heap.size W W' → I i W') (hM : ∀ (i : Nat) (x : Dg) (W : World), l[i]? = some x → I i W → Calls Tryz.prog 70 #[.pointer (some ⟨D + 3, 0, none⟩), .agg #[.int .i64 x.1, .int .i64 x.2.1, .int .i64 x.2.2]] W (ST D (I (i + 1)) (ok i) W)) (gh : Nat) (a : Option Addr) (n c : Nat) (w : World) (hl : RS encDg 3 w a n l) (ho : OffD D a n) (hi : I 0 w) (hh : BX w gh #[.func (.func 70) #[.pointer (some ⟨D + 3, 0, none⟩)] #[]] 106) (hg : gh < D ∨ D + 4 ≤ gh) :
  Calls Tryz.prog 79 #[.slice a n c, .func (.func 80) #[] #[.pointer (some ⟨gh, 0, none⟩)]] w fun e w' => e = .returned (.bool (!allN n ok)) ∧ GQ 4 D w w' ∧ (allN n ok = true → I n w') := by
 have HX := hide (idx16Dg D l ok I hI hM gh a n c w hl ho hi hh hg)
 clear hl ho hh hi hM hI hg
 go_enter Tryz.func79, Tryz.ntmps79
 go_wp2_with (go_at_call 88; refine HX.out.mono ?_; rintro e w1 ⟨z, rfl, hq, hz, hp⟩; have HQ := hide hq; have HZ := hide hz; have HP := hide hp; clear hq hz hp)
 go_ret
 exact ⟨retB HZ.out, HQ.out, HP.out⟩
set_option maxHeartbeats 2000000 in
theorem all16Dg (D : Nat) (l : List Dg) (ok : Nat → Bool) (I : Nat → World → Prop) (hI : ∀ (i : Nat) (W W' : World), I i W → Below W.heap.size W W' → I i W') (hM : ∀ (i : Nat) (x : Dg) (W : World), l[i]? = some x → I i W → Calls Tryz.prog 70 #[.pointer (some ⟨D + 3, 0, none⟩), .agg #[.int .i64 x.1, .int .i64 x.2.1, .int .i64 x.2.2]] W (ST D (I (i + 1)) (ok i) W)) (a : Option Addr) (n c : Nat) (w : World) (hl : RS encDg 3 w a n l) (ho : OffD D a n) (hi : I 0 w) (hD : D + 4 ≤ w.heap.size) :
  Calls Tryz.prog 69 #[.slice a n c, .func (.func 70) #[.pointer (some ⟨D + 3, 0, none⟩)] #[]] w (ST D (I n) (allN n ok) w) := by
 have HX := hide (con16Dg D l ok I hI hM w.heap.size a n c (w.alloc (.cells #[.func (.func 70) #[.pointer (some ⟨D + 3, 0, none⟩)] #[]] 106)) (hl.alloc _) ho (hI 0 _ _ hi (bel1 w _)) (BX.new w _ rfl _ _) (.inr hD))
 have HB := hide (bel1 w (.cells #[.func (.func 70) #[.pointer (some ⟨D + 3, 0, none⟩)] #[]] 106))
 have hmf : ∀ (fn : Fn) (first cap : Array Value) (w : World), (Instr.makeFunc fn first cap).run Tryz.prog w = .ok (.func fn first cap) w := fun _ _ _ _ => rfl
 clear hl ho hi hM hI
 obtain ⟨z, hz⟩ : ∃ z, allN n ok = z := ⟨_, rfl⟩
 rw [hz] at HX ⊢
 clear hz
 go_enter Tryz.func69, Tryz.ntmps69
 cases z
 ·go_wp2_with (go_at_call 79; refine HX.out.mono ?_; rintro e w1 ⟨rfl, hq, hp⟩; have HQ := hide hq; clear hq hp)
  go_ret
  exact ⟨rfl, (GQ.below 4 D HB.out).trans HQ.out, fun h => by cases h⟩
 ·go_wp2_with (go_at_call 79; refine HX.out.mono ?_; rintro e w1 ⟨rfl, hq, hp⟩; have HQ := hide hq; have HP := hide (hp rfl); clear hq hp)
  go_ret
  exact ⟨rfl, (GQ.below 4 D HB.out).trans HQ.out, (by first | exact fun _ => HP.out | exact HP.out)⟩
set_option maxHeartbeats 2000000 in
theorem one16Cl (D : Nat) (l : List Cl) (ok : Nat → Bool) (I : Nat → World → Prop) (hI : ∀ (i : Nat) (W W' : World), I i W → Below W.heap.size W W' → I i W') (hM : ∀ (i : Nat) (x : Cl) (W : World), l[i]? = some x → I i W → Calls Tryz.prog 48 #[.pointer (some ⟨D + 3, 0, none⟩), .agg #[.int .i64 x.1, .bool x.2.1, .int .i64 x.2.2.1, .int .i64 x.2.2.2.1, .int .i64 x.2.2.2.2]] W (ST D (I (i + 1)) (ok i) W)) (gh i : Nat) (x : Cl) (w : World) (hx : l[i]? = some x) (hi : I i w) (hh : BX w gh #[.func (.func 48) #[.pointer (some ⟨D + 3, 0, none⟩)] #[]] 89) (hg : gh < D ∨ D + 4 ≤ gh) :
  Calls Tryz.prog 64 #[.agg #[.int .i64 x.1, .bool x.2.1, .int .i64 x.2.2.1, .int .i64 x.2.2.2.1, .int .i64 x.2.2.2.2], .pointer (some ⟨gh, 0, none⟩)] w fun e w' => e = .returned (.bool (!ok i)) ∧ GQ 4 D w w' ∧ (ok i = true → I (i + 1) w') := by
 have HMM := hide (hM i x (w.alloc (.cells #[.int .i64 x.1, .bool x.2.1, .int .i64 x.2.2.1, .int .i64 x.2.2.2.1, .int .i64 x.2.2.2.2] 43)) hx (hI i _ _ hi (bel1 w (.cells #[.int .i64 x.1, .bool x.2.1, .int .i64 x.2.2.1, .int .i64 x.2.2.2.1, .int .i64 x.2.2.2.2] 43))))
 have b0 := (hh.alloc (.cells #[.int .i64 x.1, .bool x.2.1, .int .i64 x.2.2.1, .int .i64 x.2.2.2.1, .int .i64 x.2.2.2.2] 43)).cell 0 _ rfl
 have HB := hide (bel1 w (.cells #[.int .i64 x.1, .bool x.2.1, .int .i64 x.2.2.1, .int .i64 x.2.2.2.1, .int .i64 x.2.2.2.2] 43))
 have HX : Hid (BX (w.alloc (.cells #[.int .i64 x.1, .bool x.2.1, .int .i64 x.2.2.1, .int .i64 x.2.2.2.1, .int .i64 x.2.2.2.2] 43)) w.heap.size #[.int .i64 x.1, .bool x.2.1, .int .i64 x.2.2.1, .int .i64 x.2.2.2.1, .int .i64 x.2.2.2.2] 43) := BX.new w _ rfl _ _
 have c0 := HX.out.cell 0 _ rfl
 have c1 := HX.out.cell 1 _ rfl
 have c2 := HX.out.cell 2 _ rfl
 have c3 := HX.out.cell 3 _ rfl
 have c4 := HX.out.cell 4 _ rfl
 clear hM hI hi hx hh HX
 obtain ⟨z, hz⟩ : ∃ z, ok i = z := ⟨_, rfl⟩
 rw [hz] at HMM ⊢
 go_enter Tryz.func64, Tryz.ntmps64
 go_upto_region 1 with fail
 generalize w.alloc (.cells #[.int .i64 x.1, .bool x.2.1, .int .i64 x.2.2.1, .int .i64 x.2.2.2.1, .int .i64 x.2.2.2.2] 43) = u at *
 cases z
 ·go_wp2_with (go_at_call 48; refine HMM.out.mono ?_; rintro e w1 ⟨rfl, hq, hp⟩; have HQ := hide hq; clear hq hp)
  go_ret
  exact ⟨rfl, (GQ.below 4 D HB.out).trans HQ.out, fun h => by cases h⟩
 ·go_wp2_with (go_at_call 48; refine HMM.out.mono ?_; rintro e w1 ⟨rfl, hq, hp⟩; have HQ := hide hq; have HP := hide (hp rfl); clear hq hp)
  go_ret
  exact ⟨rfl, (GQ.below 4 D HB.out).trans HQ.out, (by first | exact fun _ => HP.out | exact HP.out)⟩
set_option maxHeartbeats 4000000 in
theorem idx16Cl (D : Nat) (l : List Cl) (ok : Nat → Bool) (I : Nat → World → Prop) (hI : ∀ (i : Nat) (W W' : World), I i W → Below W.heap.size W W' → I i W') (hM : ∀ (i : Nat) (x : Cl) (W : World), l[i]? = some x → I i W → Calls Tryz.prog 48 #[.pointer (some ⟨D + 3, 0, none⟩), .agg #[.int .i64 x.1, .bool x.2.1, .int .i64 x.2.2.1, .int .i64 x.2.2.2.1, .int .i64 x.2.2.2.2]] W (ST D (I (i + 1)) (ok i) W)) (gh : Nat) (a : Option Addr) (n c : Nat) (w : World) (hl : RS encCl 5 w a n l) (ho : OffD D a n) (hi : I 0 w) (hh : BX w gh #[.func (.func 48) #[.pointer (some ⟨D + 3, 0, none⟩)] #[]] 89) (hg : gh < D ∨ D + 4 ≤ gh) :
  Calls Tryz.prog 76 #[.slice a n c, .func (.func 64) #[] #[.pointer (some ⟨gh, 0, none⟩)]] w fun e w' => ∃ z : Int, e = .returned (.int .i64 z) ∧ GQ 4 D w w' ∧ decide (z ≥ 0) = !allN n ok ∧ (allN n ok = true → I n w') := by
 have hmax := hl.2.1
 unfold maxLen at hmax
 have HL := hide hl
 have HO := hide ho
 have HH := hide hh
 have HONE := hide (one16Cl D l ok I hI hM )
 have HI0 := hide hi
 have HG0 := hide hg
 clear hl ho hh hi hM hI hg
 go_enter Tryz.func76, Tryz.ntmps76
 go_wp2
 go_loopw [8] (fun v wr => ∃ i : Nat, i ≤ n ∧ v = .int .i64 i ∧ Hid (GQ 4 D w wr) ∧ Hid (I i wr) ∧ Hid (allN i ok = true)) (fun v _ => n - (RowKit.intOf v).toNat)
 case atStart => exact ⟨0, by omega, rfl, GQ.refl 4 D w, HI0.out, by unfold Hid allN; rfl⟩
 case round =>
  obtain ⟨i, hi, rfl, HB, HI, HA⟩ := hrel
  by_cases hlt : i < n
  ·obtain ⟨x, hx⟩ : ∃ x, l[i]? = some x := ⟨_, List.getElem?_eq_getElem (by rw [HL.out.1]; exact hlt)⟩
   obtain ⟨g1, g2, g3⟩ := HL.out.gq HO.out HB.out
   rcases g3 with h0 | ⟨bp, off, ha, hc⟩
   ·omega
   subst ha
   have hc0 := hc i x hx
   clear hc
   have s0 : wr.cell? ⟨bp, off + i * 5, none⟩ = some (.int .i64 x.1) := hc0 0 _ rfl
   have s1 := hc0 1 _ rfl
   have s2 := hc0 2 _ rfl
   have s3 := hc0 3 _ rfl
   have s4 := hc0 4 _ rfl
   clear hc0
   have hi0 : (0 : Int) ≤ (i : Int) := by omega
   have hi1 : (i : Int) < (n : Int) := by omega
   have HS1 := hide (HONE.out gh i x wr hx HI.out (BX.gq HH.out HB.out HG0.out) HG0.out)
   clear hx
   obtain ⟨x1, x2, x3, x4, x5⟩ := x
   rcases hz : ok i with _ | _
   ·have HZ : Hid (allN n ok = false) := allN_bad hlt hz
    rw [hz] at HS1
    clear hz
    go_wp2_with (go_at_call 64; refine HS1.out.mono ?_; rintro e w1 ⟨rfl, hq, hp⟩; have HQ := hide hq; clear hq hp; simp only [Bool.not_false])
    go_ret
    exact ⟨_, rfl, HB.out.trans HQ.out, (by rw [HZ.out]; simp), fun h => by rw [HZ.out] at h; cases h⟩
   ·have HZ : Hid (allN (i + 1) ok = true) := by unfold Hid; rw [allN_succ, HA.out, hz]; rfl
    rw [hz] at HS1
    clear hz
    go_wp2_with (go_at_call 64; refine HS1.out.mono ?_; rintro e w1 ⟨rfl, hq, hp⟩; have HQ := hide hq; have HP := hide (hp rfl); clear hq hp; simp only [Bool.not_true])
    go_roundw
    case rel => exact ⟨i + 1, by omega, by go_num, HB.out.trans HQ.out, HP.out, HZ.out⟩
    case measure => simp [RowKit.intOf]; omega
  ·obtain rfl : i = n := by omega
   go_wp2
   go_ret
   exact ⟨_, rfl, HB.out, (by rw [HA.out]; rfl), fun _ => HI.out⟩
set_option maxHeartbeats 2000000 in
theorem con16Cl (D : Nat) (l : List Cl) (ok : Nat → Bool) (I : Nat → World → Prop) (hI : ∀ (i : Nat) (W W' : World), I i W → Below W.heap.size W W' → I i W') (hM : ∀ (i : Nat) (x : Cl) (W : World), l[i]? = some x → I i W → Calls Tryz.prog 48 #[.pointer (some ⟨D + 3, 0, none⟩), .agg #[.int .i64 x.1, .bool x.2.1, .int .i64 x.2.2.1, .int .i64 x.2.2.2.1, .int .i64 x.2.2.2.2]] W (ST D (I (i + 1)) (ok i) W)) (gh : Nat) (a : Option Addr) (n c : Nat) (w : World) (hl : RS encCl 5 w a n l) (ho : OffD D a n) (hi : I 0 w) (hh : BX w gh #[.func (.func 48) #[.pointer (some ⟨D + 3, 0, none⟩)] #[]] 89) (hg : gh < D ∨ D + 4 ≤ gh) :
  Calls Tryz.prog 63 #[.slice a n c, .func (.func 64) #[] #[.pointer (some ⟨gh, 0, none⟩)]] w fun e w' => e = .returned (.bool (!allN n ok)) ∧ GQ 4 D w w' ∧ (allN n ok = true → I n w') := by
 have HX := hide (idx16Cl D l ok I hI hM gh a n c w hl ho hi hh hg)
 clear hl ho hh hi hM hI hg
 go_enter Tryz.func63, Tryz.ntmps63
 go_wp2_with (go_at_call 76; refine HX.out.mono ?_; rintro e w1 ⟨z, rfl, hq, hz, hp⟩; have HQ := hide hq; have HZ := hide hz; have HP := hide hp; clear hq hz hp)
 go_ret
 exact ⟨retB HZ.out, HQ.out, HP.out⟩
set_option maxHeartbeats 2000000 in
theorem all16Cl (D : Nat) (l : List Cl) (ok : Nat → Bool) (I : Nat → World → Prop) (hI : ∀ (i : Nat) (W W' : World), I i W → Below W.heap.size W W' → I i W') (hM : ∀ (i : Nat) (x : Cl) (W : World), l[i]? = some x → I i W → Calls Tryz.prog 48 #[.pointer (some ⟨D + 3, 0, none⟩), .agg #[.int .i64 x.1, .bool x.2.1, .int .i64 x.2.2.1, .int .i64 x.2.2.2.1, .int .i64 x.2.2.2.2]] W (ST D (I (i + 1)) (ok i) W)) (a : Option Addr) (n c : Nat) (w : World) (hl : RS encCl 5 w a n l) (ho : OffD D a n) (hi : I 0 w) (hD : D + 4 ≤ w.heap.size) :
  Calls Tryz.prog 47 #[.slice a n c, .func (.func 48) #[.pointer (some ⟨D + 3, 0, none⟩)] #[]] w (ST D (I n) (allN n ok) w) := by
 have HX := hide (con16Cl D l ok I hI hM w.heap.size a n c (w.alloc (.cells #[.func (.func 48) #[.pointer (some ⟨D + 3, 0, none⟩)] #[]] 89)) (hl.alloc _) ho (hI 0 _ _ hi (bel1 w _)) (BX.new w _ rfl _ _) (.inr hD))
 have HB := hide (bel1 w (.cells #[.func (.func 48) #[.pointer (some ⟨D + 3, 0, none⟩)] #[]] 89))
 have hmf : ∀ (fn : Fn) (first cap : Array Value) (w : World), (Instr.makeFunc fn first cap).run Tryz.prog w = .ok (.func fn first cap) w := fun _ _ _ _ => rfl
 clear hl ho hi hM hI
 obtain ⟨z, hz⟩ : ∃ z, allN n ok = z := ⟨_, rfl⟩
 rw [hz] at HX ⊢
 clear hz
 go_enter Tryz.func47, Tryz.ntmps47
 cases z
 ·go_wp2_with (go_at_call 63; refine HX.out.mono ?_; rintro e w1 ⟨rfl, hq, hp⟩; have HQ := hide hq; clear hq hp)
  go_ret
  exact ⟨rfl, (GQ.below 4 D HB.out).trans HQ.out, fun h => by cases h⟩
 ·go_wp2_with (go_at_call 63; refine HX.out.mono ?_; rintro e w1 ⟨rfl, hq, hp⟩; have HQ := hide hq; have HP := hide (hp rfl); clear hq hp)
  go_ret
  exact ⟨rfl, (GQ.below 4 D HB.out).trans HQ.out, (by first | exact fun _ => HP.out | exact HP.out)⟩
set_option maxHeartbeats 2000000 in
theorem one16St (D : Nat) (ga gb : Nat) (l : List ByteArray) (ok : Nat → Bool) (I : Nat → World → Prop) (hI : ∀ (i : Nat) (W W' : World), I i W → Below W.heap.size W W' → I i W') (hM : ∀ (i : Nat) (x : ByteArray) (W : World), l[i]? = some x → I i W → Calls Tryz.prog 45 #[.string x, .pointer (some ⟨ga, 0, none⟩), .pointer (some ⟨gb, 0, none⟩)] W (ST D (I (i + 1)) (ok i) W)) (gh i : Nat) (x : ByteArray) (w : World) (hx : l[i]? = some x) (hi : I i w) (hh : BX w gh #[.func (.func 45) #[] #[.pointer (some ⟨ga, 0, none⟩), .pointer (some ⟨gb, 0, none⟩)]] 52) (hg : gh < D ∨ D + 4 ≤ gh) :
  Calls Tryz.prog 61 #[.string x, .pointer (some ⟨gh, 0, none⟩)] w fun e w' => e = .returned (.bool (!ok i)) ∧ GQ 4 D w w' ∧ (ok i = true → I (i + 1) w') := by
 have HMM := hide (hM i x w hx hi)
 have b0 := hh.cell 0 _ rfl
 have HB := hide (Below.refl w.heap.size w)
 clear hM hI hi hx hh
 obtain ⟨z, hz⟩ : ∃ z, ok i = z := ⟨_, rfl⟩
 rw [hz] at HMM ⊢
 go_enter Tryz.func61, Tryz.ntmps61
 cases z
 ·go_wp2_with (go_at_call 45; refine HMM.out.mono ?_; rintro e w1 ⟨rfl, hq, hp⟩; have HQ := hide hq; clear hq hp)
  go_ret
  exact ⟨rfl, (GQ.below 4 D HB.out).trans HQ.out, fun h => by cases h⟩
 ·go_wp2_with (go_at_call 45; refine HMM.out.mono ?_; rintro e w1 ⟨rfl, hq, hp⟩; have HQ := hide hq; have HP := hide (hp rfl); clear hq hp)
  go_ret
  exact ⟨rfl, (GQ.below 4 D HB.out).trans HQ.out, (by first | exact fun _ => HP.out | exact HP.out)⟩
set_option maxHeartbeats 4000000 in
theorem idx16St (D : Nat) (ga gb : Nat) (l : List ByteArray) (ok : Nat → Bool) (I : Nat → World → Prop) (hI : ∀ (i : Nat) (W W' : World), I i W → Below W.heap.size W W' → I i W') (hM : ∀ (i : Nat) (x : ByteArray) (W : World), l[i]? = some x → I i W → Calls Tryz.prog 45 #[.string x, .pointer (some ⟨ga, 0, none⟩), .pointer (some ⟨gb, 0, none⟩)] W (ST D (I (i + 1)) (ok i) W)) (gh : Nat) (a : Option Addr) (n c : Nat) (w : World) (hl : RS encSt 1 w a n l) (ho : OffD D a n) (hi : I 0 w) (hh : BX w gh #[.func (.func 45) #[] #[.pointer (some ⟨ga, 0, none⟩), .pointer (some ⟨gb, 0, none⟩)]] 52) (hg : gh < D ∨ D + 4 ≤ gh) :
  Calls Tryz.prog 74 #[.slice a n c, .func (.func 61) #[] #[.pointer (some ⟨gh, 0, none⟩)]] w fun e w' => ∃ z : Int, e = .returned (.int .i64 z) ∧ GQ 4 D w w' ∧ decide (z ≥ 0) = !allN n ok ∧ (allN n ok = true → I n w') := by
 have hmax := hl.2.1
 unfold maxLen at hmax
 have HL := hide hl
 have HO := hide ho
 have HH := hide hh
 have HONE := hide (one16St D ga gb l ok I hI hM )
 have HI0 := hide hi
 have HG0 := hide hg
 clear hl ho hh hi hM hI hg
 go_enter Tryz.func74, Tryz.ntmps74
 go_wp2
 go_loopw [8] (fun v wr => ∃ i : Nat, i ≤ n ∧ v = .int .i64 i ∧ Hid (GQ 4 D w wr) ∧ Hid (I i wr) ∧ Hid (allN i ok = true)) (fun v _ => n - (RowKit.intOf v).toNat)
 case atStart => exact ⟨0, by omega, rfl, GQ.refl 4 D w, HI0.out, by unfold Hid allN; rfl⟩
 case round =>
  obtain ⟨i, hi, rfl, HB, HI, HA⟩ := hrel
  by_cases hlt : i < n
  ·obtain ⟨x, hx⟩ : ∃ x, l[i]? = some x := ⟨_, List.getElem?_eq_getElem (by rw [HL.out.1]; exact hlt)⟩
   obtain ⟨g1, g2, g3⟩ := HL.out.gq HO.out HB.out
   rcases g3 with h0 | ⟨bp, off, ha, hc⟩
   ·omega
   subst ha
   have hc0 := hc i x hx
   clear hc
   have s0 : wr.cell? ⟨bp, off + i, none⟩ = some (.string x) := by simpa using hc0 0 _ rfl
   clear hc0
   have hi0 : (0 : Int) ≤ (i : Int) := by omega
   have hi1 : (i : Int) < (n : Int) := by omega
   have HS1 := hide (HONE.out gh i x wr hx HI.out (BX.gq HH.out HB.out HG0.out) HG0.out)
   clear hx
   rcases hz : ok i with _ | _
   ·have HZ : Hid (allN n ok = false) := allN_bad hlt hz
    rw [hz] at HS1
    clear hz
    go_wp2_with (go_at_call 61; refine HS1.out.mono ?_; rintro e w1 ⟨rfl, hq, hp⟩; have HQ := hide hq; clear hq hp; simp only [Bool.not_false])
    go_ret
    exact ⟨_, rfl, HB.out.trans HQ.out, (by rw [HZ.out]; simp), fun h => by rw [HZ.out] at h; cases h⟩
   ·have HZ : Hid (allN (i + 1) ok = true) := by unfold Hid; rw [allN_succ, HA.out, hz]; rfl
    rw [hz] at HS1
    clear hz
    go_wp2_with (go_at_call 61; refine HS1.out.mono ?_; rintro e w1 ⟨rfl, hq, hp⟩; have HQ := hide hq; have HP := hide (hp rfl); clear hq hp; simp only [Bool.not_true])
    go_roundw
    case rel => exact ⟨i + 1, by omega, by go_num, HB.out.trans HQ.out, HP.out, HZ.out⟩
    case measure => simp [RowKit.intOf]; omega
  ·obtain rfl : i = n := by omega
   go_wp2
   go_ret
   exact ⟨_, rfl, HB.out, (by rw [HA.out]; rfl), fun _ => HI.out⟩
set_option maxHeartbeats 2000000 in
theorem con16St (D : Nat) (ga gb : Nat) (l : List ByteArray) (ok : Nat → Bool) (I : Nat → World → Prop) (hI : ∀ (i : Nat) (W W' : World), I i W → Below W.heap.size W W' → I i W') (hM : ∀ (i : Nat) (x : ByteArray) (W : World), l[i]? = some x → I i W → Calls Tryz.prog 45 #[.string x, .pointer (some ⟨ga, 0, none⟩), .pointer (some ⟨gb, 0, none⟩)] W (ST D (I (i + 1)) (ok i) W)) (gh : Nat) (a : Option Addr) (n c : Nat) (w : World) (hl : RS encSt 1 w a n l) (ho : OffD D a n) (hi : I 0 w) (hh : BX w gh #[.func (.func 45) #[] #[.pointer (some ⟨ga, 0, none⟩), .pointer (some ⟨gb, 0, none⟩)]] 52) (hg : gh < D ∨ D + 4 ≤ gh) :
  Calls Tryz.prog 60 #[.slice a n c, .func (.func 61) #[] #[.pointer (some ⟨gh, 0, none⟩)]] w fun e w' => e = .returned (.bool (!allN n ok)) ∧ GQ 4 D w w' ∧ (allN n ok = true → I n w') := by
 have HX := hide (idx16St D ga gb l ok I hI hM gh a n c w hl ho hi hh hg)
 clear hl ho hh hi hM hI hg
 go_enter Tryz.func60, Tryz.ntmps60
 go_wp2_with (go_at_call 74; refine HX.out.mono ?_; rintro e w1 ⟨z, rfl, hq, hz, hp⟩; have HQ := hide hq; have HZ := hide hz; have HP := hide hp; clear hq hz hp)
 go_ret
 exact ⟨retB HZ.out, HQ.out, HP.out⟩
set_option maxHeartbeats 2000000 in
theorem all16St (D : Nat) (ga gb : Nat) (l : List ByteArray) (ok : Nat → Bool) (I : Nat → World → Prop) (hI : ∀ (i : Nat) (W W' : World), I i W → Below W.heap.size W W' → I i W') (hM : ∀ (i : Nat) (x : ByteArray) (W : World), l[i]? = some x → I i W → Calls Tryz.prog 45 #[.string x, .pointer (some ⟨ga, 0, none⟩), .pointer (some ⟨gb, 0, none⟩)] W (ST D (I (i + 1)) (ok i) W)) (a : Option Addr) (n c : Nat) (w : World) (hl : RS encSt 1 w a n l) (ho : OffD D a n) (hi : I 0 w) (hD : D + 4 ≤ w.heap.size) :
  Calls Tryz.prog 44 #[.slice a n c, .func (.func 45) #[] #[.pointer (some ⟨ga, 0, none⟩), .pointer (some ⟨gb, 0, none⟩)]] w (ST D (I n) (allN n ok) w) := by
 have HX := hide (con16St D ga gb l ok I hI hM w.heap.size a n c (w.alloc (.cells #[.func (.func 45) #[] #[.pointer (some ⟨ga, 0, none⟩), .pointer (some ⟨gb, 0, none⟩)]] 52)) (hl.alloc _) ho (hI 0 _ _ hi (bel1 w _)) (BX.new w _ rfl _ _) (.inr hD))
 have HB := hide (bel1 w (.cells #[.func (.func 45) #[] #[.pointer (some ⟨ga, 0, none⟩), .pointer (some ⟨gb, 0, none⟩)]] 52))
 have hmf : ∀ (fn : Fn) (first cap : Array Value) (w : World), (Instr.makeFunc fn first cap).run Tryz.prog w = .ok (.func fn first cap) w := fun _ _ _ _ => rfl
 clear hl ho hi hM hI
 obtain ⟨z, hz⟩ : ∃ z, allN n ok = z := ⟨_, rfl⟩
 rw [hz] at HX ⊢
 clear hz
 go_enter Tryz.func44, Tryz.ntmps44
 cases z
 ·go_wp2_with (go_at_call 60; refine HX.out.mono ?_; rintro e w1 ⟨rfl, hq, hp⟩; have HQ := hide hq; clear hq hp)
  go_ret
  exact ⟨rfl, (GQ.below 4 D HB.out).trans HQ.out, fun h => by cases h⟩
 ·go_wp2_with (go_at_call 60; refine HX.out.mono ?_; rintro e w1 ⟨rfl, hq, hp⟩; have HQ := hide hq; have HP := hide (hp rfl); clear hq hp)
  go_ret
  exact ⟨rfl, (GQ.below 4 D HB.out).trans HQ.out, (by first | exact fun _ => HP.out | exact HP.out)⟩
end Go.Proofs.YtomppblgalepjaaGreatDoor

