/- Texts of this claim, joined: GT1. -/
import Derived.Deep.RegionWith
import Derived.Deep.CutBlock
import Derived.Deep.CutRange
import Derived.Test.YtkbbegbpkndebaaGreatJ10
import Derived.Test.YtkbbegbpkndebaaGreatJ4
/- Cells in memory; the document's May, Get, Same of layer 10; Light. -/
namespace Go.Proofs.YtkbbegbpkndebaaGreat
open Go.RowKit Go.Lib
set_option linter.unusedVariables false
def encC (x : Ce) : List Value := [.string x.1, .int .i64 x.2]
theorem encC_len (x : Ce) : (encC x).length = 2 := rfl
theorem encC_one (x : Ce) : ∀ v ∈ encC x, v.oneCell' = true := by
 intro v hv
 simp only [encC, List.mem_cons, List.not_mem_nil, or_false] at hv
 rcases hv with rfl | rfl <;> rfl
def TS (w : World) (a : Option Addr) (n : Nat) (s : List Ce) : Prop := RS encC 2 w a n s
theorem TS.below {w w' : World} {a : Option Addr} {n : Nat} {s : List Ce} (h : TS w a n s) (hb : Below w.heap.size w w') : TS w' a n s := RS.below h hb
theorem TS.nil (w : World) (p : Option Addr) : TS w p 0 [] := RS.nil w p
theorem TS.at {w : World} {b off n : Nat} {s : List Ce} (h : TS w (some ⟨b, off, none⟩) n s) (i : Nat) (hi : i < n) : ∃ (k : ByteArray) (m : Int), s[i]? = some (k, m) ∧ w.cell? ⟨b, off + i * 2, none⟩ = some (.string k) ∧ w.cell? ⟨b, off + i * 2 + 1, none⟩ = some (.int .i64 m) := by
 have hl : i < s.length := by rw [h.1]; exact hi
 have hx : s[i]? = some s[i] := List.getElem?_eq_getElem hl
 rcases h.2.2 with h0 | ⟨b', off', ha, hc⟩
 ·omega
 ·cases ha
  have q := hc i _ hx
  exact ⟨s[i].1, s[i].2, hx, q 0 _ rfl, q 1 _ rfl⟩
theorem TS.addr {w : World} {a : Option Addr} {n : Nat} {s : List Ce} (h : TS w a n s) (h0 : 0 < n) : ∃ b off, a = some ⟨b, off, none⟩ := by
 rcases h.2.2 with hz | ⟨b, off, ha, _⟩
 ·omega
 ·exact ⟨b, off, ha⟩
theorem wrapT {j : Nat} (h : j ≤ 9223372036854775807) : IntKind.i64.wrap (j : Int) = j := by simp [IntKind.wrap, IntKind.bits, IntKind.signed]; omega
theorem empT (k : ByteArray) : (k.toList == (⟨#[]⟩ : ByteArray).toList) = decide (k.size = 0) := by
 rw [eqK, Bool.eq_iff_iff, decide_eq_true_iff, decide_eq_true_iff]
 constructor
 ·rintro rfl; rfl
 ·intro h
  obtain ⟨⟨x⟩⟩ := k
  have : x.length = 0 := h
  rw [List.eq_nil_of_length_eq_zero this]
theorem neT {k : ByteArray} (h : ¬ k.size = 0) : ¬ k.toList = [] ∧ k.toList.isEmpty = false ∧ (k.toList == (⟨#[]⟩ : ByteArray).toList) = false := by
 have he := empT k
 rw [decide_eq_false h] at he
 have h0 : (⟨#[]⟩ : ByteArray).toList = [] := by rw [ByteArray.toList_eq]
 have hn : ¬ k.toList = [] := by
  intro q
  rw [q, h0] at he
  cases he
 refine ⟨hn, ?_, he⟩
 rcases hk : k.toList with _ | ⟨x, l⟩
 ·exact absurd hk hn
 ·rfl
theorem eqT {k : ByteArray} (h : k.size = 0) : k = ⟨#[]⟩ := by
 have he := empT k
 rw [decide_eq_true h, eqK, decide_eq_true_iff] at he
 exact he
set_option maxHeartbeats 8000000 in
theorem May10_ref (a : Option Addr) (n cap : Nat) (s : List Ce) (w : World) (hA : TS w a n s) : Calls Tryz.prog 41 #[.slice a n cap] w fun e w' => e = .returned (.bool (mayT s)) ∧ Below w.heap.size w w' := by
 have HV := hide hA
 have hmx := hA.2.1
 have HLEN := hide hA.1
 unfold maxLen at hmx
 clear hA
 go_enter Tryz.func41, Tryz.ntmps41
 go_wp2
 go_loopw [3] (fun i wr => ∃ k : Nat, k ≤ n ∧ i = .int .i64 k ∧ Hid ((s.take k).all mayCe = true ∧ SrtG kC (s.take k)) ∧ Hid (Below w.heap.size w wr)) (fun i _ => n - (intOf i).toNat)
 case atStart => exact ⟨0, by omega, rfl, (show _ ∧ _ by simp [SrtG]), Below.refl _ _⟩
 case round =>
  obtain ⟨k0, hk, rfl, HF, HB⟩ := hrel
  by_cases hlt : k0 < n
  ·obtain ⟨b, off, rfl⟩ := HV.out.addr (by omega)
   obtain ⟨k, m, hx, c0, c1⟩ := (HV.out.below HB.out).at k0 hlt
   have hk0 : (0 : Int) ≤ (k0 : Int) := by omega
   have hk1 : (k0 : Int) < (n : Int) := by omega
   have HX := hide hx
   clear hx
   go_upto_region 5 with fail
   have HB2 : Hid (Below w.heap.size w (wr.alloc (.cells #[.string k, .int .i64 m] 129))) := HB.out.alloc HB.out.size _
   have d0 := cell_new wr #[.string k, .int .i64 m] 129 _ rfl 0 _ rfl
   have d1 := cell_new wr #[.string k, .int .i64 m] 129 _ rfl 1 _ rfl
   generalize hgb : wr.heap.size = gb at *
   have HV2 := hide (HV.out.below HB2.out)
   clear c0 c1 HB
   generalize wr.alloc (.cells #[.string k, .int .i64 m] 129) = u at *
   clear hgb
   by_cases k1 : k.size = 0
   ·have HNO : Hid (mayT s = false) := mayG_no HX.out (by simp [mayCe, mayK, k1])
    have k2 := eqT k1
    subst k2
    clear k1
    refine wp_region_held_drew (S := fun W => Below u.heap.size u W) (by kernel_rfl) ((Below.refl _ u).drew) (fun hS0 => ?_)
    refine tkJ 0 15 hS0 ?_; simp only [ly]
    refine tkL 1 16 hS0 ?h ?_; case h => (intro W hW; have e0 := bcell hW d0; have e1 := bcell hW d1; clear hW; go_simp; try rfl); simp only [ly]
    refine tkJ 2 17 hS0 ?_; simp only [ly]
    refine tkJ 3 18 hS0 ?_; simp only [ly]
    refine tkM 4 19 hS0 ?_; simp only [ly]
    refine tkM 5 20 hS0 ?_; simp only [ly]
    refine tkM 6 21 hS0 ?_; simp only [ly]
    refine tkM 7 22 hS0 ?_; simp only [ly]
    refine tkJ 8 23 hS0 ?_; simp only [ly]
    refine tkJ 9 24 hS0 ?_; simp only [ly]
    refine tkM 10 25 hS0 ?_; simp only [ly]
    refine tkM 11 26 hS0 ?_; simp only [ly]
    refine tkM 12 27 hS0 ?_; simp only [ly]
    refine tkJ 13 28 hS0 ?_; simp only [ly]
    refine tkJ 14 29 hS0 ?_; simp only [ly]
    refine tkM 15 30 hS0 ?_; simp only [ly]
    refine tkM 16 31 hS0 ?_; simp only [ly]
    refine tkM 17 32 hS0 ?_; simp only [ly]
    refine tkJ 18 33 hS0 ?_; simp only [ly]
    refine tkJ 19 34 hS0 ?_; simp only [ly]
    refine tkM 20 35 hS0 ?_; simp only [ly]
    refine tkM 21 36 hS0 ?_; simp only [ly]
    refine tkM 22 37 hS0 ?_; simp only [ly]
    refine tkJ 23 38 hS0 ?_; simp only [ly]
    refine tkJ 24 39 hS0 ?_; simp only [ly]
    refine tkM 25 40 hS0 ?_; simp only [ly]
    refine tkM 26 41 hS0 ?_; simp only [ly]
    refine tkM 27 42 hS0 ?_; simp only [ly]
    refine tkM 28 43 hS0 ?_; simp only [ly]
    refine tkM 29 44 hS0 ?_; simp only [ly]
    refine tkM 30 45 hS0 ?_; simp only [ly]
    refine tkM 31 46 hS0 ?_; simp only [ly]
    refine tkM 32 47 hS0 ?_; simp only [ly]
    refine tkM 33 48 hS0 ?_; simp only [ly]
    refine tkM 34 49 hS0 ?_; simp only [ly]
    refine tkM 35 50 hS0 ?_; simp only [ly]
    refine tkM 36 51 hS0 ?_; simp only [ly]
    refine tkM 37 52 hS0 ?_; simp only [ly]
    refine tkJ 38 53 hS0 ?_; simp only [ly]
    refine wpAnyH_done (by kernel_rfl) ?_ _
    go_wp2
    go_ret
    exact ⟨by rw [HNO.out]; rfl, bel_next HB2.out hS0⟩
   ·obtain ⟨k2, k3, k4⟩ := neT k1
    by_cases k5 : (k.size : Int) ≤ 32
    ·have k7 : decide ((32 : Int) < (k.size : Int)) = false := decide_eq_false (by omega)
     by_cases m1 : m = 0
     ·subst m1
      have HNO : Hid (mayT s = false) := mayG_no HX.out (by simp [mayCe])
      refine wp_region_held_drew (S := fun W => Below u.heap.size u W) (by kernel_rfl) ((Below.refl _ u).drew) (fun hS0 => ?_)
      refine tkJ 0 15 hS0 ?_; simp only [ly]
      refine tkL 1 16 hS0 ?h ?_; case h => (intro W hW; have e0 := bcell hW d0; have e1 := bcell hW d1; clear hW; go_simp; try rfl); simp only [ly]
      refine tkJ 2 17 hS0 ?_; simp only [ly]
      refine tkJ 3 18 hS0 ?_; simp only [ly]
      refine tkJ 4 19 hS0 ?_; simp only [ly]
      refine tkL 5 20 hS0 ?h ?_; case h => (intro W hW; have e0 := bcell hW d0; have e1 := bcell hW d1; clear hW; go_simp; try rfl); simp only [ly]
      refine tkJ 6 21 hS0 ?_; simp only [ly]
      refine tkJ 7 22 hS0 ?_; simp only [ly]
      refine tkJ 8 23 hS0 ?_; simp only [ly]
      refine tkJ 9 24 hS0 ?_; simp only [ly]
      refine tkJ 10 25 hS0 ?_; simp only [ly]
      refine tkL 11 26 hS0 ?h ?_; case h => (intro W hW; have e0 := bcell hW d0; have e1 := bcell hW d1; clear hW; go_simp; try rfl); simp only [ly]
      refine tkJ 12 27 hS0 ?_; simp only [ly]
      refine tkJ 13 28 hS0 ?_; simp only [ly]
      refine tkJ 14 29 hS0 ?_; simp only [ly]
      refine tkM 15 30 hS0 ?_; simp only [ly]
      refine tkM 16 31 hS0 ?_; simp only [ly]
      refine tkM 17 32 hS0 ?_; simp only [ly]
      refine tkJ 18 33 hS0 ?_; simp only [ly]
      refine tkJ 19 34 hS0 ?_; simp only [ly]
      refine tkM 20 35 hS0 ?_; simp only [ly]
      refine tkM 21 36 hS0 ?_; simp only [ly]
      refine tkM 22 37 hS0 ?_; simp only [ly]
      refine tkJ 23 38 hS0 ?_; simp only [ly]
      refine tkJ 24 39 hS0 ?_; simp only [ly]
      refine tkM 25 40 hS0 ?_; simp only [ly]
      refine tkM 26 41 hS0 ?_; simp only [ly]
      refine tkM 27 42 hS0 ?_; simp only [ly]
      refine tkM 28 43 hS0 ?_; simp only [ly]
      refine tkM 29 44 hS0 ?_; simp only [ly]
      refine tkM 30 45 hS0 ?_; simp only [ly]
      refine tkM 31 46 hS0 ?_; simp only [ly]
      refine tkM 32 47 hS0 ?_; simp only [ly]
      refine tkM 33 48 hS0 ?_; simp only [ly]
      refine tkM 34 49 hS0 ?_; simp only [ly]
      refine tkM 35 50 hS0 ?_; simp only [ly]
      refine tkM 36 51 hS0 ?_; simp only [ly]
      refine tkM 37 52 hS0 ?_; simp only [ly]
      refine tkJ 38 53 hS0 ?_; simp only [ly]
      refine wpAnyH_done (by kernel_rfl) ?_ _
      go_wp2
      go_ret
      exact ⟨by rw [HNO.out]; rfl, bel_next HB2.out hS0⟩
     ·have m2 : (m == 0) = false := by rw [beq_eq_false_iff_ne]; exact m1
      by_cases m3 : m ≤ 1099511627776
      ·have m5 : ¬ (1099511627776 < m) := by omega
       have m7 : decide ((1099511627776 : Int) < m) = false := decide_eq_false m5
       by_cases m4 : -1099511627776 ≤ m
       ·have m6 : ¬ (m < -1099511627776) := by omega
        have m8 : decide (m < (-1099511627776 : Int)) = false := decide_eq_false m6
        have HMC : Hid (mayCe (k, m) = true) := mayCe_iff.2 ⟨by simp [mayK]; omega, m1, by unfold big40; omega, by unfold big40; omega⟩
        rcases k0 with _ | j
        ·have HF2 := hide (stepG HX.out HF.out HMC.out (fun j c h => by omega))
         refine wp_region_held_drew (S := fun W => Below u.heap.size u W) (by kernel_rfl) ((Below.refl _ u).drew) (fun hS0 => ?_)
         refine tkJ 0 15 hS0 ?_; simp only [ly]
         refine tkL 1 16 hS0 ?h ?_; case h => (intro W hW; have e0 := bcell hW d0; have e1 := bcell hW d1; clear hW; go_simp; try rfl); simp only [ly]
         refine tkJ 2 17 hS0 ?_; simp only [ly]
         refine tkJ 3 18 hS0 ?_; simp only [ly]
         refine tkJ 4 19 hS0 ?_; simp only [ly]
         refine tkL 5 20 hS0 ?h ?_; case h => (intro W hW; have e0 := bcell hW d0; have e1 := bcell hW d1; clear hW; go_simp; try rfl); simp only [ly]
         refine tkJ 6 21 hS0 ?_; simp only [ly]
         refine tkJ 7 22 hS0 ?_; simp only [ly]
         refine tkJ 8 23 hS0 ?_; simp only [ly]
         refine tkJ 9 24 hS0 ?_; simp only [ly]
         refine tkJ 10 25 hS0 ?_; simp only [ly]
         refine tkL 11 26 hS0 ?h ?_; case h => (intro W hW; have e0 := bcell hW d0; have e1 := bcell hW d1; clear hW; go_simp; try rfl); simp only [ly]
         refine tkJ 12 27 hS0 ?_; simp only [ly]
         refine tkJ 13 28 hS0 ?_; simp only [ly]
         refine tkJ 14 29 hS0 ?_; simp only [ly]
         refine tkJ 15 30 hS0 ?_; simp only [ly]
         refine tkL 16 31 hS0 ?h ?_; case h => (intro W hW; have e0 := bcell hW d0; have e1 := bcell hW d1; clear hW; go_simp; try rfl); simp only [ly]
         refine tkJ 17 32 hS0 ?_; simp only [ly]
         refine tkJ 18 33 hS0 ?_; simp only [ly]
         refine tkJ 19 34 hS0 ?_; simp only [ly]
         refine tkJ 20 35 hS0 ?_; simp only [ly]
         refine tkL 21 36 hS0 ?h ?_; case h => (intro W hW; have e0 := bcell hW d0; have e1 := bcell hW d1; clear hW; go_simp; try rfl); simp only [ly]
         refine tkJ 22 37 hS0 ?_; simp only [ly]
         refine tkJ 23 38 hS0 ?_; simp only [ly]
         refine tkJ 24 39 hS0 ?_; simp only [ly]
         refine tkJ 25 40 hS0 ?_; simp only [ly]
         refine tkJ 26 41 hS0 ?_; simp only [ly]
         refine tkJ 27 42 hS0 ?_; simp only [ly]
         refine tkM 28 43 hS0 ?_; simp only [ly]
         refine tkM 29 44 hS0 ?_; simp only [ly]
         refine tkM 30 45 hS0 ?_; simp only [ly]
         refine tkM 31 46 hS0 ?_; simp only [ly]
         refine tkM 32 47 hS0 ?_; simp only [ly]
         refine tkM 33 48 hS0 ?_; simp only [ly]
         refine tkM 34 49 hS0 ?_; simp only [ly]
         refine tkM 35 50 hS0 ?_; simp only [ly]
         refine tkM 36 51 hS0 ?_; simp only [ly]
         refine tkJ 37 52 hS0 ?_; simp only [ly]
         refine tkJ 38 53 hS0 ?_; simp only [ly]
         refine wpAnyH_done (by kernel_rfl) ?_ _
         go_wp2
         go_roundw
         case rel => exact ⟨0 + 1, by omega, by go_num, HF2, (show Hid _ from bel_next HB2.out hS0)⟩
         case measure => simp [intOf]; omega
        ·obtain ⟨kp, mp, hp, p0, p1⟩ := HV2.out.at j (by omega)
         have HP := hide hp
         clear hp
         have hwj := wrapT (show j ≤ 9223372036854775807 by omega)
         have hj0 : ((j : Int)) + 1 < (n : Int) := by omega
         have hj1 : (j : Int) < (n : Int) := by omega
         have hj2 : (0 : Int) ≤ (j : Int) := by omega
         rcases hl : Op.bytesLess kp.toList k.toList with _ | _
         ·have HNO : Hid (mayT s = false) := mayG_less HP.out HX.out hl
          refine wp_region_held_drew (S := fun W => Below u.heap.size u W) (by kernel_rfl) ((Below.refl _ u).drew) (fun hS0 => ?_)
          refine tkJ 0 15 hS0 ?_; simp only [ly]
          refine tkL 1 16 hS0 ?h ?_; case h => (intro W hW; have e0 := bcell hW d0; have e1 := bcell hW d1; have e2 := bcell hW p0; clear hW; go_simp; try rfl); simp only [ly]
          refine tkJ 2 17 hS0 ?_; simp only [ly]
          refine tkJ 3 18 hS0 ?_; simp only [ly]
          refine tkJ 4 19 hS0 ?_; simp only [ly]
          refine tkL 5 20 hS0 ?h ?_; case h => (intro W hW; have e0 := bcell hW d0; have e1 := bcell hW d1; have e2 := bcell hW p0; clear hW; go_simp; try rfl); simp only [ly]
          refine tkJ 6 21 hS0 ?_; simp only [ly]
          refine tkJ 7 22 hS0 ?_; simp only [ly]
          refine tkJ 8 23 hS0 ?_; simp only [ly]
          refine tkJ 9 24 hS0 ?_; simp only [ly]
          refine tkJ 10 25 hS0 ?_; simp only [ly]
          refine tkL 11 26 hS0 ?h ?_; case h => (intro W hW; have e0 := bcell hW d0; have e1 := bcell hW d1; have e2 := bcell hW p0; clear hW; go_simp; try rfl); simp only [ly]
          refine tkJ 12 27 hS0 ?_; simp only [ly]
          refine tkJ 13 28 hS0 ?_; simp only [ly]
          refine tkJ 14 29 hS0 ?_; simp only [ly]
          refine tkJ 15 30 hS0 ?_; simp only [ly]
          refine tkL 16 31 hS0 ?h ?_; case h => (intro W hW; have e0 := bcell hW d0; have e1 := bcell hW d1; have e2 := bcell hW p0; clear hW; go_simp; try rfl); simp only [ly]
          refine tkJ 17 32 hS0 ?_; simp only [ly]
          refine tkJ 18 33 hS0 ?_; simp only [ly]
          refine tkJ 19 34 hS0 ?_; simp only [ly]
          refine tkJ 20 35 hS0 ?_; simp only [ly]
          refine tkL 21 36 hS0 ?h ?_; case h => (intro W hW; have e0 := bcell hW d0; have e1 := bcell hW d1; have e2 := bcell hW p0; clear hW; go_simp; try rfl); simp only [ly]
          refine tkJ 22 37 hS0 ?_; simp only [ly]
          refine tkJ 23 38 hS0 ?_; simp only [ly]
          refine tkJ 24 39 hS0 ?_; simp only [ly]
          refine tkJ 25 40 hS0 ?_; simp only [ly]
          refine tkJ 26 41 hS0 ?_; simp only [ly]
          refine tkJ 27 42 hS0 ?_; simp only [ly]
          refine tkJ 28 43 hS0 ?_; simp only [ly]
          refine tkJ 29 44 hS0 ?_; simp only [ly]
          refine tkJ 30 45 hS0 ?_; simp only [ly]
          refine tkJ 31 46 hS0 ?_; simp only [ly]
          refine tkJ 32 47 hS0 ?_; simp only [ly]
          refine tkL 33 48 hS0 ?h ?_; case h => (intro W hW; have e0 := bcell hW d0; have e1 := bcell hW d1; have e2 := bcell hW p0; clear hW; go_simp; try rfl); simp only [ly]
          refine tkJ 34 49 hS0 ?_; simp only [ly]
          refine tkL 35 50 hS0 ?h ?_; case h => (intro W hW; have e0 := bcell hW d0; have e1 := bcell hW d1; have e2 := bcell hW p0; clear hW; go_simp; try rfl); simp only [ly]
          refine tkJ 36 51 hS0 ?_; simp only [ly]
          refine tkJ 37 52 hS0 ?_; simp only [ly]
          refine tkJ 38 53 hS0 ?_; simp only [ly]
          refine wpAnyH_done (by kernel_rfl) ?_ _
          go_wp2
          go_ret
          exact ⟨by rw [HNO.out]; rfl, bel_next HB2.out hS0⟩
         ·have HF2 := hide (stepGS HX.out HP.out HF.out HMC.out hl)
          refine wp_region_held_drew (S := fun W => Below u.heap.size u W) (by kernel_rfl) ((Below.refl _ u).drew) (fun hS0 => ?_)
          refine tkJ 0 15 hS0 ?_; simp only [ly]
          refine tkL 1 16 hS0 ?h ?_; case h => (intro W hW; have e0 := bcell hW d0; have e1 := bcell hW d1; have e2 := bcell hW p0; clear hW; go_simp; try rfl); simp only [ly]
          refine tkJ 2 17 hS0 ?_; simp only [ly]
          refine tkJ 3 18 hS0 ?_; simp only [ly]
          refine tkJ 4 19 hS0 ?_; simp only [ly]
          refine tkL 5 20 hS0 ?h ?_; case h => (intro W hW; have e0 := bcell hW d0; have e1 := bcell hW d1; have e2 := bcell hW p0; clear hW; go_simp; try rfl); simp only [ly]
          refine tkJ 6 21 hS0 ?_; simp only [ly]
          refine tkJ 7 22 hS0 ?_; simp only [ly]
          refine tkJ 8 23 hS0 ?_; simp only [ly]
          refine tkJ 9 24 hS0 ?_; simp only [ly]
          refine tkJ 10 25 hS0 ?_; simp only [ly]
          refine tkL 11 26 hS0 ?h ?_; case h => (intro W hW; have e0 := bcell hW d0; have e1 := bcell hW d1; have e2 := bcell hW p0; clear hW; go_simp; try rfl); simp only [ly]
          refine tkJ 12 27 hS0 ?_; simp only [ly]
          refine tkJ 13 28 hS0 ?_; simp only [ly]
          refine tkJ 14 29 hS0 ?_; simp only [ly]
          refine tkJ 15 30 hS0 ?_; simp only [ly]
          refine tkL 16 31 hS0 ?h ?_; case h => (intro W hW; have e0 := bcell hW d0; have e1 := bcell hW d1; have e2 := bcell hW p0; clear hW; go_simp; try rfl); simp only [ly]
          refine tkJ 17 32 hS0 ?_; simp only [ly]
          refine tkJ 18 33 hS0 ?_; simp only [ly]
          refine tkJ 19 34 hS0 ?_; simp only [ly]
          refine tkJ 20 35 hS0 ?_; simp only [ly]
          refine tkL 21 36 hS0 ?h ?_; case h => (intro W hW; have e0 := bcell hW d0; have e1 := bcell hW d1; have e2 := bcell hW p0; clear hW; go_simp; try rfl); simp only [ly]
          refine tkJ 22 37 hS0 ?_; simp only [ly]
          refine tkJ 23 38 hS0 ?_; simp only [ly]
          refine tkJ 24 39 hS0 ?_; simp only [ly]
          refine tkJ 25 40 hS0 ?_; simp only [ly]
          refine tkJ 26 41 hS0 ?_; simp only [ly]
          refine tkJ 27 42 hS0 ?_; simp only [ly]
          refine tkJ 28 43 hS0 ?_; simp only [ly]
          refine tkJ 29 44 hS0 ?_; simp only [ly]
          refine tkJ 30 45 hS0 ?_; simp only [ly]
          refine tkJ 31 46 hS0 ?_; simp only [ly]
          refine tkJ 32 47 hS0 ?_; simp only [ly]
          refine tkL 33 48 hS0 ?h ?_; case h => (intro W hW; have e0 := bcell hW d0; have e1 := bcell hW d1; have e2 := bcell hW p0; clear hW; go_simp; try rfl); simp only [ly]
          refine tkJ 34 49 hS0 ?_; simp only [ly]
          refine tkL 35 50 hS0 ?h ?_; case h => (intro W hW; have e0 := bcell hW d0; have e1 := bcell hW d1; have e2 := bcell hW p0; clear hW; go_simp; try rfl); simp only [ly]
          refine tkJ 36 51 hS0 ?_; simp only [ly]
          refine tkJ 37 52 hS0 ?_; simp only [ly]
          refine tkJ 38 53 hS0 ?_; simp only [ly]
          refine wpAnyH_done (by kernel_rfl) ?_ _
          go_wp2
          go_roundw
          case rel => exact ⟨j + 1 + 1, by omega, by go_num, HF2, (show Hid _ from bel_next HB2.out hS0)⟩
          case measure => simp [intOf]; omega
       ·have m6 : m < -1099511627776 := by omega
        have m8 : decide (m < (-1099511627776 : Int)) = true := decide_eq_true m6
        have HNO : Hid (mayT s = false) := mayG_no HX.out (by
         rcases hb : mayCe (k, m) with _ | _
         ·rfl
         ·have := (mayCe_iff.1 hb).2.2.1
          unfold big40 at this
          exact absurd this m4)
        refine wp_region_held_drew (S := fun W => Below u.heap.size u W) (by kernel_rfl) ((Below.refl _ u).drew) (fun hS0 => ?_)
        refine tkJ 0 15 hS0 ?_; simp only [ly]
        refine tkL 1 16 hS0 ?h ?_; case h => (intro W hW; have e0 := bcell hW d0; have e1 := bcell hW d1; clear hW; go_simp; try rfl); simp only [ly]
        refine tkJ 2 17 hS0 ?_; simp only [ly]
        refine tkJ 3 18 hS0 ?_; simp only [ly]
        refine tkJ 4 19 hS0 ?_; simp only [ly]
        refine tkL 5 20 hS0 ?h ?_; case h => (intro W hW; have e0 := bcell hW d0; have e1 := bcell hW d1; clear hW; go_simp; try rfl); simp only [ly]
        refine tkJ 6 21 hS0 ?_; simp only [ly]
        refine tkJ 7 22 hS0 ?_; simp only [ly]
        refine tkJ 8 23 hS0 ?_; simp only [ly]
        refine tkJ 9 24 hS0 ?_; simp only [ly]
        refine tkJ 10 25 hS0 ?_; simp only [ly]
        refine tkL 11 26 hS0 ?h ?_; case h => (intro W hW; have e0 := bcell hW d0; have e1 := bcell hW d1; clear hW; go_simp; try rfl); simp only [ly]
        refine tkJ 12 27 hS0 ?_; simp only [ly]
        refine tkJ 13 28 hS0 ?_; simp only [ly]
        refine tkJ 14 29 hS0 ?_; simp only [ly]
        refine tkJ 15 30 hS0 ?_; simp only [ly]
        refine tkL 16 31 hS0 ?h ?_; case h => (intro W hW; have e0 := bcell hW d0; have e1 := bcell hW d1; clear hW; go_simp; try rfl); simp only [ly]
        refine tkJ 17 32 hS0 ?_; simp only [ly]
        refine tkJ 18 33 hS0 ?_; simp only [ly]
        refine tkJ 19 34 hS0 ?_; simp only [ly]
        refine tkJ 20 35 hS0 ?_; simp only [ly]
        refine tkL 21 36 hS0 ?h ?_; case h => (intro W hW; have e0 := bcell hW d0; have e1 := bcell hW d1; clear hW; go_simp; try rfl); simp only [ly]
        refine tkJ 22 37 hS0 ?_; simp only [ly]
        refine tkJ 23 38 hS0 ?_; simp only [ly]
        refine tkJ 24 39 hS0 ?_; simp only [ly]
        refine tkM 25 40 hS0 ?_; simp only [ly]
        refine tkM 26 41 hS0 ?_; simp only [ly]
        refine tkM 27 42 hS0 ?_; simp only [ly]
        refine tkM 28 43 hS0 ?_; simp only [ly]
        refine tkM 29 44 hS0 ?_; simp only [ly]
        refine tkM 30 45 hS0 ?_; simp only [ly]
        refine tkM 31 46 hS0 ?_; simp only [ly]
        refine tkM 32 47 hS0 ?_; simp only [ly]
        refine tkM 33 48 hS0 ?_; simp only [ly]
        refine tkM 34 49 hS0 ?_; simp only [ly]
        refine tkM 35 50 hS0 ?_; simp only [ly]
        refine tkM 36 51 hS0 ?_; simp only [ly]
        refine tkM 37 52 hS0 ?_; simp only [ly]
        refine tkJ 38 53 hS0 ?_; simp only [ly]
        refine wpAnyH_done (by kernel_rfl) ?_ _
        go_wp2
        go_ret
        exact ⟨by rw [HNO.out]; rfl, bel_next HB2.out hS0⟩
      ·have m5 : 1099511627776 < m := by omega
       have m7 : decide ((1099511627776 : Int) < m) = true := decide_eq_true m5
       have HNO : Hid (mayT s = false) := mayG_no HX.out (by
        rcases hb : mayCe (k, m) with _ | _
        ·rfl
        ·have := (mayCe_iff.1 hb).2.2.2
         unfold big40 at this
         exact absurd this m3)
       refine wp_region_held_drew (S := fun W => Below u.heap.size u W) (by kernel_rfl) ((Below.refl _ u).drew) (fun hS0 => ?_)
       refine tkJ 0 15 hS0 ?_; simp only [ly]
       refine tkL 1 16 hS0 ?h ?_; case h => (intro W hW; have e0 := bcell hW d0; have e1 := bcell hW d1; clear hW; go_simp; try rfl); simp only [ly]
       refine tkJ 2 17 hS0 ?_; simp only [ly]
       refine tkJ 3 18 hS0 ?_; simp only [ly]
       refine tkJ 4 19 hS0 ?_; simp only [ly]
       refine tkL 5 20 hS0 ?h ?_; case h => (intro W hW; have e0 := bcell hW d0; have e1 := bcell hW d1; clear hW; go_simp; try rfl); simp only [ly]
       refine tkJ 6 21 hS0 ?_; simp only [ly]
       refine tkJ 7 22 hS0 ?_; simp only [ly]
       refine tkJ 8 23 hS0 ?_; simp only [ly]
       refine tkJ 9 24 hS0 ?_; simp only [ly]
       refine tkJ 10 25 hS0 ?_; simp only [ly]
       refine tkL 11 26 hS0 ?h ?_; case h => (intro W hW; have e0 := bcell hW d0; have e1 := bcell hW d1; clear hW; go_simp; try rfl); simp only [ly]
       refine tkJ 12 27 hS0 ?_; simp only [ly]
       refine tkJ 13 28 hS0 ?_; simp only [ly]
       refine tkJ 14 29 hS0 ?_; simp only [ly]
       refine tkJ 15 30 hS0 ?_; simp only [ly]
       refine tkL 16 31 hS0 ?h ?_; case h => (intro W hW; have e0 := bcell hW d0; have e1 := bcell hW d1; clear hW; go_simp; try rfl); simp only [ly]
       refine tkJ 17 32 hS0 ?_; simp only [ly]
       refine tkJ 18 33 hS0 ?_; simp only [ly]
       refine tkJ 19 34 hS0 ?_; simp only [ly]
       refine tkM 20 35 hS0 ?_; simp only [ly]
       refine tkM 21 36 hS0 ?_; simp only [ly]
       refine tkM 22 37 hS0 ?_; simp only [ly]
       refine tkJ 23 38 hS0 ?_; simp only [ly]
       refine tkJ 24 39 hS0 ?_; simp only [ly]
       refine tkM 25 40 hS0 ?_; simp only [ly]
       refine tkM 26 41 hS0 ?_; simp only [ly]
       refine tkM 27 42 hS0 ?_; simp only [ly]
       refine tkM 28 43 hS0 ?_; simp only [ly]
       refine tkM 29 44 hS0 ?_; simp only [ly]
       refine tkM 30 45 hS0 ?_; simp only [ly]
       refine tkM 31 46 hS0 ?_; simp only [ly]
       refine tkM 32 47 hS0 ?_; simp only [ly]
       refine tkM 33 48 hS0 ?_; simp only [ly]
       refine tkM 34 49 hS0 ?_; simp only [ly]
       refine tkM 35 50 hS0 ?_; simp only [ly]
       refine tkM 36 51 hS0 ?_; simp only [ly]
       refine tkM 37 52 hS0 ?_; simp only [ly]
       refine tkJ 38 53 hS0 ?_; simp only [ly]
       refine wpAnyH_done (by kernel_rfl) ?_ _
       go_wp2
       go_ret
       exact ⟨by rw [HNO.out]; rfl, bel_next HB2.out hS0⟩
    ·have k6 : (32 : Int) < (k.size : Int) := by omega
     have k7 : decide ((32 : Int) < (k.size : Int)) = true := decide_eq_true k6
     have HNO : Hid (mayT s = false) := mayG_no HX.out (by
      rcases hb : mayCe (k, m) with _ | _
      ·rfl
      ·have := (mayCe_iff.1 hb).1
       simp [mayK] at this
       omega)
     refine wp_region_held_drew (S := fun W => Below u.heap.size u W) (by kernel_rfl) ((Below.refl _ u).drew) (fun hS0 => ?_)
     refine tkJ 0 15 hS0 ?_; simp only [ly]
     refine tkL 1 16 hS0 ?h ?_; case h => (intro W hW; have e0 := bcell hW d0; have e1 := bcell hW d1; clear hW; go_simp; try rfl); simp only [ly]
     refine tkJ 2 17 hS0 ?_; simp only [ly]
     refine tkJ 3 18 hS0 ?_; simp only [ly]
     refine tkJ 4 19 hS0 ?_; simp only [ly]
     refine tkL 5 20 hS0 ?h ?_; case h => (intro W hW; have e0 := bcell hW d0; have e1 := bcell hW d1; clear hW; go_simp; try rfl); simp only [ly]
     refine tkJ 6 21 hS0 ?_; simp only [ly]
     refine tkJ 7 22 hS0 ?_; simp only [ly]
     refine tkJ 8 23 hS0 ?_; simp only [ly]
     refine tkJ 9 24 hS0 ?_; simp only [ly]
     refine tkM 10 25 hS0 ?_; simp only [ly]
     refine tkM 11 26 hS0 ?_; simp only [ly]
     refine tkM 12 27 hS0 ?_; simp only [ly]
     refine tkJ 13 28 hS0 ?_; simp only [ly]
     refine tkJ 14 29 hS0 ?_; simp only [ly]
     refine tkM 15 30 hS0 ?_; simp only [ly]
     refine tkM 16 31 hS0 ?_; simp only [ly]
     refine tkM 17 32 hS0 ?_; simp only [ly]
     refine tkJ 18 33 hS0 ?_; simp only [ly]
     refine tkJ 19 34 hS0 ?_; simp only [ly]
     refine tkM 20 35 hS0 ?_; simp only [ly]
     refine tkM 21 36 hS0 ?_; simp only [ly]
     refine tkM 22 37 hS0 ?_; simp only [ly]
     refine tkJ 23 38 hS0 ?_; simp only [ly]
     refine tkJ 24 39 hS0 ?_; simp only [ly]
     refine tkM 25 40 hS0 ?_; simp only [ly]
     refine tkM 26 41 hS0 ?_; simp only [ly]
     refine tkM 27 42 hS0 ?_; simp only [ly]
     refine tkM 28 43 hS0 ?_; simp only [ly]
     refine tkM 29 44 hS0 ?_; simp only [ly]
     refine tkM 30 45 hS0 ?_; simp only [ly]
     refine tkM 31 46 hS0 ?_; simp only [ly]
     refine tkM 32 47 hS0 ?_; simp only [ly]
     refine tkM 33 48 hS0 ?_; simp only [ly]
     refine tkM 34 49 hS0 ?_; simp only [ly]
     refine tkM 35 50 hS0 ?_; simp only [ly]
     refine tkM 36 51 hS0 ?_; simp only [ly]
     refine tkM 37 52 hS0 ?_; simp only [ly]
     refine tkJ 38 53 hS0 ?_; simp only [ly]
     refine wpAnyH_done (by kernel_rfl) ?_ _
     go_wp2
     go_ret
     exact ⟨by rw [HNO.out]; rfl, bel_next HB2.out hS0⟩
  ·obtain rfl : k0 = n := by omega
   have HR : Hid (mayT s = decide (k0 ≤ 4000)) := by
    have h := HF.out
    rw [← HLEN.out, List.take_length] at h
    unfold Hid
    rw [Bool.eq_iff_iff, mayG_iff, decide_eq_true_iff, HLEN.out]
    exact ⟨fun q => q.2.2, fun q => ⟨by simpa using h.1, h.2, q⟩⟩
   clear HF
   by_cases h4 : (k0 : Int) ≤ 4000
   ·go_wp2
    go_ret
    exact ⟨by rw [HR.out, decide_eq_true (by omega)]; rfl, HB.out⟩
   ·go_wp2
    go_ret
    exact ⟨by rw [HR.out, decide_eq_false (by omega)]; rfl, HB.out⟩
def LightT (n : Nat) (s : List Ce) (w : World) (e : Ending) (w' : World) : Prop := ∃ b : Bool, e = .returned (.bool b) ∧ (b = true → n ≤ 60 ∧ ∀ x ∈ s, x.1.size ≤ 100) ∧ w' = w
set_option maxHeartbeats 2000000 in
theorem light10 (a : Option Addr) (n cap : Nat) (s : List Ce) (w : World) (hA : TS w a n s) : Calls Tryz.prog 36 #[.slice a n cap] w (LightT n s w) := by
 have HV := hide hA
 have HLEN := hide hA.1
 have hmx := hA.2.1
 unfold maxLen at hmx
 clear hA
 go_enter Tryz.func36, Tryz.ntmps36
 go_wp2
 go_loopw [3] (fun i wr => ∃ k : Nat, k ≤ n ∧ k ≤ 61 ∧ i = .int .i64 k ∧ Hid (∀ x ∈ s.take k, x.1.size ≤ 100) ∧ wr = w) (fun i _ => n - (intOf i).toNat)
 case atStart => exact ⟨0, by omega, by omega, rfl, (fun x hx => by simp at hx), rfl⟩
 case round =>
  obtain ⟨k0, hk, hk2, rfl, HF, hw⟩ := hrel
  subst hw
  by_cases hlt : k0 < n
  ·by_cases hk30 : (k0 : Int) ≤ 60
   ·obtain ⟨b, off, rfl⟩ := HV.out.addr (by omega)
    obtain ⟨k, m, hx, c0, c1⟩ := HV.out.at k0 hlt
    have hk0 : (0 : Int) ≤ (k0 : Int) := by omega
    have hk1 : (k0 : Int) < (n : Int) := by omega
    by_cases q1 : (k.size : Int) ≤ 100
    ·have HF2 : Hid (∀ x ∈ s.take (k0 + 1), x.1.size ≤ 100) := by
      intro x hx'
      rw [takeG_snoc hx] at hx'
      rcases List.mem_append.1 hx' with q | q
      ·exact HF.out x q
      ·simp at q
       subst q
       simp only
       omega
     clear hx
     go_wp2
     go_roundw
     case rel => exact ⟨k0 + 1, by omega, by omega, by go_num, HF2, trivial⟩
     case measure => simp [intOf]; omega
    ·clear hx
     go_wp2
     go_ret
     exact ⟨false, rfl, (fun h => by cases h), rfl⟩
   ·have hn30 : ¬ (n : Int) ≤ 60 := by omega
    go_wp2
    go_ret
    exact ⟨false, by simp, (fun h => by cases h), rfl⟩
  ·obtain rfl : k0 = n := by omega
   have HF2 : Hid (∀ x ∈ s, x.1.size ≤ 100) := by have := HF.out; rwa [← HLEN.out, List.take_length] at this
   by_cases hk30 : (k0 : Int) ≤ 60
   ·go_wp2
    go_ret
    exact ⟨true, by simp, (fun _ => ⟨by omega, HF2.out⟩), rfl⟩
   ·go_wp2
    go_ret
    exact ⟨false, by simp, (fun h => by cases h), rfl⟩
end Go.Proofs.YtkbbegbpkndebaaGreat

