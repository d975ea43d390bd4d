/- Texts of this claim, joined: GE2, GN1. -/
import Derived.Test.YtkbbegbpkndebaaGreatJ10
import Derived.Test.YtkbbegbpkndebaaGreatJ11
/- Accounts in memory; the document's Get, Number, Rights of layer 11; Light. -/
namespace Go.Proofs.YtkbbegbpkndebaaGreat
open Go.RowKit Go.Lib
set_option linter.unusedVariables false
def encA (x : Ac) : List Value := [.string x.1, .int .i64 (atH x.2 0), .int .i64 (atH x.2 1), .int .i64 (atH x.2 2), .int .i64 (atH x.2 3), .int .i64 (atH x.2 4)]
theorem encA_len (x : Ac) : (encA x).length = 6 := rfl
theorem encA_one (x : Ac) : ∀ v ∈ encA x, v.oneCell' = true := by
 intro v hv
 simp only [encA, List.mem_cons, List.not_mem_nil, or_false] at hv
 rcases hv with rfl | rfl | rfl | rfl | rfl | rfl <;> rfl
def AC (w : World) (a : Option Addr) (n : Nat) (s : List Ac) : Prop := RS encA 6 w a n s ∧ FvA s
theorem AC.below {w w' : World} {a : Option Addr} {n : Nat} {s : List Ac} (h : AC w a n s) (hb : Below w.heap.size w w') : AC w' a n s := ⟨RS.below h.1 hb, h.2⟩
theorem AC.nil (w : World) (p : Option Addr) : AC w p 0 [] := ⟨RS.nil w p, fun x hx => absurd hx List.not_mem_nil⟩
theorem AC.at {w : World} {b off n : Nat} {s : List Ac} (h : AC w (some ⟨b, off, none⟩) n s) (i : Nat) (hi : i < n) : ∃ (k : ByteArray) (g : List Int), s[i]? = some (k, g) ∧ g.length = 5 ∧ w.cell? ⟨b, off + i * 6, none⟩ = some (.string k) ∧ ∀ j, j < 5 → w.cell? ⟨b, off + i * 6 + 1 + j, none⟩ = some (.int .i64 (atH g j)) := by
 have hl : i < s.length := by rw [h.1.1]; exact hi
 have hx : s[i]? = some s[i] := List.getElem?_eq_getElem hl
 rcases h.1.2.2 with h0 | ⟨b', off', ha, hc⟩
 ·omega
 ·cases ha
  have q := hc i _ hx
  refine ⟨s[i].1, s[i].2, hx, h.2 _ (List.getElem_mem hl), q 0 _ rfl, fun j hj => by rw [Nat.add_assoc]; refine q (1 + j) _ ?_; rcases (by omega : j = 0 ∨ j = 1 ∨ j = 2 ∨ j = 3 ∨ j = 4) with rfl | rfl | rfl | rfl | rfl <;> rfl⟩
theorem AC.addr {w : World} {a : Option Addr} {n : Nat} {s : List Ac} (h : AC w a n s) (h0 : 0 < n) : ∃ b off, a = some ⟨b, off, none⟩ := by
 rcases h.1.2.2 with hz | ⟨b, off, ha, _⟩
 ·omega
 ·exact ⟨b, off, ha⟩
def bd40 (h : List Int) : Prop := ∀ j, -1099511627776 ≤ atH h j ∧ atH h j ≤ 1099511627776
theorem bd_of {h : List Int} (ha : h.all in40 = true) : bd40 h := by
 intro j
 rcases Nat.lt_or_ge j h.length with hj | hj
 ·unfold atH
  rw [List.getD_eq_getElem?_getD, List.getElem?_eq_getElem hj]
  have := of_decide_eq_true (List.all_eq_true.1 ha _ (List.getElem_mem hj))
  exact this
 ·unfold atH
  rw [List.getD_eq_getElem?_getD, List.getElem?_eq_none hj]
  exact ⟨by decide, by decide⟩
theorem of_bd {h : List Int} (hb : bd40 h) : h.all in40 = true := by
 rw [List.all_eq_true]
 intro x hx
 obtain ⟨j, hj⟩ := List.mem_iff_getElem?.1 hx
 have := hb j
 unfold atH at this
 rw [List.getD_eq_getElem?_getD, hj] at this
 exact decide_eq_true this
def LightA (n : Nat) (s : List Ac) (w : World) (e : Ending) (w' : World) : Prop := ∃ b : Bool, e = .returned (.bool b) ∧ (b = true → n ≤ 60 ∧ ∀ x ∈ s, x.1.size ≤ 100) ∧ w' = w
set_option maxHeartbeats 2000000 in
theorem light11 (a : Option Addr) (n cap : Nat) (s : List Ac) (w : World) (hA : AC w a n s) : Calls Tryz.prog 37 #[.slice a n cap] w (LightA n s w) := by
 have HV := hide hA
 have HLEN := hide hA.1.1
 have hmx := hA.1.2.1
 unfold maxLen at hmx
 clear hA
 go_enter Tryz.func37, Tryz.ntmps37
 go_wp2
 go_loopw [3] (fun i wr => ∃ k : Nat, k ≤ n ∧ k ≤ 61 ∧ i = .int .i64 k ∧ Hid (∀ x ∈ s.take k, x.1.size ≤ 100) ∧ wr = w) (fun i _ => n - (intOf i).toNat)
 case atStart => exact ⟨0, by omega, by omega, rfl, (fun x hx => by simp at hx), rfl⟩
 case round =>
  obtain ⟨k0, hk, hk2, rfl, HF, hw⟩ := hrel
  subst hw
  by_cases hlt : k0 < n
  ·by_cases hk30 : (k0 : Int) ≤ 60
   ·obtain ⟨b, off, rfl⟩ := HV.out.addr (by omega)
    obtain ⟨k, g, hx, hg5, c0, cj⟩ := HV.out.at k0 hlt
    clear cj
    have hk0 : (0 : Int) ≤ (k0 : Int) := by omega
    have hk1 : (k0 : Int) < (n : Int) := by omega
    by_cases q1 : (k.size : Int) ≤ 100
    ·have HF2 : Hid (∀ x ∈ s.take (k0 + 1), x.1.size ≤ 100) := by
      intro x hx'
      rw [takeG_snoc hx] at hx'
      rcases List.mem_append.1 hx' with q | q
      ·exact HF.out x q
      ·simp at q
       subst q
       simp only
       omega
     clear hx
     go_wp2
     go_roundw
     case rel => exact ⟨k0 + 1, by omega, by omega, by go_num, HF2, trivial⟩
     case measure => simp [intOf]; omega
    ·clear hx
     go_wp2
     go_ret
     exact ⟨false, rfl, (fun h => by cases h), rfl⟩
   ·have hn30 : ¬ (n : Int) ≤ 60 := by omega
    go_wp2
    go_ret
    exact ⟨false, by simp, (fun h => by cases h), rfl⟩
  ·obtain rfl : k0 = n := by omega
   have HF2 : Hid (∀ x ∈ s, x.1.size ≤ 100) := by have := HF.out; rwa [← HLEN.out, List.take_length] at this
   by_cases hk30 : (k0 : Int) ≤ 60
   ·go_wp2
    go_ret
    exact ⟨true, by simp, (fun _ => ⟨by omega, HF2.out⟩), rfl⟩
   ·go_wp2
    go_ret
    exact ⟨false, by simp, (fun h => by cases h), rfl⟩
end Go.Proofs.YtkbbegbpkndebaaGreat

/- Notes in memory; the document's One, Later, May, Get of layer 12; Light. -/
namespace Go.Proofs.YtkbbegbpkndebaaGreat
open Go.RowKit Go.Lib
set_option linter.unusedVariables false
def encNt (x : Nt) : List Value := [.string x.1, .int .i64 x.2.1, .int .i64 x.2.2.1, .string x.2.2.2]
theorem encNt_len (x : Nt) : (encNt x).length = 4 := rfl
theorem encNt_one (x : Nt) : ∀ v ∈ encNt x, v.oneCell' = true := by
 intro v hv
 simp only [encNt, List.mem_cons, List.not_mem_nil, or_false] at hv
 rcases hv with rfl | rfl | rfl | rfl <;> rfl
def NN (w : World) (a : Option Addr) (n : Nat) (s : List Nt) : Prop := RS encNt 4 w a n s
theorem NN.below {w w' : World} {a : Option Addr} {n : Nat} {s : List Nt} (h : NN w a n s) (hb : Below w.heap.size w w') : NN w' a n s := RS.below h hb
theorem NN.nil (w : World) (p : Option Addr) : NN w p 0 [] := RS.nil w p
theorem NN.at {w : World} {b off n : Nat} {s : List Nt} (h : NN w (some ⟨b, off, none⟩) n s) (i : Nat) (hi : i < n) : ∃ (k : ByteArray) (ta rp : Int) (wd : ByteArray), s[i]? = some (k, ta, rp, wd) ∧ w.cell? ⟨b, off + i * 4, none⟩ = some (.string k) ∧ w.cell? ⟨b, off + i * 4 + 1, none⟩ = some (.int .i64 ta) ∧ w.cell? ⟨b, off + i * 4 + 2, none⟩ = some (.int .i64 rp) ∧ w.cell? ⟨b, off + i * 4 + 3, none⟩ = some (.string wd) := by
 have hl : i < s.length := by rw [h.1]; exact hi
 have hx : s[i]? = some s[i] := List.getElem?_eq_getElem hl
 rcases h.2.2 with h0 | ⟨b', off', ha, hc⟩
 ·omega
 ·cases ha
  have q := hc i _ hx
  exact ⟨s[i].1, s[i].2.1, s[i].2.2.1, s[i].2.2.2, hx, q 0 _ rfl, q 1 _ rfl, q 2 _ rfl, q 3 _ rfl⟩
theorem NN.addr {w : World} {a : Option Addr} {n : Nat} {s : List Nt} (h : NN w a n s) (h0 : 0 < n) : ∃ b off, a = some ⟨b, off, none⟩ := by
 rcases h.2.2 with hz | ⟨b, off, ha, _⟩
 ·omega
 ·exact ⟨b, off, ha⟩
set_option maxHeartbeats 2000000 in
theorem One12_ref (k : ByteArray) (ta rp : Int) (wd : ByteArray) (w : World) : Calls Tryz.prog 112 #[.agg #[.string k, .int .i64 ta, .int .i64 rp, .string wd]] w fun e w' => e = .returned (.bool (mayNt (k, ta, rp, wd))) ∧ Below w.heap.size w w' := by
 by_cases k1 : k.size = 0
 ·have HR : Hid (mayNt (k, ta, rp, wd) = false) := by simp [Hid, mayNt, mayK, k1]
  have k2 := eqT k1
  subst k2
  clear k1
  go_enter Tryz.func112, Tryz.ntmps112
  go_wp2
  go_ret
  exact ⟨by rw [HR.out]; first | rfl | (simp; omega), bel1 _ _⟩
 ·obtain ⟨k2, k3, k4⟩ := neT k1
  by_cases k5 : (k.size : Int) ≤ 32
  ·have hk : mayK k = true := by simp [mayK]; omega
   by_cases a1 : 1 ≤ ta
   ·by_cases a2 : ta ≤ 1099511627776
    ·by_cases r1 : 1 ≤ rp
     ·by_cases r2 : rp ≤ 5
      ·by_cases d1 : (wd.size : Int) ≤ 64
       ·have HR : Hid (mayNt (k, ta, rp, wd) = true) := mayNt_iff.2 ⟨hk, ⟨a1, a2⟩, ⟨r1, r2⟩, by simp only; omega⟩
        clear hk
        go_enter Tryz.func112, Tryz.ntmps112
        go_wp2
        go_ret
        exact ⟨by rw [HR.out]; first | rfl | (simp; omega), bel1 _ _⟩
       ·have HR : Hid (mayNt (k, ta, rp, wd) = false) := by
         unfold Hid
         rw [Bool.eq_false_iff]
         intro h
         have h := mayNt_iff.1 h
         simp only at h
         omega
        clear hk
        go_enter Tryz.func112, Tryz.ntmps112
        go_wp2
        go_ret
        exact ⟨by rw [HR.out]; first | rfl | (simp; omega), bel1 _ _⟩
      ·have HR : Hid (mayNt (k, ta, rp, wd) = false) := by
        unfold Hid
        rw [Bool.eq_false_iff]
        intro h
        have h := mayNt_iff.1 h
        simp only at h
        omega
       clear hk
       go_enter Tryz.func112, Tryz.ntmps112
       go_wp2
       go_ret
       exact ⟨by rw [HR.out]; first | rfl | (simp; omega), bel1 _ _⟩
     ·have HR : Hid (mayNt (k, ta, rp, wd) = false) := by
       unfold Hid
       rw [Bool.eq_false_iff]
       intro h
       have h := mayNt_iff.1 h
       simp only at h
       omega
      clear hk
      go_enter Tryz.func112, Tryz.ntmps112
      go_wp2
      go_ret
      exact ⟨by rw [HR.out]; first | rfl | (simp; omega), bel1 _ _⟩
    ·have HR : Hid (mayNt (k, ta, rp, wd) = false) := by
      unfold Hid
      rw [Bool.eq_false_iff]
      intro h
      have h := mayNt_iff.1 h
      simp only at h
      omega
     clear hk
     go_enter Tryz.func112, Tryz.ntmps112
     go_wp2
     go_ret
     exact ⟨by rw [HR.out]; first | rfl | (simp; omega), bel1 _ _⟩
   ·have HR : Hid (mayNt (k, ta, rp, wd) = false) := by
     unfold Hid
     rw [Bool.eq_false_iff]
     intro h
     have h := mayNt_iff.1 h
     simp only at h
     omega
    clear hk
    go_enter Tryz.func112, Tryz.ntmps112
    go_wp2
    go_ret
    exact ⟨by rw [HR.out]; first | rfl | (simp; omega), bel1 _ _⟩
  ·have HR : Hid (mayNt (k, ta, rp, wd) = false) := by
    unfold Hid
    rw [Bool.eq_false_iff]
    intro h
    have h := (mayNt_iff.1 h).1
    simp [mayK] at h
    omega
   go_enter Tryz.func112, Tryz.ntmps112
   go_wp2
   go_ret
   exact ⟨by rw [HR.out]; first | rfl | (simp; omega), bel1 _ _⟩
set_option maxHeartbeats 8000000 in
theorem May12_ref (a : Option Addr) (n cap : Nat) (s : List Nt) (w : World) (hA : NN w a n s) : Calls Tryz.prog 43 #[.slice a n cap] w fun e w' => e = .returned (.bool (mayR12 s)) ∧ Below w.heap.size w w' := by
 have HV := hide hA
 have hmx := hA.2.1
 have HLEN := hide hA.1
 unfold maxLen at hmx
 clear hA
 go_enter Tryz.func43, Tryz.ntmps43
 go_wp2
 go_loopw [3] (fun i wr => ∃ k : Nat, k ≤ n ∧ i = .int .i64 k ∧ Hid ((s.take k).all mayNt = true ∧ SrtG kN (s.take k)) ∧ Hid (Below w.heap.size w wr)) (fun i _ => n - (intOf i).toNat)
 case atStart => exact ⟨0, by omega, rfl, (show _ ∧ _ by simp [SrtG]), Below.refl _ _⟩
 case round =>
  obtain ⟨k0, hk, rfl, HF, HB⟩ := hrel
  by_cases hlt : k0 < n
  ·obtain ⟨b, off, rfl⟩ := HV.out.addr (by omega)
   obtain ⟨k, ta, rp, wd, hx, c0, c1, c2, c3⟩ := (HV.out.below HB.out).at k0 hlt
   have hk0 : (0 : Int) ≤ (k0 : Int) := by omega
   have hk1 : (k0 : Int) < (n : Int) := by omega
   have HX := hide hx
   clear hx
   have HV2 := hide (HV.out.below HB.out)
   rcases hm : mayNt (k, ta, rp, wd) with _ | _
   ·have HM := hide hm
    have HNO : Hid (mayR12 s = false) := mayG_no HX.out hm
    clear hm
    go_upto_region 4 with fail
    refine wp_region_held_drew (S := fun W => Below wr.heap.size wr W) (by kernel_rfl) ((Below.refl _ wr).drew) (fun hS0 => ?_)
    refine tkJ 0 10 hS0 ?_; simp only [ly]
    refine tkJ 1 11 hS0 ?_; simp only [ly]
    refine tkJ 2 12 hS0 ?_; simp only [ly]
    refine tkL 3 13 hS0 ?h ?_; case h => (intro W hW; have e0 := bcell hW c0; have e1 := bcell hW c1; have e2 := bcell hW c2; have e3 := bcell hW c3; clear hW; go_simp; try rfl); simp only [ly]
    refine wpAnyH_ready (rs := [4]) (by kernel_rfl) (by simp) ?_
    refine AllReadyH.cons rfl (fun K hK => ?_) AllReadyH.nil
    go_simp
    refine (One12_ref k ta rp wd _).mono ?_
    rintro e w' ⟨rfl, hb⟩
    rw [show mayNt (k, ta, rp, wd) = false from HM.out]
    refine hK.out _ _ ?hs5 (fun hS1 => ?_)
    case hs5 => exact bel_next hS0 hb
    clear hK K hb
    try simp only [ly]
    refine tkJ 5 15 hS1 ?_; simp only [ly]
    refine tkJ 6 16 hS1 ?_; simp only [ly]
    refine tkM 7 17 hS1 ?_; simp only [ly]
    refine tkM 8 18 hS1 ?_; simp only [ly]
    refine tkM 9 19 hS1 ?_; simp only [ly]
    refine tkM 10 20 hS1 ?_; simp only [ly]
    refine tkM 11 21 hS1 ?_; simp only [ly]
    refine tkM 12 22 hS1 ?_; simp only [ly]
    refine tkM 13 23 hS1 ?_; simp only [ly]
    refine tkM 14 24 hS1 ?_; simp only [ly]
    refine tkM 15 25 hS1 ?_; simp only [ly]
    refine tkM 16 26 hS1 ?_; simp only [ly]
    refine tkM 17 27 hS1 ?_; simp only [ly]
    refine tkM 18 28 hS1 ?_; simp only [ly]
    refine tkM 19 29 hS1 ?_; simp only [ly]
    refine tkM 20 30 hS1 ?_; simp only [ly]
    refine tkM 21 31 hS1 ?_; simp only [ly]
    refine tkM 22 32 hS1 ?_; simp only [ly]
    refine tkJ 23 33 hS1 ?_; simp only [ly]
    refine wpAnyH_done (by kernel_rfl) ?_ _
    go_wp2
    go_ret
    exact ⟨by rw [HNO.out]; rfl, bel_next HB.out hS1⟩
   ·have HM := hide hm
    clear hm
    rcases k0 with _ | j
    ·have HF2 := hide (stepG HX.out HF.out HM.out (fun j c h => by omega))
     simp only [Nat.zero_mul, Nat.add_zero] at c0 c1 c2 c3
     go_upto_region 4 with fail
     refine wp_region_held_drew (S := fun W => Below wr.heap.size wr W) (by kernel_rfl) ((Below.refl _ wr).drew) (fun hS0 => ?_)
     refine tkJ 0 10 hS0 ?_; simp only [ly]
     refine tkJ 1 11 hS0 ?_; simp only [ly]
     refine tkJ 2 12 hS0 ?_; simp only [ly]
     refine tkL 3 13 hS0 ?h ?_; case h => (intro W hW; have e0 := bcell hW c0; have e1 := bcell hW c1; have e2 := bcell hW c2; have e3 := bcell hW c3; clear hW; go_simp; try rfl); simp only [ly]
     refine wpAnyH_ready (rs := [4]) (by kernel_rfl) (by simp) ?_
     refine AllReadyH.cons rfl (fun K hK => ?_) AllReadyH.nil
     go_simp
     refine (One12_ref k ta rp wd _).mono ?_
     rintro e w' ⟨rfl, hb⟩
     rw [show mayNt (k, ta, rp, wd) = true from HM.out]
     refine hK.out _ _ ?hs13 (fun hS1 => ?_)
     case hs13 => exact bel_next hS0 hb
     clear hK K hb
     try simp only [ly]
     refine tkJ 5 15 hS1 ?_; simp only [ly]
     refine tkJ 6 16 hS1 ?_; simp only [ly]
     refine tkJ 7 17 hS1 ?_; simp only [ly]
     refine tkJ 8 18 hS1 ?_; simp only [ly]
     refine tkJ 9 19 hS1 ?_; simp only [ly]
     refine tkM 10 20 hS1 ?_; simp only [ly]
     refine tkM 11 21 hS1 ?_; simp only [ly]
     refine tkM 12 22 hS1 ?_; simp only [ly]
     refine tkM 13 23 hS1 ?_; simp only [ly]
     refine tkM 14 24 hS1 ?_; simp only [ly]
     refine tkM 15 25 hS1 ?_; simp only [ly]
     refine tkM 16 26 hS1 ?_; simp only [ly]
     refine tkM 17 27 hS1 ?_; simp only [ly]
     refine tkM 18 28 hS1 ?_; simp only [ly]
     refine tkM 19 29 hS1 ?_; simp only [ly]
     refine tkM 20 30 hS1 ?_; simp only [ly]
     refine tkM 21 31 hS1 ?_; simp only [ly]
     refine tkJ 22 32 hS1 ?_; simp only [ly]
     refine tkJ 23 33 hS1 ?_; simp only [ly]
     refine wpAnyH_done (by kernel_rfl) ?_ _
     go_wp2
     go_roundw
     case rel => exact ⟨0 + 1, by omega, by go_num, HF2, (show Hid _ from bel_next HB.out hS1)⟩
     case measure => simp [intOf]; omega
    ·obtain ⟨kp, tp, pp, dp, hp, p0, _, _, _⟩ := HV2.out.at j (by omega)
     have HP := hide hp
     clear hp
     have hwj := wrapT (show j ≤ 9223372036854775807 by omega)
     have hj0 : ((j : Int)) + 1 < (n : Int) := by omega
     have hj1 : (j : Int) < (n : Int) := by omega
     have hj2 : (0 : Int) ≤ (j : Int) := by omega
     rcases hl : Op.bytesLess kp.toList k.toList with _ | _
     ·have HNO : Hid (mayR12 s = false) := mayG_less HP.out HX.out hl
      go_upto_region 4 with fail
      refine wp_region_held_drew (S := fun W => Below wr.heap.size wr W) (by kernel_rfl) ((Below.refl _ wr).drew) (fun hS0 => ?_)
      refine tkJ 0 10 hS0 ?_; simp only [ly]
      refine tkJ 1 11 hS0 ?_; simp only [ly]
      refine tkJ 2 12 hS0 ?_; simp only [ly]
      refine tkL 3 13 hS0 ?h ?_; case h => (intro W hW; have e0 := bcell hW c0; have e1 := bcell hW c1; have e2 := bcell hW c2; have e3 := bcell hW c3; have e4 := bcell hW p0; clear hW; go_simp; try rfl); simp only [ly]
      refine wpAnyH_ready (rs := [4]) (by kernel_rfl) (by simp) ?_
      refine AllReadyH.cons rfl (fun K hK => ?_) AllReadyH.nil
      go_simp
      refine (One12_ref k ta rp wd _).mono ?_
      rintro e w' ⟨rfl, hb⟩
      rw [show mayNt (k, ta, rp, wd) = true from HM.out]
      refine hK.out _ _ ?hs25 (fun hS1 => ?_)
      case hs25 => exact bel_next hS0 hb
      clear hK K hb
      try simp only [ly]
      refine tkJ 5 15 hS1 ?_; simp only [ly]
      refine tkJ 6 16 hS1 ?_; simp only [ly]
      refine tkJ 7 17 hS1 ?_; simp only [ly]
      refine tkJ 8 18 hS1 ?_; simp only [ly]
      refine tkJ 9 19 hS1 ?_; simp only [ly]
      refine tkJ 10 20 hS1 ?_; simp only [ly]
      refine tkJ 11 21 hS1 ?_; simp only [ly]
      refine tkJ 12 22 hS1 ?_; simp only [ly]
      refine tkJ 13 23 hS1 ?_; simp only [ly]
      refine tkJ 14 24 hS1 ?_; simp only [ly]
      refine tkL 15 25 hS1 ?h ?_; case h => (intro W hW; have e0 := bcell hW c0; have e1 := bcell hW c1; have e2 := bcell hW c2; have e3 := bcell hW c3; have e4 := bcell hW p0; clear hW; go_simp; try rfl); simp only [ly]
      refine tkJ 16 26 hS1 ?_; simp only [ly]
      refine tkJ 17 27 hS1 ?_; simp only [ly]
      refine tkJ 18 28 hS1 ?_; simp only [ly]
      refine tkJ 19 29 hS1 ?_; simp only [ly]
      refine tkL 20 30 hS1 ?h ?_; case h => (intro W hW; have e0 := bcell hW c0; have e1 := bcell hW c1; have e2 := bcell hW c2; have e3 := bcell hW c3; have e4 := bcell hW p0; clear hW; go_simp; try rfl); simp only [ly]
      refine tkJ 21 31 hS1 ?_; simp only [ly]
      refine tkJ 22 32 hS1 ?_; simp only [ly]
      refine tkJ 23 33 hS1 ?_; simp only [ly]
      refine wpAnyH_done (by kernel_rfl) ?_ _
      go_wp2
      go_ret
      exact ⟨by rw [HNO.out]; rfl, bel_next HB.out hS1⟩
     ·have HF2 := hide (stepGS HX.out HP.out HF.out HM.out hl)
      go_upto_region 4 with fail
      refine wp_region_held_drew (S := fun W => Below wr.heap.size wr W) (by kernel_rfl) ((Below.refl _ wr).drew) (fun hS0 => ?_)
      refine tkJ 0 10 hS0 ?_; simp only [ly]
      refine tkJ 1 11 hS0 ?_; simp only [ly]
      refine tkJ 2 12 hS0 ?_; simp only [ly]
      refine tkL 3 13 hS0 ?h ?_; case h => (intro W hW; have e0 := bcell hW c0; have e1 := bcell hW c1; have e2 := bcell hW c2; have e3 := bcell hW c3; have e4 := bcell hW p0; clear hW; go_simp; try rfl); simp only [ly]
      refine wpAnyH_ready (rs := [4]) (by kernel_rfl) (by simp) ?_
      refine AllReadyH.cons rfl (fun K hK => ?_) AllReadyH.nil
      go_simp
      refine (One12_ref k ta rp wd _).mono ?_
      rintro e w' ⟨rfl, hb⟩
      rw [show mayNt (k, ta, rp, wd) = true from HM.out]
      refine hK.out _ _ ?hs49 (fun hS1 => ?_)
      case hs49 => exact bel_next hS0 hb
      clear hK K hb
      try simp only [ly]
      refine tkJ 5 15 hS1 ?_; simp only [ly]
      refine tkJ 6 16 hS1 ?_; simp only [ly]
      refine tkJ 7 17 hS1 ?_; simp only [ly]
      refine tkJ 8 18 hS1 ?_; simp only [ly]
      refine tkJ 9 19 hS1 ?_; simp only [ly]
      refine tkJ 10 20 hS1 ?_; simp only [ly]
      refine tkJ 11 21 hS1 ?_; simp only [ly]
      refine tkJ 12 22 hS1 ?_; simp only [ly]
      refine tkJ 13 23 hS1 ?_; simp only [ly]
      refine tkJ 14 24 hS1 ?_; simp only [ly]
      refine tkL 15 25 hS1 ?h ?_; case h => (intro W hW; have e0 := bcell hW c0; have e1 := bcell hW c1; have e2 := bcell hW c2; have e3 := bcell hW c3; have e4 := bcell hW p0; clear hW; go_simp; try rfl); simp only [ly]
      refine tkJ 16 26 hS1 ?_; simp only [ly]
      refine tkJ 17 27 hS1 ?_; simp only [ly]
      refine tkJ 18 28 hS1 ?_; simp only [ly]
      refine tkJ 19 29 hS1 ?_; simp only [ly]
      refine tkL 20 30 hS1 ?h ?_; case h => (intro W hW; have e0 := bcell hW c0; have e1 := bcell hW c1; have e2 := bcell hW c2; have e3 := bcell hW c3; have e4 := bcell hW p0; clear hW; go_simp; try rfl); simp only [ly]
      refine tkJ 21 31 hS1 ?_; simp only [ly]
      refine tkJ 22 32 hS1 ?_; simp only [ly]
      refine tkJ 23 33 hS1 ?_; simp only [ly]
      refine wpAnyH_done (by kernel_rfl) ?_ _
      go_wp2
      go_roundw
      case rel => exact ⟨j + 1 + 1, by omega, by go_num, HF2, (show Hid _ from bel_next HB.out hS1)⟩
      case measure => simp [intOf]; omega
  ·obtain rfl : k0 = n := by omega
   have HR : Hid (mayR12 s = decide (k0 ≤ 4000)) := by
    have h := HF.out
    rw [← HLEN.out, List.take_length] at h
    unfold Hid
    rw [Bool.eq_iff_iff, mayG_iff, decide_eq_true_iff, HLEN.out]
    exact ⟨fun q => q.2.2, fun q => ⟨by simpa using h.1, h.2, q⟩⟩
   clear HF
   by_cases h4 : (k0 : Int) ≤ 4000
   ·go_wp2
    go_ret
    exact ⟨by rw [HR.out, decide_eq_true (by omega)]; rfl, HB.out⟩
   ·go_wp2
    go_ret
    exact ⟨by rw [HR.out, decide_eq_false (by omega)]; rfl, HB.out⟩
def LightNt (n : Nat) (s : List Nt) (w : World) (e : Ending) (w' : World) : Prop := ∃ b : Bool, e = .returned (.bool b) ∧ (b = true → n ≤ 60 ∧ ∀ x ∈ s, x.1.size ≤ 100 ∧ x.2.2.2.size ≤ 200) ∧ w' = w
set_option maxHeartbeats 2000000 in
theorem light12 (a : Option Addr) (n cap : Nat) (s : List Nt) (w : World) (hA : NN w a n s) : Calls Tryz.prog 38 #[.slice a n cap] w (LightNt n s w) := by
 have HV := hide hA
 have HLEN := hide hA.1
 have hmx := hA.2.1
 unfold maxLen at hmx
 clear hA
 go_enter Tryz.func38, Tryz.ntmps38
 go_wp2
 go_loopw [3] (fun i wr => ∃ k : Nat, k ≤ n ∧ k ≤ 61 ∧ i = .int .i64 k ∧ Hid (∀ x ∈ s.take k, x.1.size ≤ 100 ∧ x.2.2.2.size ≤ 200) ∧ wr = w) (fun i _ => n - (intOf i).toNat)
 case atStart => exact ⟨0, by omega, by omega, rfl, (fun x hx => by simp at hx), rfl⟩
 case round =>
  obtain ⟨k0, hk, hk2, rfl, HF, hw⟩ := hrel
  subst hw
  by_cases hlt : k0 < n
  ·by_cases hk30 : (k0 : Int) ≤ 60
   ·obtain ⟨b, off, rfl⟩ := HV.out.addr (by omega)
    obtain ⟨k, ta, rp, wd, hx, c0, c1, c2, c3⟩ := HV.out.at k0 hlt
    have hk0 : (0 : Int) ≤ (k0 : Int) := by omega
    have hk1 : (k0 : Int) < (n : Int) := by omega
    by_cases q1 : (k.size : Int) ≤ 100
    ·by_cases q2 : (wd.size : Int) ≤ 200
     ·have q3 : ¬ ((200 : Int) < (wd.size : Int)) := by omega
      have HF2 : Hid (∀ x ∈ s.take (k0 + 1), x.1.size ≤ 100 ∧ x.2.2.2.size ≤ 200) := by
       intro x hx'
       rw [takeG_snoc hx] at hx'
       rcases List.mem_append.1 hx' with q | q
       ·exact HF.out x q
       ·simp at q
        subst q
        simp only
        omega
      clear hx
      go_wp2
      go_roundw
      case rel => exact ⟨k0 + 1, by omega, by omega, by go_num, HF2, trivial⟩
      case measure => simp [intOf]; omega
     ·have q3 : (200 : Int) < (wd.size : Int) := by omega
      clear hx
      go_wp2
      go_ret
      exact ⟨false, rfl, (fun h => by cases h), rfl⟩
    ·clear hx
     go_wp2
     go_ret
     exact ⟨false, rfl, (fun h => by cases h), rfl⟩
   ·have hn30 : ¬ (n : Int) ≤ 60 := by omega
    go_wp2
    go_ret
    exact ⟨false, by simp, (fun h => by cases h), rfl⟩
  ·obtain rfl : k0 = n := by omega
   have HF2 : Hid (∀ x ∈ s, x.1.size ≤ 100 ∧ x.2.2.2.size ≤ 200) := by have := HF.out; rwa [← HLEN.out, List.take_length] at this
   by_cases hk30 : (k0 : Int) ≤ 60
   ·go_wp2
    go_ret
    exact ⟨true, by simp, (fun _ => ⟨by omega, HF2.out⟩), rfl⟩
   ·go_wp2
    go_ret
    exact ⟨false, by simp, (fun h => by cases h), rfl⟩
end Go.Proofs.YtkbbegbpkndebaaGreat

