/- Texts of this claim, joined: OKr. -/
import Derived.Test.YtomppblgalepjaaGreatDoorJ40
/- All of rules is seen (the program's, layer 16). -/
namespace Go.Proofs.YtomppblgalepjaaGreatDoor
open Go.RowKit Go.Lib
set_option linter.unusedVariables false
theorem encSt_len1 (x : ByteArray) : (encSt x).length = 1 := rfl
def rulS (h : Int × Int × Int) (r : Ru) : Bool := allN r.1.length (okT1 0 [] r.1) && (allN r.2.1.length (okT2 0 ([] ++ r.1) r.2.1) && (allN r.2.2.1.length (okT3 0 ([] ++ r.1 ++ r.2.1) r.2.2.1) && (allN r.2.2.2.1.length (okC h r.2.2.2.1) && allN r.2.2.2.2.length (okO h ([] ++ r.1 ++ r.2.1 ++ r.2.2.1) r.2.2.2.2))))
set_option maxHeartbeats 8000000 in
theorem rules16 (D : Nat) (h : Int × Int × Int) (w0 : World) (r : Ru) (a1 a2 a3 a4 a5 : Option Addr) (n1 n2 n3 n4 n5 c1 c2 c3 c4 c5 : Nat) (w : World) (hD : w0.heap.size ≤ D) (hb0 : Below w0.heap.size w0 w) (hR : RuM w0 a1 a2 a3 a4 a5 n1 n2 n3 n4 n5 c1 c2 c3 c4 c5 r) (hS : SN w D h 0 ((0, 0, 0, 0, 0), [], [], fun _ _ => 0)) (hn : ∀ x ∈ allR r, x.size ≤ maxLen) (hh : h.1 ≤ 1000000 ∧ h.2.1 ≤ 1000000 ∧ h.2.2 ≤ 1000000) :
  Calls Tryz.prog 28 #[.pointer (some ⟨D + 3, 0, none⟩), .agg #[.slice a1 n1 c1, .slice a2 n2 c2, .slice a3 n3 c3, .slice a4 n4 c4, .slice a5 n5 c5]] w fun e w' => e = .returned (.bool (rulS h r)) ∧ Below w0.heap.size w0 w' := by
 have HSN := hide hS
 have HR := hide hR
 have HD := hide hD
 have HB0 := hide hb0
 have HH := hide hh
 have HDW : Hid (D + 4 ≤ w.heap.size) := by have := hS.size; unfold Hid; omega
 have HN1 : Hid (∀ x ∈ r.1, x.size ≤ maxLen) := fun x hx => hn x (by unfold allR; simp [hx])
 have HN2 : Hid (∀ x ∈ r.2.1, x.size ≤ maxLen) := fun x hx => hn x (by unfold allR; simp [hx])
 have HN3 : Hid (∀ x ∈ r.2.2.1, x.size ≤ maxLen) := fun x hx => hn x (by unfold allR; simp [hx])
 have HN5 : Hid (∀ o ∈ r.2.2.2.2, o.1.size ≤ maxLen) := fun o ho => hn o.1 (by unfold allR; simp only [List.mem_append, List.mem_map]; exact .inr ⟨o, ho, rfl⟩)
 have e1 := hR.1.1.1
 have e2 := hR.2.1.1.1
 have e3 := hR.2.2.1.1.1
 have e4 := hR.2.2.2.1.1.1
 have e5 := hR.2.2.2.2.1.len
 have hmf : ∀ (fn : Fn) (first cap : Array Value) (w : World), (Instr.makeFunc fn first cap).run Tryz.prog w = .ok (.func fn first cap) w := fun _ _ _ _ => rfl
 obtain ⟨z, hz⟩ : ∃ z, rulS h r = z := ⟨_, rfl⟩
 have HZ := hide hz
 unfold rulS at hz
 rw [e1, e2, e3, e4, e5] at hz
 rw [HZ.out]
 clear hS hR hn hb0 hD hh e1 e2 e3 e4 e5
 rcases h1 : allN n1 (okT1 0 [] r.1) with _ | _
 ·have HA1 := hide h1
  rw [h1, Bool.false_and] at hz
  subst hz
  clear h1
  go_enter Tryz.func28, Tryz.ntmps28
  go_upto_region 1 with fail
  have HBW := hide (bel_next HB0.out (bel2 w (.cells #[.pointer (some ⟨D + 3, 0, none⟩)] 47) (.cells #[.slice a1 n1 c1, .slice a2 n2 c2, .slice a3 n3 c3, .slice a4 n4 c4, .slice a5 n5 c5] 29)))
  have HAX : Hid (BX ((w.alloc (.cells #[.pointer (some ⟨D + 3, 0, none⟩)] 47)).alloc (.cells #[.slice a1 n1 c1, .slice a2 n2 c2, .slice a3 n3 c3, .slice a4 n4 c4, .slice a5 n5 c5] 29)) w.heap.size #[.pointer (some ⟨D + 3, 0, none⟩)] 47) := (BX.new w _ rfl _ _).alloc _
  have HRX : Hid (BX ((w.alloc (.cells #[.pointer (some ⟨D + 3, 0, none⟩)] 47)).alloc (.cells #[.slice a1 n1 c1, .slice a2 n2 c2, .slice a3 n3 c3, .slice a4 n4 c4, .slice a5 n5 c5] 29)) (w.heap.size + 1) #[.slice a1 n1 c1, .slice a2 n2 c2, .slice a3 n3 c3, .slice a4 n4 c4, .slice a5 n5 c5] 29) := BX.new (w.alloc (.cells #[.pointer (some ⟨D + 3, 0, none⟩)] 47)) _ (by simp) _ _
  have HS1 := hide (HSN.out.below (bel2 w (.cells #[.pointer (some ⟨D + 3, 0, none⟩)] 47) (.cells #[.slice a1 n1 c1, .slice a2 n2 c2, .slice a3 n3 c3, .slice a4 n4 c4, .slice a5 n5 c5] 29)))
  have HZW := hide (bel2 w (.cells #[.pointer (some ⟨D + 3, 0, none⟩)] 47) (.cells #[.slice a1 n1 c1, .slice a2 n2 c2, .slice a3 n3 c3, .slice a4 n4 c4, .slice a5 n5 c5] 29)).size
  have HGA : Hid (D + 4 ≤ w.heap.size) := HDW.out
  have HGR : Hid (D + 4 ≤ w.heap.size + 1) := Nat.le_succ_of_le HDW.out
  generalize (w.alloc (.cells #[.pointer (some ⟨D + 3, 0, none⟩)] 47)).alloc (.cells #[.slice a1 n1 c1, .slice a2 n2 c2, .slice a3 n3 c3, .slice a4 n4 c4, .slice a5 n5 c5] 29) = u at *
  obtain ⟨ga, hga⟩ : ∃ ga, w.heap.size = ga := ⟨_, rfl⟩
  obtain ⟨gr, hgr⟩ : ∃ gr, w.heap.size + 1 = gr := ⟨_, rfl⟩
  rw [hgr] at HRX HGR ⊢
  rw [hga] at HAX HGA ⊢
  have a0 := HAX.out.cell 0 _ rfl
  have g0 := HRX.out.cell 0 _ rfl
  have g1 := HRX.out.cell 1 _ rfl
  have g2 := HRX.out.cell 2 _ rfl
  have g3 := HRX.out.cell 3 _ rfl
  have g4 := HRX.out.cell 4 _ rfl
  clear hga hgr HRX
  go_wp2_with (first | (go_at_call 43; have hs0 := HS1.out; clear HS1; refine (nms16_1 D 0 h 0 0 0 0 0 [] [] (fun _ _ => 0) ga a1 n1 c1 r.1 _ hs0 (by decide) HN1.out (by omega) HAX.out HGA.out (RS.below HR.out.1.1 HBW.out) (RS.off HR.out.1.1 encSt_len1 (by decide) HD.out)).mono ?_; rintro e w1 ⟨rfl, hq, hp⟩; rw [HA1.out]; have hgq := hide hq; replace HBW := hide (GQ.bel HBW.out hq HBW.out.size HD.out); replace a0 := gqcell hq a0 (.inr HGA.out); replace g0 := gqcell hq g0 (.inr HGR.out); replace g1 := gqcell hq g1 (.inr HGR.out); replace g2 := gqcell hq g2 (.inr HGR.out); replace g3 := gqcell hq g3 (.inr HGR.out); replace g4 := gqcell hq g4 (.inr HGR.out); replace HAX := hide (HAX.out.gq hq (.inr HGA.out)); replace HZW := hide (Nat.le_trans HZW.out hq.1); clear hq hp hs0))
  go_ret
  exact ⟨by first | rfl | (rw [HZV.out]; rfl), HBW.out⟩
 ·have HA1 := hide h1
  rw [h1, Bool.true_and] at hz
  clear h1
  rcases h2 : allN n2 (okT2 0 ([] ++ r.1) r.2.1) with _ | _
  ·have HA2 := hide h2
   rw [h2, Bool.false_and] at hz
   subst hz
   clear h2
   go_enter Tryz.func28, Tryz.ntmps28
   go_upto_region 1 with fail
   have HBW := hide (bel_next HB0.out (bel2 w (.cells #[.pointer (some ⟨D + 3, 0, none⟩)] 47) (.cells #[.slice a1 n1 c1, .slice a2 n2 c2, .slice a3 n3 c3, .slice a4 n4 c4, .slice a5 n5 c5] 29)))
   have HAX : Hid (BX ((w.alloc (.cells #[.pointer (some ⟨D + 3, 0, none⟩)] 47)).alloc (.cells #[.slice a1 n1 c1, .slice a2 n2 c2, .slice a3 n3 c3, .slice a4 n4 c4, .slice a5 n5 c5] 29)) w.heap.size #[.pointer (some ⟨D + 3, 0, none⟩)] 47) := (BX.new w _ rfl _ _).alloc _
   have HRX : Hid (BX ((w.alloc (.cells #[.pointer (some ⟨D + 3, 0, none⟩)] 47)).alloc (.cells #[.slice a1 n1 c1, .slice a2 n2 c2, .slice a3 n3 c3, .slice a4 n4 c4, .slice a5 n5 c5] 29)) (w.heap.size + 1) #[.slice a1 n1 c1, .slice a2 n2 c2, .slice a3 n3 c3, .slice a4 n4 c4, .slice a5 n5 c5] 29) := BX.new (w.alloc (.cells #[.pointer (some ⟨D + 3, 0, none⟩)] 47)) _ (by simp) _ _
   have HS1 := hide (HSN.out.below (bel2 w (.cells #[.pointer (some ⟨D + 3, 0, none⟩)] 47) (.cells #[.slice a1 n1 c1, .slice a2 n2 c2, .slice a3 n3 c3, .slice a4 n4 c4, .slice a5 n5 c5] 29)))
   have HZW := hide (bel2 w (.cells #[.pointer (some ⟨D + 3, 0, none⟩)] 47) (.cells #[.slice a1 n1 c1, .slice a2 n2 c2, .slice a3 n3 c3, .slice a4 n4 c4, .slice a5 n5 c5] 29)).size
   have HGA : Hid (D + 4 ≤ w.heap.size) := HDW.out
   have HGR : Hid (D + 4 ≤ w.heap.size + 1) := Nat.le_succ_of_le HDW.out
   generalize (w.alloc (.cells #[.pointer (some ⟨D + 3, 0, none⟩)] 47)).alloc (.cells #[.slice a1 n1 c1, .slice a2 n2 c2, .slice a3 n3 c3, .slice a4 n4 c4, .slice a5 n5 c5] 29) = u at *
   obtain ⟨ga, hga⟩ : ∃ ga, w.heap.size = ga := ⟨_, rfl⟩
   obtain ⟨gr, hgr⟩ : ∃ gr, w.heap.size + 1 = gr := ⟨_, rfl⟩
   rw [hgr] at HRX HGR ⊢
   rw [hga] at HAX HGA ⊢
   have a0 := HAX.out.cell 0 _ rfl
   have g0 := HRX.out.cell 0 _ rfl
   have g1 := HRX.out.cell 1 _ rfl
   have g2 := HRX.out.cell 2 _ rfl
   have g3 := HRX.out.cell 3 _ rfl
   have g4 := HRX.out.cell 4 _ rfl
   clear hga hgr HRX
   go_wp2_with (first | (go_at_call 43; have hs0 := HS1.out; clear HS1; refine (nms16_1 D 0 h 0 0 0 0 0 [] [] (fun _ _ => 0) ga a1 n1 c1 r.1 _ hs0 (by decide) HN1.out (by omega) HAX.out HGA.out (RS.below HR.out.1.1 HBW.out) (RS.off HR.out.1.1 encSt_len1 (by decide) HD.out)).mono ?_; rintro e w1 ⟨rfl, hq, hp⟩; rw [HA1.out]; have HS2 := hide (hp HA1.out); have hgq := hide hq; replace HBW := hide (GQ.bel HBW.out hq HBW.out.size HD.out); replace a0 := gqcell hq a0 (.inr HGA.out); replace g0 := gqcell hq g0 (.inr HGR.out); replace g1 := gqcell hq g1 (.inr HGR.out); replace g2 := gqcell hq g2 (.inr HGR.out); replace g3 := gqcell hq g3 (.inr HGR.out); replace g4 := gqcell hq g4 (.inr HGR.out); replace HAX := hide (HAX.out.gq hq (.inr HGA.out)); replace HZW := hide (Nat.le_trans HZW.out hq.1); clear hq hp hs0) | (go_at_call 43; have hs0 := HS2.out; clear HS2; refine (nms16_2 D (0 + 6) h (0 + n1) 0 0 0 0 ([] ++ r.1) [] (fun _ _ => 0) ga a2 n2 c2 r.2.1 _ hs0 (by decide) HN2.out (by omega) HAX.out HGA.out (RS.below HR.out.2.1.1 HBW.out) (RS.off HR.out.2.1.1 encSt_len1 (by decide) HD.out)).mono ?_; rintro e w2 ⟨rfl, hq, hp⟩; rw [HA2.out]; have hgq := hide hq; replace HBW := hide (GQ.bel HBW.out hq HBW.out.size HD.out); replace a0 := gqcell hq a0 (.inr HGA.out); replace g0 := gqcell hq g0 (.inr HGR.out); replace g1 := gqcell hq g1 (.inr HGR.out); replace g2 := gqcell hq g2 (.inr HGR.out); replace g3 := gqcell hq g3 (.inr HGR.out); replace g4 := gqcell hq g4 (.inr HGR.out); replace HAX := hide (HAX.out.gq hq (.inr HGA.out)); replace HZW := hide (Nat.le_trans HZW.out hq.1); clear hq hp hs0))
   go_ret
   exact ⟨by first | rfl | (rw [HZV.out]; rfl), HBW.out⟩
  ·have HA2 := hide h2
   rw [h2, Bool.true_and] at hz
   clear h2
   rcases h3 : allN n3 (okT3 0 ([] ++ r.1 ++ r.2.1) r.2.2.1) with _ | _
   ·have HA3 := hide h3
    rw [h3, Bool.false_and] at hz
    subst hz
    clear h3
    go_enter Tryz.func28, Tryz.ntmps28
    go_upto_region 1 with fail
    have HBW := hide (bel_next HB0.out (bel2 w (.cells #[.pointer (some ⟨D + 3, 0, none⟩)] 47) (.cells #[.slice a1 n1 c1, .slice a2 n2 c2, .slice a3 n3 c3, .slice a4 n4 c4, .slice a5 n5 c5] 29)))
    have HAX : Hid (BX ((w.alloc (.cells #[.pointer (some ⟨D + 3, 0, none⟩)] 47)).alloc (.cells #[.slice a1 n1 c1, .slice a2 n2 c2, .slice a3 n3 c3, .slice a4 n4 c4, .slice a5 n5 c5] 29)) w.heap.size #[.pointer (some ⟨D + 3, 0, none⟩)] 47) := (BX.new w _ rfl _ _).alloc _
    have HRX : Hid (BX ((w.alloc (.cells #[.pointer (some ⟨D + 3, 0, none⟩)] 47)).alloc (.cells #[.slice a1 n1 c1, .slice a2 n2 c2, .slice a3 n3 c3, .slice a4 n4 c4, .slice a5 n5 c5] 29)) (w.heap.size + 1) #[.slice a1 n1 c1, .slice a2 n2 c2, .slice a3 n3 c3, .slice a4 n4 c4, .slice a5 n5 c5] 29) := BX.new (w.alloc (.cells #[.pointer (some ⟨D + 3, 0, none⟩)] 47)) _ (by simp) _ _
    have HS1 := hide (HSN.out.below (bel2 w (.cells #[.pointer (some ⟨D + 3, 0, none⟩)] 47) (.cells #[.slice a1 n1 c1, .slice a2 n2 c2, .slice a3 n3 c3, .slice a4 n4 c4, .slice a5 n5 c5] 29)))
    have HZW := hide (bel2 w (.cells #[.pointer (some ⟨D + 3, 0, none⟩)] 47) (.cells #[.slice a1 n1 c1, .slice a2 n2 c2, .slice a3 n3 c3, .slice a4 n4 c4, .slice a5 n5 c5] 29)).size
    have HGA : Hid (D + 4 ≤ w.heap.size) := HDW.out
    have HGR : Hid (D + 4 ≤ w.heap.size + 1) := Nat.le_succ_of_le HDW.out
    generalize (w.alloc (.cells #[.pointer (some ⟨D + 3, 0, none⟩)] 47)).alloc (.cells #[.slice a1 n1 c1, .slice a2 n2 c2, .slice a3 n3 c3, .slice a4 n4 c4, .slice a5 n5 c5] 29) = u at *
    obtain ⟨ga, hga⟩ : ∃ ga, w.heap.size = ga := ⟨_, rfl⟩
    obtain ⟨gr, hgr⟩ : ∃ gr, w.heap.size + 1 = gr := ⟨_, rfl⟩
    rw [hgr] at HRX HGR ⊢
    rw [hga] at HAX HGA ⊢
    have a0 := HAX.out.cell 0 _ rfl
    have g0 := HRX.out.cell 0 _ rfl
    have g1 := HRX.out.cell 1 _ rfl
    have g2 := HRX.out.cell 2 _ rfl
    have g3 := HRX.out.cell 3 _ rfl
    have g4 := HRX.out.cell 4 _ rfl
    clear hga hgr HRX
    go_wp2_with (first | (go_at_call 43; have hs0 := HS1.out; clear HS1; refine (nms16_1 D 0 h 0 0 0 0 0 [] [] (fun _ _ => 0) ga a1 n1 c1 r.1 _ hs0 (by decide) HN1.out (by omega) HAX.out HGA.out (RS.below HR.out.1.1 HBW.out) (RS.off HR.out.1.1 encSt_len1 (by decide) HD.out)).mono ?_; rintro e w1 ⟨rfl, hq, hp⟩; rw [HA1.out]; have HS2 := hide (hp HA1.out); have hgq := hide hq; replace HBW := hide (GQ.bel HBW.out hq HBW.out.size HD.out); replace a0 := gqcell hq a0 (.inr HGA.out); replace g0 := gqcell hq g0 (.inr HGR.out); replace g1 := gqcell hq g1 (.inr HGR.out); replace g2 := gqcell hq g2 (.inr HGR.out); replace g3 := gqcell hq g3 (.inr HGR.out); replace g4 := gqcell hq g4 (.inr HGR.out); replace HAX := hide (HAX.out.gq hq (.inr HGA.out)); replace HZW := hide (Nat.le_trans HZW.out hq.1); clear hq hp hs0) | (go_at_call 43; have hs0 := HS2.out; clear HS2; refine (nms16_2 D (0 + 6) h (0 + n1) 0 0 0 0 ([] ++ r.1) [] (fun _ _ => 0) ga a2 n2 c2 r.2.1 _ hs0 (by decide) HN2.out (by omega) HAX.out HGA.out (RS.below HR.out.2.1.1 HBW.out) (RS.off HR.out.2.1.1 encSt_len1 (by decide) HD.out)).mono ?_; rintro e w2 ⟨rfl, hq, hp⟩; rw [HA2.out]; have HS3 := hide (hp HA2.out); have hgq := hide hq; replace HBW := hide (GQ.bel HBW.out hq HBW.out.size HD.out); replace a0 := gqcell hq a0 (.inr HGA.out); replace g0 := gqcell hq g0 (.inr HGR.out); replace g1 := gqcell hq g1 (.inr HGR.out); replace g2 := gqcell hq g2 (.inr HGR.out); replace g3 := gqcell hq g3 (.inr HGR.out); replace g4 := gqcell hq g4 (.inr HGR.out); replace HAX := hide (HAX.out.gq hq (.inr HGA.out)); replace HZW := hide (Nat.le_trans HZW.out hq.1); clear hq hp hs0) | (go_at_call 43; have hs0 := HS3.out; clear HS3; refine (nms16_3 D (0 + 6 + 6) h (0 + n1) (0 + n2) 0 0 0 ([] ++ r.1 ++ r.2.1) [] (fun _ _ => 0) ga a3 n3 c3 r.2.2.1 _ hs0 (by decide) HN3.out (by omega) HAX.out HGA.out (RS.below HR.out.2.2.1.1 HBW.out) (RS.off HR.out.2.2.1.1 encSt_len1 (by decide) HD.out)).mono ?_; rintro e w3 ⟨rfl, hq, hp⟩; rw [HA3.out]; have hgq := hide hq; replace HBW := hide (GQ.bel HBW.out hq HBW.out.size HD.out); replace a0 := gqcell hq a0 (.inr HGA.out); replace g0 := gqcell hq g0 (.inr HGR.out); replace g1 := gqcell hq g1 (.inr HGR.out); replace g2 := gqcell hq g2 (.inr HGR.out); replace g3 := gqcell hq g3 (.inr HGR.out); replace g4 := gqcell hq g4 (.inr HGR.out); replace HAX := hide (HAX.out.gq hq (.inr HGA.out)); replace HZW := hide (Nat.le_trans HZW.out hq.1); clear hq hp hs0))
    go_ret
    exact ⟨by first | rfl | (rw [HZV.out]; rfl), HBW.out⟩
   ·have HA3 := hide h3
    rw [h3, Bool.true_and] at hz
    clear h3
    rcases h4 : allN n4 (okC h r.2.2.2.1) with _ | _
    ·have HA4 := hide h4
     rw [h4, Bool.false_and] at hz
     subst hz
     clear h4
     go_enter Tryz.func28, Tryz.ntmps28
     go_upto_region 1 with fail
     have HBW := hide (bel_next HB0.out (bel2 w (.cells #[.pointer (some ⟨D + 3, 0, none⟩)] 47) (.cells #[.slice a1 n1 c1, .slice a2 n2 c2, .slice a3 n3 c3, .slice a4 n4 c4, .slice a5 n5 c5] 29)))
     have HAX : Hid (BX ((w.alloc (.cells #[.pointer (some ⟨D + 3, 0, none⟩)] 47)).alloc (.cells #[.slice a1 n1 c1, .slice a2 n2 c2, .slice a3 n3 c3, .slice a4 n4 c4, .slice a5 n5 c5] 29)) w.heap.size #[.pointer (some ⟨D + 3, 0, none⟩)] 47) := (BX.new w _ rfl _ _).alloc _
     have HRX : Hid (BX ((w.alloc (.cells #[.pointer (some ⟨D + 3, 0, none⟩)] 47)).alloc (.cells #[.slice a1 n1 c1, .slice a2 n2 c2, .slice a3 n3 c3, .slice a4 n4 c4, .slice a5 n5 c5] 29)) (w.heap.size + 1) #[.slice a1 n1 c1, .slice a2 n2 c2, .slice a3 n3 c3, .slice a4 n4 c4, .slice a5 n5 c5] 29) := BX.new (w.alloc (.cells #[.pointer (some ⟨D + 3, 0, none⟩)] 47)) _ (by simp) _ _
     have HS1 := hide (HSN.out.below (bel2 w (.cells #[.pointer (some ⟨D + 3, 0, none⟩)] 47) (.cells #[.slice a1 n1 c1, .slice a2 n2 c2, .slice a3 n3 c3, .slice a4 n4 c4, .slice a5 n5 c5] 29)))
     have HZW := hide (bel2 w (.cells #[.pointer (some ⟨D + 3, 0, none⟩)] 47) (.cells #[.slice a1 n1 c1, .slice a2 n2 c2, .slice a3 n3 c3, .slice a4 n4 c4, .slice a5 n5 c5] 29)).size
     have HGA : Hid (D + 4 ≤ w.heap.size) := HDW.out
     have HGR : Hid (D + 4 ≤ w.heap.size + 1) := Nat.le_succ_of_le HDW.out
     generalize (w.alloc (.cells #[.pointer (some ⟨D + 3, 0, none⟩)] 47)).alloc (.cells #[.slice a1 n1 c1, .slice a2 n2 c2, .slice a3 n3 c3, .slice a4 n4 c4, .slice a5 n5 c5] 29) = u at *
     obtain ⟨ga, hga⟩ : ∃ ga, w.heap.size = ga := ⟨_, rfl⟩
     obtain ⟨gr, hgr⟩ : ∃ gr, w.heap.size + 1 = gr := ⟨_, rfl⟩
     rw [hgr] at HRX HGR ⊢
     rw [hga] at HAX HGA ⊢
     have a0 := HAX.out.cell 0 _ rfl
     have g0 := HRX.out.cell 0 _ rfl
     have g1 := HRX.out.cell 1 _ rfl
     have g2 := HRX.out.cell 2 _ rfl
     have g3 := HRX.out.cell 3 _ rfl
     have g4 := HRX.out.cell 4 _ rfl
     clear hga hgr HRX
     go_wp2_with (first | (go_at_call 43; have hs0 := HS1.out; clear HS1; refine (nms16_1 D 0 h 0 0 0 0 0 [] [] (fun _ _ => 0) ga a1 n1 c1 r.1 _ hs0 (by decide) HN1.out (by omega) HAX.out HGA.out (RS.below HR.out.1.1 HBW.out) (RS.off HR.out.1.1 encSt_len1 (by decide) HD.out)).mono ?_; rintro e w1 ⟨rfl, hq, hp⟩; rw [HA1.out]; have HS2 := hide (hp HA1.out); have hgq := hide hq; replace HBW := hide (GQ.bel HBW.out hq HBW.out.size HD.out); replace a0 := gqcell hq a0 (.inr HGA.out); replace g0 := gqcell hq g0 (.inr HGR.out); replace g1 := gqcell hq g1 (.inr HGR.out); replace g2 := gqcell hq g2 (.inr HGR.out); replace g3 := gqcell hq g3 (.inr HGR.out); replace g4 := gqcell hq g4 (.inr HGR.out); replace HAX := hide (HAX.out.gq hq (.inr HGA.out)); replace HZW := hide (Nat.le_trans HZW.out hq.1); clear hq hp hs0) | (go_at_call 43; have hs0 := HS2.out; clear HS2; refine (nms16_2 D (0 + 6) h (0 + n1) 0 0 0 0 ([] ++ r.1) [] (fun _ _ => 0) ga a2 n2 c2 r.2.1 _ hs0 (by decide) HN2.out (by omega) HAX.out HGA.out (RS.below HR.out.2.1.1 HBW.out) (RS.off HR.out.2.1.1 encSt_len1 (by decide) HD.out)).mono ?_; rintro e w2 ⟨rfl, hq, hp⟩; rw [HA2.out]; have HS3 := hide (hp HA2.out); have hgq := hide hq; replace HBW := hide (GQ.bel HBW.out hq HBW.out.size HD.out); replace a0 := gqcell hq a0 (.inr HGA.out); replace g0 := gqcell hq g0 (.inr HGR.out); replace g1 := gqcell hq g1 (.inr HGR.out); replace g2 := gqcell hq g2 (.inr HGR.out); replace g3 := gqcell hq g3 (.inr HGR.out); replace g4 := gqcell hq g4 (.inr HGR.out); replace HAX := hide (HAX.out.gq hq (.inr HGA.out)); replace HZW := hide (Nat.le_trans HZW.out hq.1); clear hq hp hs0) | (go_at_call 43; have hs0 := HS3.out; clear HS3; refine (nms16_3 D (0 + 6 + 6) h (0 + n1) (0 + n2) 0 0 0 ([] ++ r.1 ++ r.2.1) [] (fun _ _ => 0) ga a3 n3 c3 r.2.2.1 _ hs0 (by decide) HN3.out (by omega) HAX.out HGA.out (RS.below HR.out.2.2.1.1 HBW.out) (RS.off HR.out.2.2.1.1 encSt_len1 (by decide) HD.out)).mono ?_; rintro e w3 ⟨rfl, hq, hp⟩; rw [HA3.out]; have HS4 := hide (hp HA3.out); have hgq := hide hq; replace HBW := hide (GQ.bel HBW.out hq HBW.out.size HD.out); replace a0 := gqcell hq a0 (.inr HGA.out); replace g0 := gqcell hq g0 (.inr HGR.out); replace g1 := gqcell hq g1 (.inr HGR.out); replace g2 := gqcell hq g2 (.inr HGR.out); replace g3 := gqcell hq g3 (.inr HGR.out); replace g4 := gqcell hq g4 (.inr HGR.out); replace HAX := hide (HAX.out.gq hq (.inr HGA.out)); replace HZW := hide (Nat.le_trans HZW.out hq.1); clear hq hp hs0) | (go_at_call 47; have hs0 := HS4.out; clear HS4; refine (cls16 D (0 + 6 + 6 + 6) h (0 + n1) (0 + n2) (0 + n3) ([] ++ r.1 ++ r.2.1 ++ r.2.2.1) (fun _ _ => 0) a4 n4 c4 r.2.2.2.1 _ hs0 (by decide) HH.out.2.1 (RS.below HR.out.2.2.2.1.1 HBW.out) (RS.off HR.out.2.2.2.1.1 encCl_len (by decide) HD.out)).mono ?_; rintro e w4 ⟨rfl, hq, hp⟩; rw [HA4.out]; have hgq := hide hq; replace HBW := hide (GQ.bel HBW.out hq HBW.out.size HD.out); replace a0 := gqcell hq a0 (.inr HGA.out); replace g0 := gqcell hq g0 (.inr HGR.out); replace g1 := gqcell hq g1 (.inr HGR.out); replace g2 := gqcell hq g2 (.inr HGR.out); replace g3 := gqcell hq g3 (.inr HGR.out); replace g4 := gqcell hq g4 (.inr HGR.out); replace HAX := hide (HAX.out.gq hq (.inr HGA.out)); replace HZW := hide (Nat.le_trans HZW.out hq.1); clear hq hp hs0))
     go_ret
     exact ⟨by first | rfl | (rw [HZV.out]; rfl), HBW.out⟩
    ·have HA4 := hide h4
     rw [h4, Bool.true_and] at hz
     clear h4
     rcases h5 : allN n5 (okO h ([] ++ r.1 ++ r.2.1 ++ r.2.2.1) r.2.2.2.2) with _ | _
     ·have HA5 := hide h5
      rw [h5] at hz
      subst hz
      clear h5
      go_enter Tryz.func28, Tryz.ntmps28
      go_upto_region 1 with fail
      have HBW := hide (bel_next HB0.out (bel2 w (.cells #[.pointer (some ⟨D + 3, 0, none⟩)] 47) (.cells #[.slice a1 n1 c1, .slice a2 n2 c2, .slice a3 n3 c3, .slice a4 n4 c4, .slice a5 n5 c5] 29)))
      have HAX : Hid (BX ((w.alloc (.cells #[.pointer (some ⟨D + 3, 0, none⟩)] 47)).alloc (.cells #[.slice a1 n1 c1, .slice a2 n2 c2, .slice a3 n3 c3, .slice a4 n4 c4, .slice a5 n5 c5] 29)) w.heap.size #[.pointer (some ⟨D + 3, 0, none⟩)] 47) := (BX.new w _ rfl _ _).alloc _
      have HRX : Hid (BX ((w.alloc (.cells #[.pointer (some ⟨D + 3, 0, none⟩)] 47)).alloc (.cells #[.slice a1 n1 c1, .slice a2 n2 c2, .slice a3 n3 c3, .slice a4 n4 c4, .slice a5 n5 c5] 29)) (w.heap.size + 1) #[.slice a1 n1 c1, .slice a2 n2 c2, .slice a3 n3 c3, .slice a4 n4 c4, .slice a5 n5 c5] 29) := BX.new (w.alloc (.cells #[.pointer (some ⟨D + 3, 0, none⟩)] 47)) _ (by simp) _ _
      have HS1 := hide (HSN.out.below (bel2 w (.cells #[.pointer (some ⟨D + 3, 0, none⟩)] 47) (.cells #[.slice a1 n1 c1, .slice a2 n2 c2, .slice a3 n3 c3, .slice a4 n4 c4, .slice a5 n5 c5] 29)))
      have HZW := hide (bel2 w (.cells #[.pointer (some ⟨D + 3, 0, none⟩)] 47) (.cells #[.slice a1 n1 c1, .slice a2 n2 c2, .slice a3 n3 c3, .slice a4 n4 c4, .slice a5 n5 c5] 29)).size
      have HGA : Hid (D + 4 ≤ w.heap.size) := HDW.out
      have HGR : Hid (D + 4 ≤ w.heap.size + 1) := Nat.le_succ_of_le HDW.out
      generalize (w.alloc (.cells #[.pointer (some ⟨D + 3, 0, none⟩)] 47)).alloc (.cells #[.slice a1 n1 c1, .slice a2 n2 c2, .slice a3 n3 c3, .slice a4 n4 c4, .slice a5 n5 c5] 29) = u at *
      obtain ⟨ga, hga⟩ : ∃ ga, w.heap.size = ga := ⟨_, rfl⟩
      obtain ⟨gr, hgr⟩ : ∃ gr, w.heap.size + 1 = gr := ⟨_, rfl⟩
      rw [hgr] at HRX HGR ⊢
      rw [hga] at HAX HGA ⊢
      have a0 := HAX.out.cell 0 _ rfl
      have g0 := HRX.out.cell 0 _ rfl
      have g1 := HRX.out.cell 1 _ rfl
      have g2 := HRX.out.cell 2 _ rfl
      have g3 := HRX.out.cell 3 _ rfl
      have g4 := HRX.out.cell 4 _ rfl
      clear hga hgr HRX
      go_wp2_with (first | (go_at_call 43; have hs0 := HS1.out; clear HS1; refine (nms16_1 D 0 h 0 0 0 0 0 [] [] (fun _ _ => 0) ga a1 n1 c1 r.1 _ hs0 (by decide) HN1.out (by omega) HAX.out HGA.out (RS.below HR.out.1.1 HBW.out) (RS.off HR.out.1.1 encSt_len1 (by decide) HD.out)).mono ?_; rintro e w1 ⟨rfl, hq, hp⟩; rw [HA1.out]; have HS2 := hide (hp HA1.out); have hgq := hide hq; replace HBW := hide (GQ.bel HBW.out hq HBW.out.size HD.out); replace a0 := gqcell hq a0 (.inr HGA.out); replace g0 := gqcell hq g0 (.inr HGR.out); replace g1 := gqcell hq g1 (.inr HGR.out); replace g2 := gqcell hq g2 (.inr HGR.out); replace g3 := gqcell hq g3 (.inr HGR.out); replace g4 := gqcell hq g4 (.inr HGR.out); replace HAX := hide (HAX.out.gq hq (.inr HGA.out)); replace HZW := hide (Nat.le_trans HZW.out hq.1); clear hq hp hs0) | (go_at_call 43; have hs0 := HS2.out; clear HS2; refine (nms16_2 D (0 + 6) h (0 + n1) 0 0 0 0 ([] ++ r.1) [] (fun _ _ => 0) ga a2 n2 c2 r.2.1 _ hs0 (by decide) HN2.out (by omega) HAX.out HGA.out (RS.below HR.out.2.1.1 HBW.out) (RS.off HR.out.2.1.1 encSt_len1 (by decide) HD.out)).mono ?_; rintro e w2 ⟨rfl, hq, hp⟩; rw [HA2.out]; have HS3 := hide (hp HA2.out); have hgq := hide hq; replace HBW := hide (GQ.bel HBW.out hq HBW.out.size HD.out); replace a0 := gqcell hq a0 (.inr HGA.out); replace g0 := gqcell hq g0 (.inr HGR.out); replace g1 := gqcell hq g1 (.inr HGR.out); replace g2 := gqcell hq g2 (.inr HGR.out); replace g3 := gqcell hq g3 (.inr HGR.out); replace g4 := gqcell hq g4 (.inr HGR.out); replace HAX := hide (HAX.out.gq hq (.inr HGA.out)); replace HZW := hide (Nat.le_trans HZW.out hq.1); clear hq hp hs0) | (go_at_call 43; have hs0 := HS3.out; clear HS3; refine (nms16_3 D (0 + 6 + 6) h (0 + n1) (0 + n2) 0 0 0 ([] ++ r.1 ++ r.2.1) [] (fun _ _ => 0) ga a3 n3 c3 r.2.2.1 _ hs0 (by decide) HN3.out (by omega) HAX.out HGA.out (RS.below HR.out.2.2.1.1 HBW.out) (RS.off HR.out.2.2.1.1 encSt_len1 (by decide) HD.out)).mono ?_; rintro e w3 ⟨rfl, hq, hp⟩; rw [HA3.out]; have HS4 := hide (hp HA3.out); have hgq := hide hq; replace HBW := hide (GQ.bel HBW.out hq HBW.out.size HD.out); replace a0 := gqcell hq a0 (.inr HGA.out); replace g0 := gqcell hq g0 (.inr HGR.out); replace g1 := gqcell hq g1 (.inr HGR.out); replace g2 := gqcell hq g2 (.inr HGR.out); replace g3 := gqcell hq g3 (.inr HGR.out); replace g4 := gqcell hq g4 (.inr HGR.out); replace HAX := hide (HAX.out.gq hq (.inr HGA.out)); replace HZW := hide (Nat.le_trans HZW.out hq.1); clear hq hp hs0) | (go_at_call 47; have hs0 := HS4.out; clear HS4; refine (cls16 D (0 + 6 + 6 + 6) h (0 + n1) (0 + n2) (0 + n3) ([] ++ r.1 ++ r.2.1 ++ r.2.2.1) (fun _ _ => 0) a4 n4 c4 r.2.2.2.1 _ hs0 (by decide) HH.out.2.1 (RS.below HR.out.2.2.2.1.1 HBW.out) (RS.off HR.out.2.2.2.1.1 encCl_len (by decide) HD.out)).mono ?_; rintro e w4 ⟨rfl, hq, hp⟩; rw [HA4.out]; have HS5 := hide (hp HA4.out); have hgq := hide hq; replace HBW := hide (GQ.bel HBW.out hq HBW.out.size HD.out); replace a0 := gqcell hq a0 (.inr HGA.out); replace g0 := gqcell hq g0 (.inr HGR.out); replace g1 := gqcell hq g1 (.inr HGR.out); replace g2 := gqcell hq g2 (.inr HGR.out); replace g3 := gqcell hq g3 (.inr HGR.out); replace g4 := gqcell hq g4 (.inr HGR.out); replace HAX := hide (HAX.out.gq hq (.inr HGA.out)); replace HZW := hide (Nat.le_trans HZW.out hq.1); clear hq hp hs0) | (go_at_call 49; have hs0 := HS5.out; clear HS5; refine (ops16 D (0 + 6 + 6 + 6 + 12) h w0 (0 + n1) (0 + n2) (0 + n3) n4 ([] ++ r.1 ++ r.2.1 ++ r.2.2.1) (flL [] r.2.2.2.1) (fun _ _ => 0) a5 n5 c5 r.2.2.2.2 _ HD.out HBW.out hs0 (fun _ _ => Int.le_refl 0) (by decide) HH.out HR.out.2.2.2.2.1 HN5.out).mono ?_; rintro e w5 ⟨rfl, hq⟩; rw [HA5.out]; have hgq := hide hq; replace HBW := hide (GQ.bel HBW.out hq HBW.out.size HD.out); replace a0 := gqcell hq a0 (.inr HGA.out); replace g0 := gqcell hq g0 (.inr HGR.out); replace g1 := gqcell hq g1 (.inr HGR.out); replace g2 := gqcell hq g2 (.inr HGR.out); replace g3 := gqcell hq g3 (.inr HGR.out); replace g4 := gqcell hq g4 (.inr HGR.out); replace HAX := hide (HAX.out.gq hq (.inr HGA.out)); replace HZW := hide (Nat.le_trans HZW.out hq.1); clear hq hs0))
      go_ret
      exact ⟨by first | rfl | (rw [HZV.out]; rfl), HBW.out⟩
     ·have HA5 := hide h5
      rw [h5] at hz
      subst hz
      clear h5
      go_enter Tryz.func28, Tryz.ntmps28
      go_upto_region 1 with fail
      have HBW := hide (bel_next HB0.out (bel2 w (.cells #[.pointer (some ⟨D + 3, 0, none⟩)] 47) (.cells #[.slice a1 n1 c1, .slice a2 n2 c2, .slice a3 n3 c3, .slice a4 n4 c4, .slice a5 n5 c5] 29)))
      have HAX : Hid (BX ((w.alloc (.cells #[.pointer (some ⟨D + 3, 0, none⟩)] 47)).alloc (.cells #[.slice a1 n1 c1, .slice a2 n2 c2, .slice a3 n3 c3, .slice a4 n4 c4, .slice a5 n5 c5] 29)) w.heap.size #[.pointer (some ⟨D + 3, 0, none⟩)] 47) := (BX.new w _ rfl _ _).alloc _
      have HRX : Hid (BX ((w.alloc (.cells #[.pointer (some ⟨D + 3, 0, none⟩)] 47)).alloc (.cells #[.slice a1 n1 c1, .slice a2 n2 c2, .slice a3 n3 c3, .slice a4 n4 c4, .slice a5 n5 c5] 29)) (w.heap.size + 1) #[.slice a1 n1 c1, .slice a2 n2 c2, .slice a3 n3 c3, .slice a4 n4 c4, .slice a5 n5 c5] 29) := BX.new (w.alloc (.cells #[.pointer (some ⟨D + 3, 0, none⟩)] 47)) _ (by simp) _ _
      have HS1 := hide (HSN.out.below (bel2 w (.cells #[.pointer (some ⟨D + 3, 0, none⟩)] 47) (.cells #[.slice a1 n1 c1, .slice a2 n2 c2, .slice a3 n3 c3, .slice a4 n4 c4, .slice a5 n5 c5] 29)))
      have HZW := hide (bel2 w (.cells #[.pointer (some ⟨D + 3, 0, none⟩)] 47) (.cells #[.slice a1 n1 c1, .slice a2 n2 c2, .slice a3 n3 c3, .slice a4 n4 c4, .slice a5 n5 c5] 29)).size
      have HGA : Hid (D + 4 ≤ w.heap.size) := HDW.out
      have HGR : Hid (D + 4 ≤ w.heap.size + 1) := Nat.le_succ_of_le HDW.out
      generalize (w.alloc (.cells #[.pointer (some ⟨D + 3, 0, none⟩)] 47)).alloc (.cells #[.slice a1 n1 c1, .slice a2 n2 c2, .slice a3 n3 c3, .slice a4 n4 c4, .slice a5 n5 c5] 29) = u at *
      obtain ⟨ga, hga⟩ : ∃ ga, w.heap.size = ga := ⟨_, rfl⟩
      obtain ⟨gr, hgr⟩ : ∃ gr, w.heap.size + 1 = gr := ⟨_, rfl⟩
      rw [hgr] at HRX HGR ⊢
      rw [hga] at HAX HGA ⊢
      have a0 := HAX.out.cell 0 _ rfl
      have g0 := HRX.out.cell 0 _ rfl
      have g1 := HRX.out.cell 1 _ rfl
      have g2 := HRX.out.cell 2 _ rfl
      have g3 := HRX.out.cell 3 _ rfl
      have g4 := HRX.out.cell 4 _ rfl
      clear hga hgr HRX
      go_wp2_with (first | (go_at_call 43; have hs0 := HS1.out; clear HS1; refine (nms16_1 D 0 h 0 0 0 0 0 [] [] (fun _ _ => 0) ga a1 n1 c1 r.1 _ hs0 (by decide) HN1.out (by omega) HAX.out HGA.out (RS.below HR.out.1.1 HBW.out) (RS.off HR.out.1.1 encSt_len1 (by decide) HD.out)).mono ?_; rintro e w1 ⟨rfl, hq, hp⟩; rw [HA1.out]; have HS2 := hide (hp HA1.out); have hgq := hide hq; replace HBW := hide (GQ.bel HBW.out hq HBW.out.size HD.out); replace a0 := gqcell hq a0 (.inr HGA.out); replace g0 := gqcell hq g0 (.inr HGR.out); replace g1 := gqcell hq g1 (.inr HGR.out); replace g2 := gqcell hq g2 (.inr HGR.out); replace g3 := gqcell hq g3 (.inr HGR.out); replace g4 := gqcell hq g4 (.inr HGR.out); replace HAX := hide (HAX.out.gq hq (.inr HGA.out)); replace HZW := hide (Nat.le_trans HZW.out hq.1); clear hq hp hs0) | (go_at_call 43; have hs0 := HS2.out; clear HS2; refine (nms16_2 D (0 + 6) h (0 + n1) 0 0 0 0 ([] ++ r.1) [] (fun _ _ => 0) ga a2 n2 c2 r.2.1 _ hs0 (by decide) HN2.out (by omega) HAX.out HGA.out (RS.below HR.out.2.1.1 HBW.out) (RS.off HR.out.2.1.1 encSt_len1 (by decide) HD.out)).mono ?_; rintro e w2 ⟨rfl, hq, hp⟩; rw [HA2.out]; have HS3 := hide (hp HA2.out); have hgq := hide hq; replace HBW := hide (GQ.bel HBW.out hq HBW.out.size HD.out); replace a0 := gqcell hq a0 (.inr HGA.out); replace g0 := gqcell hq g0 (.inr HGR.out); replace g1 := gqcell hq g1 (.inr HGR.out); replace g2 := gqcell hq g2 (.inr HGR.out); replace g3 := gqcell hq g3 (.inr HGR.out); replace g4 := gqcell hq g4 (.inr HGR.out); replace HAX := hide (HAX.out.gq hq (.inr HGA.out)); replace HZW := hide (Nat.le_trans HZW.out hq.1); clear hq hp hs0) | (go_at_call 43; have hs0 := HS3.out; clear HS3; refine (nms16_3 D (0 + 6 + 6) h (0 + n1) (0 + n2) 0 0 0 ([] ++ r.1 ++ r.2.1) [] (fun _ _ => 0) ga a3 n3 c3 r.2.2.1 _ hs0 (by decide) HN3.out (by omega) HAX.out HGA.out (RS.below HR.out.2.2.1.1 HBW.out) (RS.off HR.out.2.2.1.1 encSt_len1 (by decide) HD.out)).mono ?_; rintro e w3 ⟨rfl, hq, hp⟩; rw [HA3.out]; have HS4 := hide (hp HA3.out); have hgq := hide hq; replace HBW := hide (GQ.bel HBW.out hq HBW.out.size HD.out); replace a0 := gqcell hq a0 (.inr HGA.out); replace g0 := gqcell hq g0 (.inr HGR.out); replace g1 := gqcell hq g1 (.inr HGR.out); replace g2 := gqcell hq g2 (.inr HGR.out); replace g3 := gqcell hq g3 (.inr HGR.out); replace g4 := gqcell hq g4 (.inr HGR.out); replace HAX := hide (HAX.out.gq hq (.inr HGA.out)); replace HZW := hide (Nat.le_trans HZW.out hq.1); clear hq hp hs0) | (go_at_call 47; have hs0 := HS4.out; clear HS4; refine (cls16 D (0 + 6 + 6 + 6) h (0 + n1) (0 + n2) (0 + n3) ([] ++ r.1 ++ r.2.1 ++ r.2.2.1) (fun _ _ => 0) a4 n4 c4 r.2.2.2.1 _ hs0 (by decide) HH.out.2.1 (RS.below HR.out.2.2.2.1.1 HBW.out) (RS.off HR.out.2.2.2.1.1 encCl_len (by decide) HD.out)).mono ?_; rintro e w4 ⟨rfl, hq, hp⟩; rw [HA4.out]; have HS5 := hide (hp HA4.out); have hgq := hide hq; replace HBW := hide (GQ.bel HBW.out hq HBW.out.size HD.out); replace a0 := gqcell hq a0 (.inr HGA.out); replace g0 := gqcell hq g0 (.inr HGR.out); replace g1 := gqcell hq g1 (.inr HGR.out); replace g2 := gqcell hq g2 (.inr HGR.out); replace g3 := gqcell hq g3 (.inr HGR.out); replace g4 := gqcell hq g4 (.inr HGR.out); replace HAX := hide (HAX.out.gq hq (.inr HGA.out)); replace HZW := hide (Nat.le_trans HZW.out hq.1); clear hq hp hs0) | (go_at_call 49; have hs0 := HS5.out; clear HS5; refine (ops16 D (0 + 6 + 6 + 6 + 12) h w0 (0 + n1) (0 + n2) (0 + n3) n4 ([] ++ r.1 ++ r.2.1 ++ r.2.2.1) (flL [] r.2.2.2.1) (fun _ _ => 0) a5 n5 c5 r.2.2.2.2 _ HD.out HBW.out hs0 (fun _ _ => Int.le_refl 0) (by decide) HH.out HR.out.2.2.2.2.1 HN5.out).mono ?_; rintro e w5 ⟨rfl, hq⟩; rw [HA5.out]; have hgq := hide hq; replace HBW := hide (GQ.bel HBW.out hq HBW.out.size HD.out); replace a0 := gqcell hq a0 (.inr HGA.out); replace g0 := gqcell hq g0 (.inr HGR.out); replace g1 := gqcell hq g1 (.inr HGR.out); replace g2 := gqcell hq g2 (.inr HGR.out); replace g3 := gqcell hq g3 (.inr HGR.out); replace g4 := gqcell hq g4 (.inr HGR.out); replace HAX := hide (HAX.out.gq hq (.inr HGA.out)); replace HZW := hide (Nat.le_trans HZW.out hq.1); clear hq hs0))
      go_ret
      exact ⟨by first | rfl | (rw [HZV.out]; rfl), HBW.out⟩
end Go.Proofs.YtomppblgalepjaaGreatDoor

