/- Texts of this claim, joined: T4. -/
import Derived.Test.YtomppblgalepjaaGreatDoorJ19
import Derived.Test.YtomppblgalepjaaGreatDoorJ29
/- Names out of lines; all names of rules: the document's (layer 16). -/
namespace Go.Proofs.YtomppblgalepjaaGreatDoor
open Go.RowKit Go.Lib
set_option linter.unusedVariables false
theorem Tryz.infoSt : (Tryz.prog.info? 9).map (fun i => (i.zero, i.size, i.bytes)) = some (some (.string ⟨#[]⟩), 1, 16) := by kernel_rfl
abbrev OwnS (N : Nat) (w : World) (v : Value) (l : List ByteArray) : Prop := OwnR encSt 1 9 N w v l
def ROp : Rf Op := fun w r o F => ∃ p n c, r = [.string o.1, .slice p n c] ∧ RS encDg 3 w p n o.2 ∧ CP p n c ∧ FlF w p n F
theorem ROp.st : StF ROp := by
 refine ⟨?_, ?_⟩
 ·rintro w w' r x F ⟨p, n, c, h1, h2, h3, h4, h5⟩ hk
  refine ⟨p, n, c, h1, h2.keep (fun h0 b hb => hk _ (h5 h0 b hb)), h3, fun g hg => ?_, h5⟩
  have := h4 g hg
  have e := hk g hg
  rw [Array.getElem?_eq_getElem this] at e
  exact (Array.getElem?_eq_some_iff.1 e).1
 ·rintro w r x F ⟨p, n, c, h1, h2, h3, h4, h5⟩ g hg
  exact h4 g hg
def RuM (w : World) (a1 a2 a3 a4 a5 : Option Addr) (n1 n2 n3 n4 n5 c1 c2 c3 c4 c5 : Nat) (r : Ru) : Prop := (RS encSt 1 w a1 n1 r.1 ∧ CP a1 n1 c1) ∧ (RS encSt 1 w a2 n2 r.2.1 ∧ CP a2 n2 c2) ∧ (RS encSt 1 w a3 n3 r.2.2.1 ∧ CP a3 n3 c3) ∧ (RS encCl 5 w a4 n4 r.2.2.2.1 ∧ CP a4 n4 c4) ∧ (SF 2 ROp w a5 n5 r.2.2.2.2 ∧ CP a5 n5 c5)
theorem RuM.below {w w' : World} {a1 a2 a3 a4 a5 : Option Addr} {n1 n2 n3 n4 n5 c1 c2 c3 c4 c5 : Nat} {r : Ru} (h : RuM w a1 a2 a3 a4 a5 n1 n2 n3 n4 n5 c1 c2 c3 c4 c5 r) (hb : Below w.heap.size w w') : RuM w' a1 a2 a3 a4 a5 n1 n2 n3 n4 n5 c1 c2 c3 c4 c5 r :=
 ⟨⟨h.1.1.below hb, h.1.2⟩, ⟨h.2.1.1.below hb, h.2.1.2⟩, ⟨h.2.2.1.1.below hb, h.2.2.1.2⟩, ⟨h.2.2.2.1.1.below hb, h.2.2.2.1.2⟩, ⟨h.2.2.2.2.1.below ROp.st hb, h.2.2.2.2.2⟩⟩
theorem SF.op {w : World} {b off n : Nat} {l : List Op} (h : SF 2 ROp w (some ⟨b, off, none⟩) n l) (i : Nat) (hi : i < n) : ∃ (o : Op) (p : Option Addr) (c : Nat), l[i]? = some o ∧ RS encDg 3 w p o.2.length o.2 ∧ CP p o.2.length c ∧ w.cell? ⟨b, off + i * 2, none⟩ = some (.string o.1) ∧ w.cell? ⟨b, off + i * 2 + 1, none⟩ = some (.slice p o.2.length c) := by
 obtain ⟨r, o, F, hx, ⟨p, m, c, hr, h2, h3, _⟩, hc⟩ := h.at i hi
 have e := h2.1
 subst e
 exact ⟨o, p, c, hx, h2, h3, hc 0 _ (by rw [hr]; rfl), hc 1 _ (by rw [hr]; rfl)⟩
set_option maxRecDepth 2000 in
set_option maxHeartbeats 4000000 in
theorem All16 {a1 a2 a3 a4 a5 : Option Addr} {n1 n2 n3 n4 n5 c1 c2 c3 c4 c5 : Nat} {S C G : List ByteArray} {K : List Cl} {O : List Op} (w : World) (hR : RuM w a1 a2 a3 a4 a5 n1 n2 n3 n4 n5 c1 c2 c3 c4 c5 (S, C, G, K, O)) (h1 : n1 ≤ 1000) (h2 : n2 ≤ 1000) (h3 : n3 ≤ 1000) (h5 : n5 ≤ 1000) : Calls Tryz.prog 30 #[.agg #[.slice a1 n1 c1, .slice a2 n2 c2, .slice a3 n3 c3, .slice a4 n4 c4, .slice a5 n5 c5]] w fun e w' => ∃ v, e = .returned v ∧ OwnS w.heap.size w' v (allR (S, C, G, K, O)) ∧ Below w.heap.size w w' := by
 have b0 := bel1 w (.cells #[.slice a1 n1 c1, .slice a2 n2 c2, .slice a3 n3 c3, .slice a4 n4 c4, .slice a5 n5 c5] 29)
 have HP : Hid (BX (w.alloc (.cells #[.slice a1 n1 c1, .slice a2 n2 c2, .slice a3 n3 c3, .slice a4 n4 c4, .slice a5 n5 c5] 29)) w.heap.size #[.slice a1 n1 c1, .slice a2 n2 c2, .slice a3 n3 c3, .slice a4 n4 c4, .slice a5 n5 c5] 29) := BX.new w _ rfl _ _
 have hR2 := hR.below b0
 have HL1 : Hid (RS encSt 1 (w.alloc (.cells #[.slice a1 n1 c1, .slice a2 n2 c2, .slice a3 n3 c3, .slice a4 n4 c4, .slice a5 n5 c5] 29)) a1 n1 S) := hR2.1.1
 have HC1 := hide hR2.1.2
 have HL2 : Hid (RS encSt 1 (w.alloc (.cells #[.slice a1 n1 c1, .slice a2 n2 c2, .slice a3 n3 c3, .slice a4 n4 c4, .slice a5 n5 c5] 29)) a2 n2 C) := hR2.2.1.1
 have HC2 := hide hR2.2.1.2
 have HL3 : Hid (RS encSt 1 (w.alloc (.cells #[.slice a1 n1 c1, .slice a2 n2 c2, .slice a3 n3 c3, .slice a4 n4 c4, .slice a5 n5 c5] 29)) a3 n3 G) := hR2.2.2.1.1
 have HC3 := hide hR2.2.2.1.2
 have HL5 : Hid (SF 2 ROp (w.alloc (.cells #[.slice a1 n1 c1, .slice a2 n2 c2, .slice a3 n3 c3, .slice a4 n4 c4, .slice a5 n5 c5] 29)) a5 n5 O) := hR2.2.2.2.2.1
 have HB := hide b0
 clear hR hR2 b0
 go_enter Tryz.func30, Tryz.ntmps30
 go_upto_region 1 with fail
 generalize (w.alloc (.cells #[.slice a1 n1 c1, .slice a2 n2 c2, .slice a3 n3 c3, .slice a4 n4 c4, .slice a5 n5 c5] 29)) = u at *
 have p0 := HP.out.cell 0 _ rfl
 have p1 := HP.out.cell 1 _ rfl
 have p2 := HP.out.cell 2 _ rfl
 refine wp_region_held_drew (S := fun W => Below u.heap.size u W) (by kernel_rfl) ((Below.refl _ u).drew) (fun hS0 => ?_)
 generalize u.drew = x1 at *
 refine tkJ 1 6 hS0 ?_; simp only [ly]
 refine tkI 2 7 ?v2 rfl rfl hS0 ?hy2 ?_
 case hy2 => (intro W hW; have e0 := bcell hW p0; have e1 := bcell hW p1; have e2 := bcell hW p2; clear hW; go_simp; try rfl)
 simp only [ly]
 refine tkJ 4 9 hS0 ?_; simp only [ly]
 refine tkI 5 10 ?v4 rfl rfl hS0 ?hy4 ?_
 case hy4 => (intro W hW; have e0 := bcell hW p0; have e1 := bcell hW p1; have e2 := bcell hW p2; clear hW; go_simp; try rfl)
 simp only [ly]
 refine tkJ 7 12 hS0 ?_; simp only [ly]
 refine tkI 8 13 ?v6 rfl rfl hS0 ?hy6 ?_
 case hy6 => (intro W hW; have e0 := bcell hW p0; have e1 := bcell hW p1; have e2 := bcell hW p2; clear hW; go_simp; try rfl)
 simp only [ly]
 refine wpAnyH_ready (rs := [0]) (by kernel_rfl) (by simp) ?_
 refine AllReadyH.cons rfl (fun K hK => ?_) AllReadyH.nil
 go_simp
 have hb := bel1 x1 (.cells #[] 9)
 have OW := hide (OwnR.made (enc := encSt) (k := 1) (T := 9) x1 u.heap.size _ rfl hS0.size)
 generalize x1.alloc (.cells #[] 9) = x2 at *
 refine hK.out _ _ ?hs7 (fun hS1 => ?_)
 case hs7 => exact bel_next hS0 hb
 clear hK K hb
 try simp only [ly]
 refine wpAnyH_ready (rs := [3]) (by kernel_rfl) (by simp) ?_
 refine AllReadyH.cons rfl (fun K hK => ?_) AllReadyH.nil
 refine append_rg _ _ 25 rfl Tryz.underlying25 Tryz.infoSt rfl (by decide) (by decide) encSt_len encSt_one u.heap.size _ [] S rfl OW.out a1 n1 c1 rfl HC1.out.2.2 (RS.below HL1.out hS1) (by have e1 := HL1.out.1; have e2 := HL2.out.1; have e3 := HL3.out.1; simp only [List.length_nil]; omega) hS1.size ?_
 intro v1 x3 ho hgr hbel
 have BS1 := hbel _ hS1
 replace OW := hide ho
 clear ho hgr hbel
 change K (Act.put _ (some 8) _) _
 refine hK.out _ _ ?hs8 (fun hS2 => ?_)
 case hs8 => exact BS1
 clear hK K
 try simp only [ly]
 refine wpAnyH_ready (rs := [6]) (by kernel_rfl) (by simp) ?_
 refine AllReadyH.cons rfl (fun K hK => ?_) AllReadyH.nil
 refine append_rg _ _ 25 rfl Tryz.underlying25 Tryz.infoSt rfl (by decide) (by decide) encSt_len encSt_one u.heap.size _ ([] ++ S) C rfl OW.out a2 n2 c2 rfl HC2.out.2.2 (RS.below HL2.out hS2) (by have e1 := HL1.out.1; have e2 := HL2.out.1; have e3 := HL3.out.1; simp only [List.length_append, List.length_nil]; omega) hS2.size ?_
 intro v2 x4 ho hgr hbel
 have BS2 := hbel _ hS2
 replace OW := hide ho
 clear ho hgr hbel
 change K (Act.put _ (some 11) _) _
 refine hK.out _ _ ?hs9 (fun hS3 => ?_)
 case hs9 => exact BS2
 clear hK K
 try simp only [ly]
 refine wpAnyH_ready (rs := [9]) (by kernel_rfl) (by simp) ?_
 refine AllReadyH.cons rfl (fun K hK => ?_) AllReadyH.nil
 refine append_rg _ _ 25 rfl Tryz.underlying25 Tryz.infoSt rfl (by decide) (by decide) encSt_len encSt_one u.heap.size _ ([] ++ S ++ C) G rfl OW.out a3 n3 c3 rfl HC3.out.2.2 (RS.below HL3.out hS3) (by have e1 := HL1.out.1; have e2 := HL2.out.1; have e3 := HL3.out.1; simp only [List.length_append, List.length_nil]; omega) hS3.size ?_
 intro v3 x5 ho hgr hbel
 have BS3 := hbel _ hS3
 replace OW := hide ho
 clear ho hgr hbel
 change K (Act.put _ (some 14) _) _
 refine hK.out _ _ ?hs10 (fun hS4 => ?_)
 case hs10 => exact BS3
 clear hK K
 try simp only [ly]
 refine tkJ 10 3 hS4 ?_; simp only [ly]
 refine wpAnyH_done (by kernel_rfl) ?_ _
 rw [List.nil_append] at OW
 have HBu := hide (BS3)
 go_wp2
 go_loopw [3, 4] (fun V v wr => ∃ i : Nat, i ≤ n5 ∧ v = .int .i64 i ∧ Hid (OwnS u.heap.size wr V (S ++ C ++ G ++ (O.take i).map (·.1))) ∧ Hid (Below u.heap.size u wr)) (fun _ v _ => n5 - (RowKit.intOf v).toNat)
 case atStart => exact ⟨0, by omega, rfl, (by unfold Hid; rw [List.take_zero, List.map_nil, List.append_nil]; exact OW.out), HBu⟩
 case round =>
  obtain ⟨i, hi, rfl, HO, HBr⟩ := hrel
  have p4 := (HP.out.below HBr.out).cell 4 _ rfl
  by_cases hlt : i < n5
  ·have hi0 : (0 : Int) ≤ (i : Int) := by omega
   have hi1 : (i : Int) < (n5 : Int) := by omega
   obtain ⟨b, off, rfl⟩ := HL5.out.addr (by omega)
   obtain ⟨⟨nm, ds⟩, p, c', hx, _, _, c0, _⟩ := (HL5.out.below ROp.st HBr.out).op i hlt
   have hs : (O.take (i + 1)).map (·.1) = (O.take i).map (·.1) ++ [nm] := by rw [List.take_add_one, hx, Option.toList_some, List.map_append]; rfl
   simp only at c0
   clear hx
   go_wp2_with (at_builtin; refine Stop.at ?_)
   unfold Stop
   refine append_rows rfl _ _ 25 rfl Tryz.underlying25 Tryz.infoSt rfl (by decide) (by decide) encSt_len encSt_one u.heap.size _ _ [nm] rfl (OwnR.below HO.out (bel1 wr _)) (some ⟨_, 0, none⟩) 1 1 rfl (fun h => by cases h) (RS.new encSt_len wr _ rfl [nm] _ rfl 9 (0, 0) 1 rfl (by decide)) (by have e1 := HL1.out.1; have e2 := HL2.out.1; have e3 := HL3.out.1; simp only [List.length_append, List.length_singleton, List.length_map, List.length_take]; omega) (Nat.le_trans HBr.out.size (bel1 wr _).size) ?_
   intro v5 w5 ho hgr hbel
   rw [List.append_assoc, ← hs] at ho
   have HO5 := hide ho
   have HB5 := hide (hbel _ (bel_next HBr.out (bel1 wr _)))
   clear ho hgr hbel hs c0 p4
   go_wp2
   go_roundw
   case rel => exact ⟨i + 1, by omega, by go_num, HO5, HB5⟩
   case measure => simp [RowKit.intOf] <;> omega
  ·obtain rfl : i = n5 := by omega
   have HO5 := hide HO.out
   rw [List.take_of_length_le (by rw [HL5.out.len]; exact Nat.le_refl _)] at HO5
   go_wp2
   go_ret
   exact ⟨_, rfl, HO5.out.mono HB.out.size, bel_next HB.out HBr.out⟩
end Go.Proofs.YtomppblgalepjaaGreatDoor

