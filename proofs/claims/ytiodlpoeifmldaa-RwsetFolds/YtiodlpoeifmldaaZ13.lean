/- An entry inserted into a set of the call's own; a key that is found; whether all may be; dots renewed (layer 9). -/
import Derived.Test.YtiodlpoeifmldaaZ11
import Derived.Test.YtiodlpoeifmldaaAB4
namespace Go.Proofs.Ytiodlpoeifmldaa
open Go.RowKit Go.Lib
set_option linter.unusedVariables false
theorem RSN.bx {w : World} {x : Ne} {g : Nat} (h : BX w g (encN x).toArray 48) : RS encN 3 w (some ⟨g, 0, none⟩) 1 [x] := by
  refine ⟨rfl, by decide, .inr ⟨g, 0, rfl, fun i y hy j v hj => ?_⟩⟩
  rcases i with _ | i
  · simp at hy
    subst hy
    simp only [Nat.zero_add, Nat.zero_mul]
    exact h.cell j v (by rwa [List.getElem?_toArray])
  · simp at hy
theorem grown_any {w w' : World} (h : w.grownBy w' none) (r : Option Nat) : w.grownBy w' r := ⟨h.os, h.tape, h.output, h.size, fun j hj _ => h.block j hj (by simp)⟩
theorem lo_ins {N : Nat} {w : World} {xs : List Ne} {x : Ne} (h : ∀ y ∈ xs, Lo N w y.2.1 ∧ Lo N w y.2.2) (hx : Lo N w x.2.1 ∧ Lo N w x.2.2) (i : Nat) : ∀ y ∈ xs.take i ++ x :: xs.drop i, Lo N w y.2.1 ∧ Lo N w y.2.2 := by
  intro y hy
  rcases List.mem_append.1 hy with q | q
  · exact h y (List.mem_of_mem_take q)
  · rcases List.mem_cons.1 q with rfl | q
    · exact hx
    · exact h y (List.mem_of_mem_drop q)
set_option maxHeartbeats 2000000 in
set_option maxRecDepth 2000 in
/-- At the end. -/
theorem ins_end (N : Nat) (V : Value) (es : List En) (x : Ne) (e : En) (vb : Nat) (w : World) (hO : ON N w V es) (hv : BX w vb (encN x).toArray 48) (hR : RelN w x e) (hL : Lo N w x.2.1 ∧ Lo N w x.2.2) (hbig : es.length ≤ 4000) (hN : N ≤ w.heap.size) :
    Calls Try.prog 60 #[V, .int .i64 es.length, .slice (some ⟨vb, 0, none⟩) 1 1] w fun e' w' => ∃ v, e' = .returned v ∧ ON N w' v (es ++ [e]) ∧ ∀ w0, Below N w0 w → Below N w0 w' := by
  obtain ⟨p, c, rfl, h1, h2⟩ := hO.open
  have HO := hide hO
  have HV := hide (RSN.bx hv)
  have HR := hide (Rels.one hR)
  have HL := hide hL
  have hc1 := h2.1
  have hc2 := h2.2.1
  unfold maxLen at hc2
  have HB := hide hbig
  have HN := hide hN
  clear hO hv hR hL h1 hbig hN
  generalize hn : es.length = n at *
  have HNN := hide hn
  clear hn
  rcases p with _ | ⟨g, off, sp⟩
  · obtain rfl : c = 0 := h2.2.2 rfl
    obtain rfl : n = 0 := by omega
    clear h2
    go_enter Try.func60, Try.ntmps60
    go_wp2_with (at_builtin; refine append_en rfl _ _ rfl N _ es [e] rfl HO.out (some ⟨vb, 0, none⟩) 1 1 rfl (fun h => by cases h) [x] HV.out HR.out (fun y hy => by rw [List.mem_singleton] at hy; subst hy; exact HL.out) (by have := HB.out; have := HNN.out; rw [List.length_singleton]; omega) HN.out ?_; intro v3 w3 ho3 hg3 hbel3)
    go_ret
    exact ⟨_, rfl, ho3, hbel3⟩
  · clear h2
    by_cases hcn : c = n
    · subst hcn
      go_enter Try.func60, Try.ntmps60
      go_wp2_with (at_builtin; refine append_en rfl _ _ rfl N _ es [e] rfl HO.out (some ⟨vb, 0, none⟩) 1 1 rfl (fun h => by cases h) [x] HV.out HR.out (fun y hy => by rw [List.mem_singleton] at hy; subst hy; exact HL.out) (by have := HB.out; have := HNN.out; rw [List.length_singleton]; omega) HN.out ?_; intro v3 w3 ho3 hg3 hbel3)
      go_ret
      exact ⟨_, rfl, ho3, hbel3⟩
    · go_enter Try.func60, Try.ntmps60
      go_wp2_with (at_builtin; refine append_en rfl _ _ rfl N _ es [e] rfl HO.out (some ⟨vb, 0, none⟩) 1 1 rfl (fun h => by cases h) [x] HV.out HR.out (fun y hy => by rw [List.mem_singleton] at hy; subst hy; exact HL.out) (by have := HB.out; have := HNN.out; rw [List.length_singleton]; omega) HN.out ?_; intro v3 w3 ho3 hg3 hbel3)
      go_ret
      exact ⟨_, rfl, ho3, hbel3⟩
theorem ins9_any (N : Nat) (V : Value) (es : List En) (i : Nat) (x : Ne) (e : En) (vb : Nat) (w : World) (hO : ON N w V es) (hi : i ≤ es.length) (hv : BX w vb (encN x).toArray 48) (hvb : V.ownBlock ≠ some vb) (hR : RelN w x e) (hL : Lo N w x.2.1 ∧ Lo N w x.2.2) (hbig : es.length ≤ 4000) (hN : N ≤ w.heap.size) :
    Calls Try.prog 60 #[V, .int .i64 i, .slice (some ⟨vb, 0, none⟩) 1 1] w fun e' w' => ∃ v, e' = .returned v ∧ ON N w' v (es.take i ++ e :: es.drop i) ∧ ∀ w0, Below N w0 w → Below N w0 w' := by
  rcases Nat.lt_or_ge i es.length with hlt | hge
  · obtain ⟨g, n, cap, rfl⟩ : ∃ g n cap, V = .slice (some ⟨g, 0, none⟩) n cap := by
      obtain ⟨xs, ⟨_, h⟩, h2, _⟩ := hO
      rcases h with ⟨_, h⟩ | ⟨g, cap, _, h, _⟩
      · rw [h2.1] at h; omega
      · exact ⟨g, _, cap, h⟩
    obtain ⟨xs, C, k0, k0', k1, k2, k3, k4, k5, k6, k7, k8, k9⟩ := hO.row
    have hne : vb ≠ g := fun q => hvb (by rw [q]; rfl)
    rcases Nat.lt_or_ge n cap with hr | hr
    · refine (ins_shift g n cap i vb C xs x w (by omega) k0 k2 k5 k6 (by omega) (by unfold maxLen at k4; omega) hne hv).mono ?_
      rintro _ w' ⟨rfl, hg, C', q1, q2, q3⟩
      obtain ⟨r1, r2⟩ := Rels.grown k9 (rels_ins k7 hR i) (lo_ins k8 hL i) hg
      exact ⟨_, rfl, ON.of (xs := xs.take i ++ x :: xs.drop i) (by simp only [List.length_append, List.length_take, List.length_cons, List.length_drop]; omega) k1 q1 (by omega) k4 q2 q3 r1 r2, fun w0 hb => hb.grown hg hN (fun j hj => by cases hj; exact k1)⟩
    · refine (ins_grow g n cap i vb C xs x w (by omega) k0 k2 k5 k6 (by omega) (by omega) (by omega) hv).mono ?_
      rintro _ w' ⟨G, rfl, g1, g2, hg, C', q1, q2, q3⟩
      have hg' := grown_any hg (some g)
      obtain ⟨r1, r2⟩ := Rels.grown k9 (rels_ins k7 hR i) (lo_ins k8 hL i) hg'
      exact ⟨_, rfl, ON.of (xs := xs.take i ++ x :: xs.drop i) (by simp only [List.length_append, List.length_take, List.length_cons, List.length_drop]; omega) hN q1 (by omega) g2 q2 q3 r1 r2, fun w0 hb => hb.grown hg' hN (fun j hj => by cases hj; exact k1)⟩
  · obtain rfl : i = es.length := by omega
    rw [List.take_length, List.drop_length]
    exact ins_end N V es x e vb w hO hv hR hL hbig hN
theorem placeP_not {s : List En} (hs : SrtK s) {k : ByteArray} {i : Nat} (h : PlaceK s k i) (hx : ∀ x, s[i]? = some x → x.1 ≠ k) (p : Pr) : getP s k = ([], []) ∧ putP s k p = s.take i ++ (if p = ([], []) then [] else [(k, p)]) ++ s.drop i := by
  have up : ∀ j y, i ≤ j → s[j]? = some y → ltK k y.1 = true := by
    intro j y hj hy
    have hi : i < s.length := by have := (List.getElem?_eq_some_iff.1 hy).1; omega
    have h0 : s[i]? = some s[i] := List.getElem?_eq_getElem hi
    have h1 : ltK k s[i].1 = true := by
      rcases hb : ltK k s[i].1 with _ | _
      · exact absurd (ltK_tri (h.2.2 i _ (Nat.le_refl _) h0) hb) (hx _ h0)
      · rfl
    rcases Nat.lt_or_ge i j with hij | hij
    · exact ltK_trans h1 (srt_lt hs h0 hy hij)
    · obtain rfl : i = j := by omega
      rw [h0] at hy
      cases hy
      exact h1
  constructor
  · apply getP_not
    intro x hx'
    obtain ⟨j, hj⟩ := List.mem_iff_getElem?.1 hx'
    rcases Nat.lt_or_ge j i with hji | hji
    · exact ltK_ne (h.2.1 j x hji hj)
    · exact (ltK_ne (up j x hji hj)).symm
  · unfold putP
    rw [srt_cut hs h.2.1 h.2.2, srt_cut2 hs (i := i) (fun j y hj hy => ltK_asym (h.2.1 j y hj hy)) up]
theorem there_no {s : List En} {t : ByteArray} {i : Nat} (h : thereB s t i = false) : ∀ x, s[i]? = some x → x.1 ≠ t := fun x hx e => by
  unfold thereB at h
  rw [hx] at h
  simp [e] at h
theorem there_yes {s : List En} {t : ByteArray} {i : Nat} (h : thereB s t i = true) : ∃ x, s[i]? = some x ∧ x.1 = t := by
  unfold thereB at h
  split at h
  · cases h
  · exact ⟨_, by assumption, by simpa using h⟩
/-- What a key's entry is told as. -/
def Out9 (w : World) (v : Value) (t : ByteArray) (q : Pr) : Prop := ∃ (p : Option Addr) (n c : Nat) (pd : Option Addr) (nd cd : Nat), v = .agg #[.string t, .slice p n c, .slice pd nd cd] ∧ DS w p n q.1 ∧ CP p n c ∧ DS w pd nd q.2 ∧ CP pd nd cd
set_option maxHeartbeats 2000000 in
set_option maxRecDepth 2000 in
theorem find9_any (a : Option Addr) (n cap : Nat) (s : List En) (t : ByteArray) (w : World) (hA : NSS w a n s) (hS : SrtK s) (hn : n ≤ 4000) (hd : ∀ x ∈ s, x.2.1.length ≤ 900000 ∧ x.2.2.length ≤ 900000) :
    Calls Try.prog 33 #[.slice a n cap, .string t] w fun e w' => ∃ v, e = .returned v ∧ Out9 w' v t (getP s t) ∧ Below w.heap.size w w' := by
  have B0 := hide (bel1 w (.cells #[.string ⟨#[]⟩, .slice none 0 0, .slice none 0 0] 48))
  have HX0 := hide (BX.new w _ rfl #[.string ⟨#[]⟩, .slice none 0 0, .slice none 0 0] 48)
  have HV := hide (hA.below B0.out)
  have HLEN := hide hA.len
  have HS := hide hS
  have HDD := hide hd
  have HPL := hide (plc9w_any a n cap s t _ HV.out hS hn)
  clear hA hS hd
  go_enter Try.func33, Try.ntmps33
  go_upto_region 1 with fail
  generalize w.alloc (.cells #[.string ⟨#[]⟩, .slice none 0 0, .slice none 0 0] 48) = u at *
  go_upto_region 2 with (go_at_call 55; refine HPL.out.mono ?_; rintro e w1 ⟨⟨i, rfl, hp⟩, hb⟩)
  have HP := hide hp
  have HB := hide (bel_next B0.out hb)
  have HX := hide (HX0.out.below hb)
  replace HV := hide (HV.out.below hb)
  clear hp hb HPL HX0 B0
  rcases ht : thereB s t i with _ | _
  · have HG : Hid (getP s t = ([], [])) := (placeP_not HS.out HP.out (there_no ht) ([], [])).1
    have f0 := HX.out.free 0
    have f1 := HX.out.free 1
    have f2 := HX.out.free 2
    have q0 := HX.out.cell 0 _ rfl
    have q1 := HX.out.cell 1 _ rfl
    have q2 := HX.out.cell 2 _ rfl
    obtain ⟨hp1, _, hp2, _⟩ := HX.out.put3 (.string t) (.slice none 0 0) (.slice none 0 0)
    have HP1 := hide hp1
    have HP2 := hide (hp2 _ _ HB.out (Nat.le_refl _))
    clear hp1 hp2
    go_wp2
    refine bodyPost_ret (results_cell_row rfl _ _ _ _ _ _ _ rfl HP1.out Try.underlying48 rfl (by kernel_rfl)) rfl ?_
    refine ⟨_, rfl, ⟨none, 0, 0, none, 0, 0, rfl, ?_, ⟨Nat.le_refl _, by decide, fun _ => rfl⟩, ?_, Nat.le_refl _, by decide, fun _ => rfl⟩, HP2.out⟩
    · rw [HG.out]; exact DS.nil _ _
    · rw [HG.out]; exact DS.nil _ _
  · obtain ⟨x, hx, he⟩ := there_yes ht
    have HG := hide (placeP_there HS.out HP.out hx he ([], [])).1
    have hin : i < n := by rw [← HLEN.out]; exact (List.getElem?_eq_some_iff.1 hx).1
    obtain ⟨b, off, rfl⟩ := HV.out.addr (by omega)
    obtain ⟨k, pl, nl, cl, pd, nd, cd, ll, mm, hx', c0, c1, c2, h1, h2, h3, h4⟩ := HV.out.at i hin
    have hmm := HDD.out _ (List.mem_of_getElem? hx')
    rw [hx] at hx'
    cases hx'
    have hnl : nl ≤ 900000 := by rw [← h1.1]; exact hmm.1
    have hnd : nd ≤ 900000 := by rw [← h3.1]; exact hmm.2
    have HE := hide he
    simp only at HG
    have hi0 : (0 : Int) ≤ (i : Int) := by omega
    have hi1 : (i : Int) < (n : Int) := by omega
    have HC := hide (clone9_any k pl nl cl pd nd cd ll mm w1 h1 h3 (by omega) (by omega))
    clear hx he h1 h2 h3 h4 hmm
    go_wp2_with (go_at_call 56; refine HC.out.mono ?_; rintro e w2 ⟨v1, v2, rfl, ho1, ho2, hb2⟩; refine Stop.at ?_)
    unfold Stop
    obtain ⟨p1, r1, rfl, e1, e1c⟩ := ho1.open
    obtain ⟨p2, r2, rfl, e2, e2c⟩ := ho2.open
    have X2 := hide (HX.out.below hb2)
    have f0 := X2.out.free 0
    have f1 := X2.out.free 1
    have f2 := X2.out.free 2
    have q0 := X2.out.cell 0 _ rfl
    have q1 := X2.out.cell 1 _ rfl
    have q2 := X2.out.cell 2 _ rfl
    have off1 : (Value.slice p1 ll.length r1).ownBlock ≠ some w.heap.size := OwnR.off ho1 X2.out (by decide)
    have off2 : (Value.slice p2 mm.length r2).ownBlock ≠ some w.heap.size := OwnR.off ho2 X2.out (by decide)
    obtain ⟨hp1, _, hp2, _⟩ := X2.out.put3 (.string k) (.slice p1 ll.length r1) (.slice p2 mm.length r2)
    have HP1 := hide hp1
    have HP2 := hide (hp2 _ _ (bel_next HB.out hb2) (Nat.le_refl _))
    have O1 : Hid (OwnD w1.heap.size _ (.slice p1 ll.length r1) ll) := OwnR.set (OwnR.set (OwnR.set (OwnD.rows.1 ho1) off1 0 (.string k)) off1 1 (.slice p1 ll.length r1)) off1 2 (.slice p2 mm.length r2)
    have O2 : Hid (OwnD w1.heap.size _ (.slice p2 mm.length r2) mm) := OwnR.set (OwnR.set (OwnR.set (OwnD.rows.1 ho2) off2 0 (.string k)) off2 1 (.slice p1 ll.length r1)) off2 2 (.slice p2 mm.length r2)
    clear hp1 hp2 ho1 ho2 e1 e2 e1c e2c hb2 off1 off2
    go_wp2
    refine bodyPost_ret (results_cell_row rfl _ _ _ _ _ _ _ rfl HP1.out Try.underlying48 rfl (by kernel_rfl)) rfl ?_
    refine ⟨_, rfl, ⟨p1, ll.length, r1, p2, mm.length, r2, by rw [HE.out], ?_, O1.out.ds.2, ?_, O2.out.ds.2⟩, HP2.out⟩
    · rw [HG.out]; exact O1.out.ds.1
    · rw [HG.out]; exact O2.out.ds.1
end Go.Proofs.Ytiodlpoeifmldaa
