/- Texts of this claim, joined: OJ. -/
import Derived.Test.YtomppblgalepjaaGreatDoorJ32
/- Operations, and names of a sort, are seen (the program's, layer 16). -/
namespace Go.Proofs.YtomppblgalepjaaGreatDoor
open Go.RowKit Go.Lib
set_option linter.unusedVariables false
set_option maxHeartbeats 2000000 in
theorem one16Op (D : Nat) (w0 : World) (l : List Op) (ok : Nat → Bool) (I : Nat → World → Prop) (hD : w0.heap.size ≤ D) (hI : ∀ (i : Nat) (W W' : World), I i W → Below W.heap.size W W' → I i W') (hM : ∀ (i : Nat) (o : Op) (p : Option Addr) (c : Nat) (W : World), l[i]? = some o → I i W → Below w0.heap.size w0 W → RS encDg 3 w0 p o.2.length o.2 → Calls Tryz.prog 50 #[.pointer (some ⟨D + 3, 0, none⟩), .agg #[.string o.1, .slice p o.2.length c]] W (ST D (I (i + 1)) (ok i) W)) (gh i : Nat) (s : ByteArray) (p : Option Addr) (m c : Nat) (ds : List Dg) (w : World) (hx : l[i]? = some (s, ds)) (hm : ds.length = m) (hr : RS encDg 3 w0 p m ds) (hb0 : Below w0.heap.size w0 w) (hi : I i w) (hh : BX w gh #[.func (.func 50) #[.pointer (some ⟨D + 3, 0, none⟩)] #[]] 91) (hg : gh < D ∨ D + 4 ≤ gh) :
  Calls Tryz.prog 68 #[.agg #[.string s, .slice p m c], .pointer (some ⟨gh, 0, none⟩)] w fun e w' => e = .returned (.bool (!ok i)) ∧ GQ 4 D w w' ∧ (ok i = true → I (i + 1) w') := by
 subst hm
 have HMM := hide (hM i (s, ds) p c (w.alloc (.cells #[.string s, .slice p ds.length c] 56)) hx (hI i _ _ hi (bel1 w _)) (bel_next hb0 (bel1 w _)) hr)
 have b0 := (hh.alloc (.cells #[.string s, .slice p ds.length c] 56)).cell 0 _ rfl
 have HB := hide (bel1 w (.cells #[.string s, .slice p ds.length c] 56))
 have HX : Hid (BX (w.alloc (.cells #[.string s, .slice p ds.length c] 56)) w.heap.size #[.string s, .slice p ds.length c] 56) := BX.new w _ rfl _ _
 have c0 := HX.out.cell 0 _ rfl
 have c1 := HX.out.cell 1 _ rfl
 clear hM hI hi hx hh HX hr hb0
 simp only at HMM
 generalize ds.length = m at *
 obtain ⟨z, hz⟩ : ∃ z, ok i = z := ⟨_, rfl⟩
 rw [hz] at HMM ⊢
 go_enter Tryz.func68, Tryz.ntmps68
 go_upto_region 1 with fail
 generalize w.alloc (.cells #[.string s, .slice p m c] 56) = u at *
 cases z
 ·go_wp2_with (go_at_call 50; refine HMM.out.mono ?_; rintro e w1 ⟨rfl, hq, hp⟩; have HQ := hide hq; clear hq hp)
  go_ret
  exact ⟨rfl, (GQ.below 4 D HB.out).trans HQ.out, fun h => by cases h⟩
 ·go_wp2_with (go_at_call 50; refine HMM.out.mono ?_; rintro e w1 ⟨rfl, hq, hp⟩; have HQ := hide hq; have HP := hide (hp rfl); clear hq hp)
  go_ret
  exact ⟨rfl, (GQ.below 4 D HB.out).trans HQ.out, (by first | exact fun _ => HP.out | exact HP.out)⟩
set_option maxHeartbeats 4000000 in
theorem idx16Op (D : Nat) (w0 : World) (l : List Op) (ok : Nat → Bool) (I : Nat → World → Prop) (hD : w0.heap.size ≤ D) (hI : ∀ (i : Nat) (W W' : World), I i W → Below W.heap.size W W' → I i W') (hM : ∀ (i : Nat) (o : Op) (p : Option Addr) (c : Nat) (W : World), l[i]? = some o → I i W → Below w0.heap.size w0 W → RS encDg 3 w0 p o.2.length o.2 → Calls Tryz.prog 50 #[.pointer (some ⟨D + 3, 0, none⟩), .agg #[.string o.1, .slice p o.2.length c]] W (ST D (I (i + 1)) (ok i) W)) (gh : Nat) (a : Option Addr) (n c : Nat) (w : World) (hl : SF 2 ROp w0 a n l) (hb0 : Below w0.heap.size w0 w) (hi : I 0 w) (hh : BX w gh #[.func (.func 50) #[.pointer (some ⟨D + 3, 0, none⟩)] #[]] 91) (hg : gh < D ∨ D + 4 ≤ gh) :
  Calls Tryz.prog 78 #[.slice a n c, .func (.func 68) #[] #[.pointer (some ⟨gh, 0, none⟩)]] w fun e w' => ∃ z : Int, e = .returned (.int .i64 z) ∧ GQ 4 D w w' ∧ decide (z ≥ 0) = !allN n ok ∧ (allN n ok = true → I n w') := by
 have hmax : n ≤ maxLen := by obtain ⟨rows, h1, _⟩ := hl; exact h1.2.1
 unfold maxLen at hmax
 have HL := hide hl
 have HB0 := hide hb0
 have HH := hide hh
 have HONE := hide (one16Op D w0 l ok I hD hI hM )
 have HI0 := hide hi
 have HG0 := hide hg
 have HD := hide hD
 have HWS := hide hb0.size
 clear hl hb0 hh hi hM hI hg hD
 go_enter Tryz.func78, Tryz.ntmps78
 go_wp2
 go_loopw [8] (fun v wr => ∃ i : Nat, i ≤ n ∧ v = .int .i64 i ∧ Hid (GQ 4 D w wr) ∧ Hid (I i wr) ∧ Hid (allN i ok = true)) (fun v _ => n - (RowKit.intOf v).toNat)
 case atStart => exact ⟨0, by omega, rfl, GQ.refl 4 D w, HI0.out, by unfold Hid allN; rfl⟩
 case round =>
  obtain ⟨i, hi, rfl, HB, HI, HA⟩ := hrel
  by_cases hlt : i < n
  ·obtain ⟨bp, off, ha⟩ := HL.out.addr (show 0 < n by omega)
   subst ha
   obtain ⟨o, p, co, hx, hr, hcp, s0, s1⟩ := SF.op HL.out i hlt
   have HBW := hide (GQ.bel HB0.out HB.out HWS.out HD.out)
   replace s0 : wr.cell? ⟨bp, off + i * 2, none⟩ = some (.string o.1) := bcell HBW.out s0
   replace s1 : wr.cell? ⟨bp, off + i * 2 + 1, none⟩ = some (.slice p o.2.length co) := bcell HBW.out s1
   have hi0 : (0 : Int) ≤ (i : Int) := by omega
   have hi1 : (i : Int) < (n : Int) := by omega
   obtain ⟨s, ds⟩ := o
   have HS1 := hide (HONE.out gh i s p ds.length co ds wr hx rfl hr HBW.out HI.out (BX.gq HH.out HB.out HG0.out) HG0.out)
   clear hx hr hcp
   simp only at s0 s1
   generalize ds.length = m at *
   rcases hz : ok i with _ | _
   ·have HZ : Hid (allN n ok = false) := allN_bad hlt hz
    rw [hz] at HS1
    clear hz
    go_wp2_with (go_at_call 68; refine HS1.out.mono ?_; rintro e w1 ⟨rfl, hq, hp⟩; have HQ := hide hq; clear hq hp; simp only [Bool.not_false])
    go_ret
    exact ⟨_, rfl, HB.out.trans HQ.out, (by rw [HZ.out]; simp), fun h => by rw [HZ.out] at h; cases h⟩
   ·have HZ : Hid (allN (i + 1) ok = true) := by unfold Hid; rw [allN_succ, HA.out, hz]; rfl
    rw [hz] at HS1
    clear hz
    go_wp2_with (go_at_call 68; refine HS1.out.mono ?_; rintro e w1 ⟨rfl, hq, hp⟩; have HQ := hide hq; have HP := hide (hp rfl); clear hq hp; simp only [Bool.not_true])
    go_roundw
    case rel => exact ⟨i + 1, by omega, by go_num, HB.out.trans HQ.out, HP.out, HZ.out⟩
    case measure => simp [RowKit.intOf]; omega
  ·obtain rfl : i = n := by omega
   go_wp2
   go_ret
   exact ⟨_, rfl, HB.out, (by rw [HA.out]; rfl), fun _ => HI.out⟩
set_option maxHeartbeats 2000000 in
theorem con16Op (D : Nat) (w0 : World) (l : List Op) (ok : Nat → Bool) (I : Nat → World → Prop) (hD : w0.heap.size ≤ D) (hI : ∀ (i : Nat) (W W' : World), I i W → Below W.heap.size W W' → I i W') (hM : ∀ (i : Nat) (o : Op) (p : Option Addr) (c : Nat) (W : World), l[i]? = some o → I i W → Below w0.heap.size w0 W → RS encDg 3 w0 p o.2.length o.2 → Calls Tryz.prog 50 #[.pointer (some ⟨D + 3, 0, none⟩), .agg #[.string o.1, .slice p o.2.length c]] W (ST D (I (i + 1)) (ok i) W)) (gh : Nat) (a : Option Addr) (n c : Nat) (w : World) (hl : SF 2 ROp w0 a n l) (hb0 : Below w0.heap.size w0 w) (hi : I 0 w) (hh : BX w gh #[.func (.func 50) #[.pointer (some ⟨D + 3, 0, none⟩)] #[]] 91) (hg : gh < D ∨ D + 4 ≤ gh) :
  Calls Tryz.prog 67 #[.slice a n c, .func (.func 68) #[] #[.pointer (some ⟨gh, 0, none⟩)]] w fun e w' => e = .returned (.bool (!allN n ok)) ∧ GQ 4 D w w' ∧ (allN n ok = true → I n w') := by
 have HX := hide (idx16Op D w0 l ok I hD hI hM gh a n c w hl hb0 hi hh hg)
 clear hl hb0 hh hi hM hI hg hD
 go_enter Tryz.func67, Tryz.ntmps67
 go_wp2_with (go_at_call 78; refine HX.out.mono ?_; rintro e w1 ⟨z, rfl, hq, hz, hp⟩; have HQ := hide hq; have HZ := hide hz; have HP := hide hp; clear hq hz hp)
 go_ret
 exact ⟨retB HZ.out, HQ.out, HP.out⟩
set_option maxHeartbeats 2000000 in
theorem all16Op (D : Nat) (w0 : World) (l : List Op) (ok : Nat → Bool) (I : Nat → World → Prop) (hD : w0.heap.size ≤ D) (hI : ∀ (i : Nat) (W W' : World), I i W → Below W.heap.size W W' → I i W') (hM : ∀ (i : Nat) (o : Op) (p : Option Addr) (c : Nat) (W : World), l[i]? = some o → I i W → Below w0.heap.size w0 W → RS encDg 3 w0 p o.2.length o.2 → Calls Tryz.prog 50 #[.pointer (some ⟨D + 3, 0, none⟩), .agg #[.string o.1, .slice p o.2.length c]] W (ST D (I (i + 1)) (ok i) W)) (a : Option Addr) (n c : Nat) (w : World) (hl : SF 2 ROp w0 a n l) (hb0 : Below w0.heap.size w0 w) (hi : I 0 w) (hDw : D + 4 ≤ w.heap.size) :
  Calls Tryz.prog 49 #[.slice a n c, .func (.func 50) #[.pointer (some ⟨D + 3, 0, none⟩)] #[]] w (ST D (I n) (allN n ok) w) := by
 have HX := hide (con16Op D w0 l ok I hD hI hM w.heap.size a n c (w.alloc (.cells #[.func (.func 50) #[.pointer (some ⟨D + 3, 0, none⟩)] #[]] 91)) hl (bel_next hb0 (bel1 w _)) (hI 0 _ _ hi (bel1 w _)) (BX.new w _ rfl _ _) (.inr hDw))
 have HB := hide (bel1 w (.cells #[.func (.func 50) #[.pointer (some ⟨D + 3, 0, none⟩)] #[]] 91))
 clear hl hb0 hi hM hI hD
 obtain ⟨z, hz⟩ : ∃ z, allN n ok = z := ⟨_, rfl⟩
 rw [hz] at HX ⊢
 clear hz
 go_enter Tryz.func49, Tryz.ntmps49
 cases z
 ·go_wp2_with (go_at_call 67; refine HX.out.mono ?_; rintro e w1 ⟨rfl, hq, hp⟩; have HQ := hide hq; clear hq hp)
  go_ret
  exact ⟨rfl, (GQ.below 4 D HB.out).trans HQ.out, fun h => by cases h⟩
 ·go_wp2_with (go_at_call 67; refine HX.out.mono ?_; rintro e w1 ⟨rfl, hq, hp⟩; have HQ := hide hq; have HP := hide (hp rfl); clear hq hp)
  go_ret
  exact ⟨rfl, (GQ.below 4 D HB.out).trans HQ.out, (by first | exact fun _ => HP.out | exact HP.out)⟩
def okT1 (t : Int) (S l : List ByteArray) (i : Nat) : Bool := match l[i]? with
 | some x => thB1 (t + i) (S ++ l.take i) x
 | none => true
theorem thB1_le {t : Int} {S : List ByteArray} {x : ByteArray} (h : thB1 t S x = true) : t + 1 ≤ 6 := by
 unfold thB1 at h
 rw [Bool.and_eq_true, decide_eq_true_iff] at h
 exact h.1
set_option maxHeartbeats 2000000 in
theorem rul16_1 (D k : Nat) (h : Int × Int × Int) (t1 t2 t3 cl op : Int) (S : List ByteArray) (G : List Int) (f : Int → Int → Int) (ga gb : Nat) (x : ByteArray) (w : World) (hS : SN w D h k ((t1, t2, t3, cl, op), S, G, f)) (hk : k ≤ 10000) (hs : x.size ≤ maxLen) (ht : 0 ≤ t1 ∧ t1 ≤ 1000) (ha : BX w ga #[.pointer (some ⟨D + 3, 0, none⟩)] 47) (hb : BX w gb #[.int .i64 1] 3) :
  Calls Tryz.prog 45 #[.string x, .pointer (some ⟨ga, 0, none⟩), .pointer (some ⟨gb, 0, none⟩)] w (SP 4 D h (k + 1) ((t1 + 1, t2, t3, cl, op), S ++ [x], G, f) (thB1 t1 S x) w) := by
 have HC := hide (thing16_1 D k h t1 t2 t3 cl op S G f x w hS hk hs ht)
 have a0 := ha.cell 0 _ rfl
 have b0 := hb.cell 0 _ rfl
 clear hS ha hb
 go_enter Tryz.func45, Tryz.ntmps45
 go_wp2_with (go_at_call 46; refine HC.out.mono ?_; rintro e w1 ⟨rfl, hq, hp⟩; have HQ := hide hq; have HP := hide hp; clear hq hp)
 go_ret
 exact ⟨rfl, HQ.out, HP.out⟩
set_option maxHeartbeats 4000000 in
theorem nms16_1 (D k : Nat) (h : Int × Int × Int) (t1 t2 t3 cl op : Int) (S : List ByteArray) (G : List Int) (f : Int → Int → Int) (ga : Nat) (a : Option Addr) (n c : Nat) (l : List ByteArray) (w : World) (hS : SN w D h k ((t1, t2, t3, cl, op), S, G, f)) (hk : k ≤ 9000) (hs : ∀ x ∈ l, x.size ≤ maxLen) (ht : 0 ≤ t1 ∧ t1 ≤ 6) (ha : BX w ga #[.pointer (some ⟨D + 3, 0, none⟩)] 47) (hga : D + 4 ≤ ga) (hl : RS encSt 1 w a n l) (ho : OffD D a n) :
  Calls Tryz.prog 43 #[.int .i64 1, .slice a n c, .pointer (some ⟨ga, 0, none⟩)] w (ST D (fun W => SN W D h (k + 6) ((t1 + n, t2, t3, cl, op), S ++ l, G, f)) (allN n (okT1 t1 S l)) w) := by
 have hln := hl.1
 have hsz := ha.size
 have hgb : D + 4 ≤ w.heap.size := by omega
 have HX := hide (all16St D ga w.heap.size l (okT1 t1 S l) (fun i W => SN W D h (k + i) ((t1 + i, t2, t3, cl, op), S ++ l.take i, G, f) ∧ t1 + (i : Int) ≤ 6 ∧ BX W ga #[.pointer (some ⟨D + 3, 0, none⟩)] 47 ∧ BX W w.heap.size #[.int .i64 1] 3) (fun i W W' hi hb => ⟨hi.1.below hb, hi.2.1, hi.2.2.1.below hb, hi.2.2.2.below hb⟩)
  (fun i x W hx hi => by
   obtain ⟨i1, i2, i3, i4⟩ := hi
   have e : okT1 t1 S l i = thB1 (t1 + i) (S ++ l.take i) x := by unfold okT1; rw [hx]
   have e2 : S ++ l.take (i + 1) = S ++ l.take i ++ [x] := by rw [List.take_add_one, hx, Option.toList_some, List.append_assoc]
   rw [e, e2]
   refine (rul16_1 D (k + i) h (t1 + i) t2 t3 cl op (S ++ l.take i) G f ga w.heap.size x W i1 (by omega) (hs x (List.mem_of_getElem? hx)) (by omega) i3 i4).mono ?_
   rintro e W' ⟨rfl, hq, hp⟩
   refine ⟨rfl, hq, fun hz => ⟨?_, ?_, i3.gq hq (.inr hga), i4.gq hq (.inr hgb)⟩⟩
   ·have q := hp hz
    rw [show t1 + ((i + 1 : Nat) : Int) = t1 + i + 1 by omega]
    exact q
   ·have q := thB1_le hz
    omega) a n c (w.alloc (.cells #[.int .i64 1] 3)) (hl.alloc _) ho ⟨by simpa using hS.below (bel1 w _), by simpa using ht.2, ha.alloc _, BX.new w _ rfl _ _⟩ (by have q := (bel1 w (.cells #[.int .i64 1] 3)).size; omega))
 have HB := hide (bel1 w (.cells #[.int .i64 1] 3))
 have HLN := hide hln
 have HT := hide ht
 clear hS ha hl ho hs hsz hgb hln ht
 obtain ⟨z, hz⟩ : ∃ z, allN n (okT1 t1 S l) = z := ⟨_, rfl⟩
 rw [hz] at HX ⊢
 clear hz
 go_enter Tryz.func43, Tryz.ntmps43
 cases z
 ·go_wp2_with (go_at_call 44; refine HX.out.mono ?_; rintro e w1 ⟨rfl, hq, hp⟩; have HQ := hide hq; clear hq hp)
  go_ret
  exact ⟨rfl, (GQ.below 4 D HB.out).trans HQ.out, fun h => by cases h⟩
 ·go_wp2_with (go_at_call 44; refine HX.out.mono ?_; rintro e w1 ⟨rfl, hq, hp⟩; have HQ := hide hq; have HP := hide (hp rfl); clear hq hp)
  go_ret
  have hp := HP.out
  rw [List.take_of_length_le (by rw [HLN.out]; exact Nat.le_refl _)] at hp
  refine ⟨rfl, (GQ.below 4 D HB.out).trans HQ.out, ?_⟩
  have q := HT.out
  first | exact fun _ => hp.1.mono (by omega) | exact hp.1.mono (by omega)
def okT2 (t : Int) (S l : List ByteArray) (i : Nat) : Bool := match l[i]? with
 | some x => thB2 (t + i) (S ++ l.take i) x
 | none => true
theorem thB2_le {t : Int} {S : List ByteArray} {x : ByteArray} (h : thB2 t S x = true) : t + 1 ≤ 4 := by
 unfold thB2 at h
 rw [Bool.and_eq_true, decide_eq_true_iff] at h
 exact h.1
set_option maxHeartbeats 2000000 in
theorem rul16_2 (D k : Nat) (h : Int × Int × Int) (t1 t2 t3 cl op : Int) (S : List ByteArray) (G : List Int) (f : Int → Int → Int) (ga gb : Nat) (x : ByteArray) (w : World) (hS : SN w D h k ((t1, t2, t3, cl, op), S, G, f)) (hk : k ≤ 10000) (hs : x.size ≤ maxLen) (ht : 0 ≤ t2 ∧ t2 ≤ 1000) (ha : BX w ga #[.pointer (some ⟨D + 3, 0, none⟩)] 47) (hb : BX w gb #[.int .i64 2] 3) :
  Calls Tryz.prog 45 #[.string x, .pointer (some ⟨ga, 0, none⟩), .pointer (some ⟨gb, 0, none⟩)] w (SP 4 D h (k + 1) ((t1, t2 + 1, t3, cl, op), S ++ [x], G, f) (thB2 t2 S x) w) := by
 have HC := hide (thing16_2 D k h t1 t2 t3 cl op S G f x w hS hk hs ht)
 have a0 := ha.cell 0 _ rfl
 have b0 := hb.cell 0 _ rfl
 clear hS ha hb
 go_enter Tryz.func45, Tryz.ntmps45
 go_wp2_with (go_at_call 46; refine HC.out.mono ?_; rintro e w1 ⟨rfl, hq, hp⟩; have HQ := hide hq; have HP := hide hp; clear hq hp)
 go_ret
 exact ⟨rfl, HQ.out, HP.out⟩
set_option maxHeartbeats 4000000 in
theorem nms16_2 (D k : Nat) (h : Int × Int × Int) (t1 t2 t3 cl op : Int) (S : List ByteArray) (G : List Int) (f : Int → Int → Int) (ga : Nat) (a : Option Addr) (n c : Nat) (l : List ByteArray) (w : World) (hS : SN w D h k ((t1, t2, t3, cl, op), S, G, f)) (hk : k ≤ 9000) (hs : ∀ x ∈ l, x.size ≤ maxLen) (ht : 0 ≤ t2 ∧ t2 ≤ 6) (ha : BX w ga #[.pointer (some ⟨D + 3, 0, none⟩)] 47) (hga : D + 4 ≤ ga) (hl : RS encSt 1 w a n l) (ho : OffD D a n) :
  Calls Tryz.prog 43 #[.int .i64 2, .slice a n c, .pointer (some ⟨ga, 0, none⟩)] w (ST D (fun W => SN W D h (k + 6) ((t1, t2 + n, t3, cl, op), S ++ l, G, f)) (allN n (okT2 t2 S l)) w) := by
 have hln := hl.1
 have hsz := ha.size
 have hgb : D + 4 ≤ w.heap.size := by omega
 have HX := hide (all16St D ga w.heap.size l (okT2 t2 S l) (fun i W => SN W D h (k + i) ((t1, t2 + i, t3, cl, op), S ++ l.take i, G, f) ∧ t2 + (i : Int) ≤ 6 ∧ BX W ga #[.pointer (some ⟨D + 3, 0, none⟩)] 47 ∧ BX W w.heap.size #[.int .i64 2] 3) (fun i W W' hi hb => ⟨hi.1.below hb, hi.2.1, hi.2.2.1.below hb, hi.2.2.2.below hb⟩)
  (fun i x W hx hi => by
   obtain ⟨i1, i2, i3, i4⟩ := hi
   have e : okT2 t2 S l i = thB2 (t2 + i) (S ++ l.take i) x := by unfold okT2; rw [hx]
   have e2 : S ++ l.take (i + 1) = S ++ l.take i ++ [x] := by rw [List.take_add_one, hx, Option.toList_some, List.append_assoc]
   rw [e, e2]
   refine (rul16_2 D (k + i) h t1 (t2 + i) t3 cl op (S ++ l.take i) G f ga w.heap.size x W i1 (by omega) (hs x (List.mem_of_getElem? hx)) (by omega) i3 i4).mono ?_
   rintro e W' ⟨rfl, hq, hp⟩
   refine ⟨rfl, hq, fun hz => ⟨?_, ?_, i3.gq hq (.inr hga), i4.gq hq (.inr hgb)⟩⟩
   ·have q := hp hz
    rw [show t2 + ((i + 1 : Nat) : Int) = t2 + i + 1 by omega]
    exact q
   ·have q := thB2_le hz
    omega) a n c (w.alloc (.cells #[.int .i64 2] 3)) (hl.alloc _) ho ⟨by simpa using hS.below (bel1 w _), by simpa using ht.2, ha.alloc _, BX.new w _ rfl _ _⟩ (by have q := (bel1 w (.cells #[.int .i64 2] 3)).size; omega))
 have HB := hide (bel1 w (.cells #[.int .i64 2] 3))
 have HLN := hide hln
 have HT := hide ht
 clear hS ha hl ho hs hsz hgb hln ht
 obtain ⟨z, hz⟩ : ∃ z, allN n (okT2 t2 S l) = z := ⟨_, rfl⟩
 rw [hz] at HX ⊢
 clear hz
 go_enter Tryz.func43, Tryz.ntmps43
 cases z
 ·go_wp2_with (go_at_call 44; refine HX.out.mono ?_; rintro e w1 ⟨rfl, hq, hp⟩; have HQ := hide hq; clear hq hp)
  go_ret
  exact ⟨rfl, (GQ.below 4 D HB.out).trans HQ.out, fun h => by cases h⟩
 ·go_wp2_with (go_at_call 44; refine HX.out.mono ?_; rintro e w1 ⟨rfl, hq, hp⟩; have HQ := hide hq; have HP := hide (hp rfl); clear hq hp)
  go_ret
  have hp := HP.out
  rw [List.take_of_length_le (by rw [HLN.out]; exact Nat.le_refl _)] at hp
  refine ⟨rfl, (GQ.below 4 D HB.out).trans HQ.out, ?_⟩
  have q := HT.out
  first | exact fun _ => hp.1.mono (by omega) | exact hp.1.mono (by omega)
def okT3 (t : Int) (S l : List ByteArray) (i : Nat) : Bool := match l[i]? with
 | some x => thB3 (t + i) (S ++ l.take i) x
 | none => true
theorem thB3_le {t : Int} {S : List ByteArray} {x : ByteArray} (h : thB3 t S x = true) : t + 1 ≤ 3 := by
 unfold thB3 at h
 rw [Bool.and_eq_true, decide_eq_true_iff] at h
 exact h.1
set_option maxHeartbeats 2000000 in
theorem rul16_3 (D k : Nat) (h : Int × Int × Int) (t1 t2 t3 cl op : Int) (S : List ByteArray) (G : List Int) (f : Int → Int → Int) (ga gb : Nat) (x : ByteArray) (w : World) (hS : SN w D h k ((t1, t2, t3, cl, op), S, G, f)) (hk : k ≤ 10000) (hs : x.size ≤ maxLen) (ht : 0 ≤ t3 ∧ t3 ≤ 1000) (ha : BX w ga #[.pointer (some ⟨D + 3, 0, none⟩)] 47) (hb : BX w gb #[.int .i64 3] 3) :
  Calls Tryz.prog 45 #[.string x, .pointer (some ⟨ga, 0, none⟩), .pointer (some ⟨gb, 0, none⟩)] w (SP 4 D h (k + 1) ((t1, t2, t3 + 1, cl, op), S ++ [x], G, f) (thB3 t3 S x) w) := by
 have HC := hide (thing16_3 D k h t1 t2 t3 cl op S G f x w hS hk hs ht)
 have a0 := ha.cell 0 _ rfl
 have b0 := hb.cell 0 _ rfl
 clear hS ha hb
 go_enter Tryz.func45, Tryz.ntmps45
 go_wp2_with (go_at_call 46; refine HC.out.mono ?_; rintro e w1 ⟨rfl, hq, hp⟩; have HQ := hide hq; have HP := hide hp; clear hq hp)
 go_ret
 exact ⟨rfl, HQ.out, HP.out⟩
set_option maxHeartbeats 4000000 in
theorem nms16_3 (D k : Nat) (h : Int × Int × Int) (t1 t2 t3 cl op : Int) (S : List ByteArray) (G : List Int) (f : Int → Int → Int) (ga : Nat) (a : Option Addr) (n c : Nat) (l : List ByteArray) (w : World) (hS : SN w D h k ((t1, t2, t3, cl, op), S, G, f)) (hk : k ≤ 9000) (hs : ∀ x ∈ l, x.size ≤ maxLen) (ht : 0 ≤ t3 ∧ t3 ≤ 6) (ha : BX w ga #[.pointer (some ⟨D + 3, 0, none⟩)] 47) (hga : D + 4 ≤ ga) (hl : RS encSt 1 w a n l) (ho : OffD D a n) :
  Calls Tryz.prog 43 #[.int .i64 3, .slice a n c, .pointer (some ⟨ga, 0, none⟩)] w (ST D (fun W => SN W D h (k + 6) ((t1, t2, t3 + n, cl, op), S ++ l, G, f)) (allN n (okT3 t3 S l)) w) := by
 have hln := hl.1
 have hsz := ha.size
 have hgb : D + 4 ≤ w.heap.size := by omega
 have HX := hide (all16St D ga w.heap.size l (okT3 t3 S l) (fun i W => SN W D h (k + i) ((t1, t2, t3 + i, cl, op), S ++ l.take i, G, f) ∧ t3 + (i : Int) ≤ 6 ∧ BX W ga #[.pointer (some ⟨D + 3, 0, none⟩)] 47 ∧ BX W w.heap.size #[.int .i64 3] 3) (fun i W W' hi hb => ⟨hi.1.below hb, hi.2.1, hi.2.2.1.below hb, hi.2.2.2.below hb⟩)
  (fun i x W hx hi => by
   obtain ⟨i1, i2, i3, i4⟩ := hi
   have e : okT3 t3 S l i = thB3 (t3 + i) (S ++ l.take i) x := by unfold okT3; rw [hx]
   have e2 : S ++ l.take (i + 1) = S ++ l.take i ++ [x] := by rw [List.take_add_one, hx, Option.toList_some, List.append_assoc]
   rw [e, e2]
   refine (rul16_3 D (k + i) h t1 t2 (t3 + i) cl op (S ++ l.take i) G f ga w.heap.size x W i1 (by omega) (hs x (List.mem_of_getElem? hx)) (by omega) i3 i4).mono ?_
   rintro e W' ⟨rfl, hq, hp⟩
   refine ⟨rfl, hq, fun hz => ⟨?_, ?_, i3.gq hq (.inr hga), i4.gq hq (.inr hgb)⟩⟩
   ·have q := hp hz
    rw [show t3 + ((i + 1 : Nat) : Int) = t3 + i + 1 by omega]
    exact q
   ·have q := thB3_le hz
    omega) a n c (w.alloc (.cells #[.int .i64 3] 3)) (hl.alloc _) ho ⟨by simpa using hS.below (bel1 w _), by simpa using ht.2, ha.alloc _, BX.new w _ rfl _ _⟩ (by have q := (bel1 w (.cells #[.int .i64 3] 3)).size; omega))
 have HB := hide (bel1 w (.cells #[.int .i64 3] 3))
 have HLN := hide hln
 have HT := hide ht
 clear hS ha hl ho hs hsz hgb hln ht
 obtain ⟨z, hz⟩ : ∃ z, allN n (okT3 t3 S l) = z := ⟨_, rfl⟩
 rw [hz] at HX ⊢
 clear hz
 go_enter Tryz.func43, Tryz.ntmps43
 cases z
 ·go_wp2_with (go_at_call 44; refine HX.out.mono ?_; rintro e w1 ⟨rfl, hq, hp⟩; have HQ := hide hq; clear hq hp)
  go_ret
  exact ⟨rfl, (GQ.below 4 D HB.out).trans HQ.out, fun h => by cases h⟩
 ·go_wp2_with (go_at_call 44; refine HX.out.mono ?_; rintro e w1 ⟨rfl, hq, hp⟩; have HQ := hide hq; have HP := hide (hp rfl); clear hq hp)
  go_ret
  have hp := HP.out
  rw [List.take_of_length_le (by rw [HLN.out]; exact Nat.le_refl _)] at hp
  refine ⟨rfl, (GQ.below 4 D HB.out).trans HQ.out, ?_⟩
  have q := HT.out
  first | exact fun _ => hp.1.mono (by omega) | exact hp.1.mono (by omega)
end Go.Proofs.YtomppblgalepjaaGreatDoor

