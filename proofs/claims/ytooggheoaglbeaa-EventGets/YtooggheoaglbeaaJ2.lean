/- Texts of this claim, joined: WUnpack, WRefUnpack, WRec, WAwake, WOpen, CMath, RMath, DMath, CNum, CCheck, CArr, CPlain, CJoin, CWithin. -/
import Derived.Test.YtooggheoaglbeaaJ1
import Derived.SizedLaws
import Derived.Deep.Matrix
import Derived.OpenShut
import Derived.ProofKit
import Derived.Deep.RegionHeld3
import Derived.Laws.CopyOwn
import Derived.Laws.Rows
import Derived.Deep.WholeRow
import Derived.ChangeKeysEq
import Derived.Laws.StructEq
/- What 'Unpack' does, the program's and the document's. -/
namespace Go.Proofs.Ytooggheoaglbeaa
open Go.RowKit
set_option linter.unusedVariables false

def cont (acc : List (List Int)) (at_ : Nat) (o : Option (List (List Int) × Nat)) : Option (List (List Int) × Nat) := o.map fun r => (acc ++ r.1, at_ + r.2)
theorem cont_none {acc : List (List Int)} {at_ k : Nat} {l : List Int} (h : getText (l.drop at_) = none) : cont acc at_ (gets (k + 1) (l.drop at_)) = none := by
  unfold gets
  rw [h]; rfl
theorem cont_some {acc : List (List Int)} {at_ k : Nat} {l t : List Int} {n : Nat} (h : getText (l.drop at_) = some (t, n)) : cont acc at_ (gets (k + 1) (l.drop at_)) = cont (acc ++ [t]) (at_ + n) (gets k (l.drop (at_ + n))) := by
  conv => lhs; unfold gets
  rw [h]
  simp only [List.drop_drop]
  rcases gets k (l.drop (at_ + n)) with _ | ⟨r, m⟩
  · rfl
  · simp [cont, Nat.add_assoc]
theorem cont_zero (acc : List (List Int)) (at_ : Nat) (l : List Int) : cont acc at_ (gets 0 (l.drop at_)) = some (acc, at_) := by simp [gets, cont]
theorem unpack_of {l : List Int} {u m : Nat} {most : Int} (h : getNum l = some ((u : Int), m)) (hm : ¬ most < u) : unpack l most = cont [] m (gets u (l.drop m)) := by
  unfold unpack
  rw [h]
  simp only [Int.toNat_natCast]
  rw [if_neg hm]
  rcases gets u (l.drop m) with _ | ⟨r, k⟩ <;> rfl
theorem unpack_big {l : List Int} {u : Int} {m : Nat} {most : Int} (h : getNum l = some (u, m)) (hm : most < u) : unpack l most = none := by
  unfold unpack
  rw [h]
  simp only []
  rw [if_pos hm]
theorem unpack_no {l : List Int} {most : Int} (h : getNum l = none) : unpack l most = none := by
  unfold unpack
  rw [h]
theorem BS.rest {w : World} {a : Option Addr} {n c : Nat} {l : List Int} (h : BS w a n l) (i : Nat) (hi : i ≤ n) (hc : n ≤ c) : BS w (slA a c i) (n - i) (l.drop i) := by
  have := h.cut i n c hi (Nat.le_refl _) hc
  rw [List.take_of_length_le (by rw [h.1]; exact Nat.le_refl _)] at this
  exact this

set_option maxHeartbeats 2000000 in
set_option maxRecDepth 100000 in
theorem unpack_arg (a : Option Addr) (n c : Nat) (most : Int) (w : World) (hm : most < 0 ∨ 1000 < most) :
    Calls Try.prog 66 #[.slice a n c, .int .i64 most] w fun e w' => e = .returned (.tuple #[.slice none 0 0, .int .i64 0, .int .i64 1]) ∧ w' = w := by
  rcases hm with h | h
  · go_enter Try.func66, Try.ntmps66
    go_wp2
    go_ret3
    exact ⟨rfl, rfl⟩
  · have h' : decide (most < 0) = false := by simp; omega
    go_enter Try.func66, Try.ntmps66
    go_wp2
    go_ret3
    exact ⟨rfl, rfl⟩

set_option maxHeartbeats 2000000 in
set_option maxRecDepth 100000 in
theorem unpack_any (a : Option Addr) (n c : Nat) (l : List Int) (most : Int) (w : World) (hA : BS w a n l) (hC : CP a n c) (hm0 : 0 ≤ most) (hm1 : most ≤ 1000) :
    Calls Try.prog 66 #[.slice a n c, .int .i64 most] w fun e w' => ((unpack l most = none ∧ e = .returned (.tuple #[.slice none 0 0, .int .i64 0, .int .i64 2])) ∨ ∃ (qs : List (Value × List Int)) (m : Nat) (v : Value), unpack l most = some (qs.map (·.2), m) ∧ e = .returned (.tuple #[v, .int .i64 (m : Int), .int .i64 0]) ∧ OwnP w.heap.size w' v qs) ∧ Below w.heap.size w w' := by
  have hcm : (c : Int) ≤ 9223372036854775807 := by have := hC.2.1; unfold maxLen at this; omega
  have hcn : (n : Int) ≤ (c : Int) := by have := hC.1; omega
  have HA := hide hA
  have HC := hide hC
  have hsl : ∀ i : Nat, (if c = i then a else Option.map (fun x => x.add i) a) = slA a c i := fun _ => rfl
  have hd0 : decide (most < 0) = false := by simp; omega
  clear hA hC
  go_enter Try.func66, Try.ntmps66
  go_wp2_with fail
  refine (getNum_any a n c l w HA.out HC.out).mono ?_
  rintro e w1 ⟨(⟨hg, rfl⟩ | ⟨x, m, hg, rfl⟩), rfl⟩
  · have hres := hide (unpack_no (most := most) hg)
    clear hg
    go_wp2
    go_ret3
    exact ⟨.inl ⟨hres.out, rfl⟩, Below.refl _ _⟩
  · obtain ⟨g0, g1, g2, g3, g4, g5, g6⟩ := getNum_some HA.out.2.2.1 hg
    obtain ⟨u, rfl⟩ := Int.eq_ofNat_of_zero_le g0
    have Hg := hide hg
    have hl := hide HA.out.1
    have hmn : (m : Int) ≤ (n : Int) := by have := hl.out; omega
    have hm9 : (m : Int) ≤ 9 := by omega
    clear g2 g3 g4 g5 g6 hg
    by_cases hu : most < (u : Int)
    · have hres := hide (unpack_big Hg.out hu)
      go_wp2
      go_ret3
      exact ⟨.inl ⟨hres.out, rfl⟩, Below.refl _ _⟩
    · have hres := hide (unpack_of Hg.out hu)
      have hu1 : (u : Int) ≤ 1000 := by omega
      clear g1
      go_wp2
      go_loopw [8, 10, 35] (fun at_ v i wr => ∃ (j p : Nat) (qs : List (Value × List Int)), j ≤ u ∧ i = .int .u64 (j : Int) ∧ at_ = .int .i64 (p : Int) ∧ p ≤ n ∧ qs.length = j ∧ Hid (unpack l most = cont (qs.map (·.2)) p (gets (u - j) (l.drop p))) ∧ Hid (OwnP w1.heap.size wr v qs) ∧ Hid (Below w1.heap.size w1 wr)) (fun _ _ i _ => u - (intOf i).toNat)
      case atStart => exact ⟨0, m, [], by omega, rfl, rfl, by omega, rfl, hres.out, OwnP.nil _ _, Below.refl _ _⟩
      case round =>
        obtain ⟨j, p, qs, hj, rfl, rfl, hp, hq, hun, hown, hbel⟩ := hrel
        have hsz := hbel.out.size
        have Hq := hide hq
        clear hq
        by_cases hlt : j < u
        · have hltI : (j : Int) < (u : Int) := by omega
          have hpI : (p : Int) ≤ (n : Int) := by omega
          have hpc : (p : Int) ≤ (c : Int) := by omega
          have hbs := hide ((HA.out.below hbel.out).rest (c := c) p hp (by omega))
          have hcp := hide (HC.out.cut p n (Nat.le_refl _) hp)
          obtain ⟨r, hr⟩ : ∃ r, u - j = r + 1 := ⟨u - j - 1, by omega⟩
          have hr2 : Hid (u - (j + 1) = r) := by show u - (j + 1) = r; omega
          rw [hr] at hun
          clear hr
          go_wp2_with fail
          refine (getText_any _ _ _ _ wr hbs.out hcp.out).mono ?_
          rintro e w2 ⟨(⟨hg, rfl⟩ | ⟨t, k, v2, hg, rfl, hown2⟩), hb2⟩
          · have hres2 : Hid (unpack l most = none) := by rw [hun.out, cont_none hg]; rfl
            have hbel2 := hide (hbel.out.trans (hb2.mono hsz))
            clear hg hb2 hown hbel
            go_wp2
            go_ret3
            exact ⟨.inl ⟨hres2.out, rfl⟩, hbel2.out⟩
          · have hun2 : Hid (unpack l most = cont ((qs ++ [(v2, t)]).map (·.2)) (p + k) (gets (u - (j + 1)) (l.drop (p + k)))) := by
              refine hide ?_
              rw [hun.out, cont_some hg, hr2.out]; simp
            obtain ⟨k1, k2, k3, k4, k5⟩ := getText_some (By.drop HA.out.2.2.1 p) hg
            rw [List.length_drop, hl.out] at k2
            have hpk : p + k ≤ n := by omega
            have hbel2 := hide (hbel.out.trans (hb2.mono hsz))
            have Hown := hide (hown.out.below hb2)
            have Hown2 := hide (hown2.mono hsz)
            have hby := hide k5
            obtain ⟨p2, cap2, rfl, _, _⟩ := hown2.open k5
            have hsz2 := hbel2.out.size
            have hkI : (p : Int) + (k : Int) ≤ 9223372036854775807 := by omega
            clear hg hb2 hown hown2 hbel hun k1 k2 k3 k4 k5
            go_wp2_with (at_builtin; refine Stop.at ?_)
            unfold Stop
            refine append_text rfl _ _ rfl w1.heap.size u10 qs (.slice p2 t.length cap2) t _ rfl rfl Hown.out Hown2.out hby.out rfl (by have := Hq.out; omega) hsz2 ?_
            intro v3 w3 hown3 hbel3
            have Hown3 := hide hown3
            have Hbel3 := hide (hbel3 w1 hbel2.out)
            clear hown3 hbel3 Hown Hown2
            go_wp2
            go_roundw
            case rel => exact ⟨j + 1, p + k, qs ++ [(_, t)], by omega, by go_num, by go_num, hpk, by have := Hq.out; simp; omega, hun2, Hown3, Hbel3⟩
            case measure => simp [intOf]; omega
        · have hju : j = u := by omega
          subst hju
          have hres2 : Hid (unpack l most = some (qs.map (·.2), p)) := by refine hide ?_; rw [hun.out, Nat.sub_self, cont_zero]
          go_wp2
          go_ret3
          exact ⟨.inr ⟨qs, p, _, hres2.out, rfl, hown.out⟩, hbel.out⟩
end Go.Proofs.Ytooggheoaglbeaa

/- What the document's 'Unpack' does. -/
namespace Go.Proofs.Ytooggheoaglbeaa
open Go.RowKit
set_option linter.unusedVariables false

set_option maxHeartbeats 2000000 in
set_option maxRecDepth 100000 in
theorem refUnpack_any (a : Option Addr) (n c : Nat) (l : List Int) (most : Int) (w : World) (hA : BS w a n l) (hC : CP a n c) (hm0 : 0 ≤ most) (hm1 : most ≤ 1000) :
    Calls Try.prog 50 #[.slice a n c, .int .i64 most] w fun e w' => ((unpack l most = none ∧ e = .returned (.tuple #[.slice none 0 0, .int .i64 0])) ∨ ∃ (qs : List (Value × List Int)) (m : Nat) (v : Value), unpack l most = some (qs.map (·.2), m) ∧ e = .returned (.tuple #[v, .int .i64 (m : Int)]) ∧ OwnP w.heap.size w' v qs) ∧ Below w.heap.size w w' := by
  have hcm : (c : Int) ≤ 9223372036854775807 := by have := hC.2.1; unfold maxLen at this; omega
  have hcn : (n : Int) ≤ (c : Int) := by have := hC.1; omega
  have HA := hide hA
  have HC := hide hC
  have hsl : ∀ i : Nat, (if c = i then a else Option.map (fun x => x.add i) a) = slA a c i := fun _ => rfl
  clear hA hC
  go_enter Try.func50, Try.ntmps50
  go_wp2_with fail
  refine (refGetNum_any a n c l w HA.out HC.out).mono ?_
  rintro e w1 ⟨(⟨hg, rfl⟩ | ⟨x, m, hg, rfl⟩), hb⟩
  · have hres := hide (unpack_no (most := most) hg)
    have Hb := hide hb
    clear hg hb
    go_wp2
    go_ret2
    exact ⟨.inl ⟨hres.out, rfl⟩, Hb.out⟩
  · obtain ⟨g0, g1, g2, g3, g4, g5, g6⟩ := getNum_some HA.out.2.2.1 hg
    obtain ⟨u, rfl⟩ := Int.eq_ofNat_of_zero_le g0
    have Hg := hide hg
    have hl := hide HA.out.1
    have hmn : (m : Int) ≤ (n : Int) := by have := hl.out; omega
    have hm9 : (m : Int) ≤ 9 := by omega
    have hm0' : ((m : Int) == 0) = false := by simp; omega
    have Hb := hide hb
    have hsz1 := hb.size
    clear g2 g3 g4 g5 g6 hg hb
    by_cases hu : most < (u : Int)
    · have hres := hide (unpack_big Hg.out hu)
      go_wp2
      go_ret2
      exact ⟨.inl ⟨hres.out, rfl⟩, Hb.out⟩
    · have hres := hide (unpack_of Hg.out hu)
      have hu1 : (u : Int) ≤ 1000 := by omega
      clear g1
      go_wp2
      go_loopw [7, 8, 9] (fun at_ v i wr => ∃ (j p : Nat) (qs : List (Value × List Int)), j ≤ u ∧ i = .int .i64 (j : Int) ∧ at_ = .int .i64 (p : Int) ∧ p ≤ n ∧ qs.length = j ∧ Hid (unpack l most = cont (qs.map (·.2)) p (gets (u - j) (l.drop p))) ∧ Hid (OwnP w.heap.size wr v qs) ∧ Hid (Below w.heap.size w wr)) (fun _ _ i _ => u - (intOf i).toNat)
      case atStart => exact ⟨0, m, [], by omega, rfl, rfl, by omega, rfl, hres.out, OwnP.made w1 _ _ rfl hsz1, Hb.out.alloc hsz1 _⟩
      case round =>
        obtain ⟨j, p, qs, hj, rfl, rfl, hp, hq, hun, hown, hbel⟩ := hrel
        have hsz := hbel.out.size
        have Hq := hide hq
        clear hq
        by_cases hlt : j < u
        · have hltI : (j : Int) < (u : Int) := by omega
          have hpI : (p : Int) ≤ (n : Int) := by omega
          have hpc : (p : Int) ≤ (c : Int) := by omega
          have hbs := hide ((HA.out.below hbel.out).rest (c := c) p hp (by omega))
          have hcp := hide (HC.out.cut p n (Nat.le_refl _) hp)
          obtain ⟨r, hr⟩ : ∃ r, u - j = r + 1 := ⟨u - j - 1, by omega⟩
          have hr2 : Hid (u - (j + 1) = r) := by show u - (j + 1) = r; omega
          rw [hr] at hun
          clear hr
          go_wp2_with fail
          refine (refGetText_any _ _ _ _ wr hbs.out hcp.out).mono ?_
          rintro e w2 ⟨(⟨hg, rfl⟩ | ⟨t, k, v2, hg, rfl, hown2⟩), hb2⟩
          · have hres2 : Hid (unpack l most = none) := by rw [hun.out, cont_none hg]; rfl
            have hbel2 := hide (hbel.out.trans (hb2.mono hsz))
            clear hg hb2 hown hbel
            go_wp2
            go_ret2
            exact ⟨.inl ⟨hres2.out, rfl⟩, hbel2.out⟩
          · have hun2 : Hid (unpack l most = cont ((qs ++ [(v2, t)]).map (·.2)) (p + k) (gets (u - (j + 1)) (l.drop (p + k)))) := by
              refine hide ?_
              rw [hun.out, cont_some hg, hr2.out]; simp
            obtain ⟨k1, k2, k3, k4, k5⟩ := getText_some (By.drop HA.out.2.2.1 p) hg
            rw [List.length_drop, hl.out] at k2
            have hpk : p + k ≤ n := by omega
            have hbel2 := hide (hbel.out.trans (hb2.mono hsz))
            have Hown := hide (hown.out.below hb2)
            have Hown2 := hide (hown2.mono hsz)
            have hby := hide k5
            obtain ⟨p2, cap2, rfl, _, _⟩ := hown2.open k5
            have hsz2 := hbel2.out.size
            have hkI : (p : Int) + (k : Int) ≤ 9223372036854775807 := by omega
            have hk0 : ((k : Int) == 0) = false := by simp; omega
            clear hg hb2 hown hown2 hbel hun k1 k2 k3 k4 k5
            go_wp2_with (at_builtin; refine Stop.at ?_)
            unfold Stop
            refine append_text rfl _ _ rfl w.heap.size u8 qs (.slice p2 t.length cap2) t _ rfl rfl Hown.out Hown2.out hby.out rfl (by have := Hq.out; omega) hsz2 ?_
            intro v3 w3 hown3 hbel3
            have Hown3 := hide hown3
            have Hbel3 := hide (hbel3 w hbel2.out)
            clear hown3 hbel3 Hown Hown2
            go_wp2
            go_roundw
            case rel => exact ⟨j + 1, p + k, qs ++ [(_, t)], by omega, by go_num, by go_num, hpk, by have := Hq.out; simp; omega, hun2, Hown3, Hbel3⟩
            case measure => simp [intOf]; omega
        · have hju : j = u := by omega
          subst hju
          have hres2 : Hid (unpack l most = some (qs.map (·.2), p)) := by refine hide ?_; rw [hun.out, Nat.sub_self, cont_zero]
          go_wp2
          go_ret2
          exact ⟨.inr ⟨qs, p, _, hres2.out, rfl, hown.out⟩, hbel.out⟩
end Go.Proofs.Ytooggheoaglbeaa

/- What 'sumOf' and 'Record' do, the program's and the document's. -/
namespace Go.Proofs.Ytooggheoaglbeaa
open Go.RowKit
set_option linter.unusedVariables false

def rhead (k : Int) (t : List Int) : List Int := k :: text t
def record (k : Int) (t : List Int) : List Int := rhead k t ++ be 4 (of [rhead k t])
theorem be4 (x : Int) (h0 : 0 ≤ x) (h1 : x < 4294967296) : be 4 x = [x / 16777216, x / 65536 % 256, x / 256 % 256, x % 256] := by
  simp [be]
  omega
theorem rhead_by {k : Int} {t : List Int} (h0 : 0 ≤ k) (h1 : k < 256) (h : By t) : By (rhead k t) := By.cons h0 h1 (text_by h)
theorem rhead_len (k : Int) (t : List Int) : (rhead k t).length ≤ t.length + 10 := by
  have := text_len t
  unfold rhead
  rw [List.length_cons]
  omega

end Go.Proofs.Ytooggheoaglbeaa

/- Stage 2's own 'awake': it answers true and makes new memory only. -/
namespace Go.Proofs.Ytooggheoaglbeaa
open Go.RowKit
set_option linter.unusedVariables false

theorem rec3_len : (record 3 []).length = 6 := by
  unfold record
  rw [List.length_append, be_len]
  decide
theorem num258 : num 258 = [2, 1, 2] := by decide
theorem num0 : num 0 = [0] := by decide

end Go.Proofs.Ytooggheoaglbeaa

/- What a statement is told of bytes and of texts that came in, in the words of the walks; with the reach of the form (no row of more than 'reachBytes' bytes). -/
namespace Go.Proofs.Ytooggheoaglbeaa
open Go.RowKit Go.ChangeShapes Go.WideShapes
set_option linter.unusedVariables false

/-- Bytes that came in. -/
def InB (w : World) (v : Value) : Prop := ∃ a len cap l, v = .slice a len cap ∧ BS w a len l ∧ CP a len cap ∧ len ≤ 140737488351232
/-- Texts that came in. -/
def InT (w : World) (v : Value) : Prop := ∃ a n cap ps, v = .slice a n cap ∧ PC w a n ps ∧ CP a n cap ∧ n ≤ 140737488351232 ∧ ∀ p ∈ ps, p.length ≤ 140737488351232

set_option maxRecDepth 100000 in
theorem byte_wf {n : Int} (h : (Lit.int .u8 n).wf = true) : 0 ≤ n ∧ n < 256 := by
  simp [Lit.wf, IntKind.min, IntKind.max, IntKind.bits, IntKind.signed] at h
  omega
set_option maxRecDepth 100000 in
theorem bs_of_cells {w : World} {x : Addr} {len cap : Nat} {zs : List Int} (hl : len ≤ cap) (hm : cap ≤ maxLen) (hz : zs.length = cap) (hcell : ∀ i, i < cap → w.cell? (x.add i) = some (.int .u8 (zs.getD i 0))) (hwz : ∀ n ∈ zs, (Lit.int .u8 n).wf = true) :
    BS w (some x) len (zs.take len) := by
  refine ⟨by rw [List.length_take]; omega, by omega, fun n hn => byte_wf (hwz n (List.mem_of_mem_take hn)), ?_⟩
  rcases Nat.eq_zero_or_pos len with h0 | hp
  · exact .inl h0
  · obtain ⟨b, off, spot⟩ := x
    have hspot : spot = none := by simpa [Addr.add] using World.cell?_spot (hcell 0 (by omega))
    subst hspot
    refine .inr ⟨b, off, rfl, fun i hi => ?_⟩
    have h1 := hcell i (by omega)
    have h2 : (zs.take len).getD i 0 = zs.getD i 0 := by simp [List.getD_eq_getElem?_getD, hi]
    rw [h2]
    by_cases hi0 : i = 0
    · subst hi0; simpa [Addr.add] using h1
    · simpa [Addr.add, hi0] using h1

set_option maxRecDepth 100000 in
theorem Try.bytesU8 : Try.prog.bytesOf 5 = 1 := by kernel_rfl
set_option maxRecDepth 100000 in
theorem Try.bytesTx : Try.prog.bytesOf 37 = 24 := by kernel_rfl

section
variable {H : Type} {enc : TypeId × Value → H} {W : World}

set_option maxRecDepth 100000 in
theorem in_bytes {v : Value} {d : DataW H} {p : List MemPlace} {base : Nat} (hok : Value.okWide Try.prog W .any base 37 v) (h : DataW.Trod enc Try.prog W 0 (fun _ => true) true 37 v d p) (hw : ∀ n ∈ d.weights Try.prog 37, n ≤ reachBytes) : InB W v := by
  obtain ⟨a, len, cap, rfl⟩ := okWide_slice Try.underlying37 hok
  obtain ⟨fuel, hf⟩ := h
  rcases open_ints Try.underlying37 Try.underlying5 (by kernel_rfl) hf with ⟨hcs, _⟩ | ⟨x, l, c, zs, hcs, _, hl, hm, hz, hx, hcell, hwz⟩
  · simp [Value.cells] at hcs
    obtain ⟨rfl, rfl, rfl⟩ := hcs
    exact ⟨_, _, _, [], rfl, BS.nil _ _, ⟨Nat.le_refl _, by decide, fun _ => rfl⟩, by omega⟩
  · simp [Value.cells] at hcs
    obtain ⟨rfl, rfl, rfl⟩ := hcs
    simp at hz
    simp only [Prod.mk.injEq] at hx
    obtain ⟨rfl, _⟩ := hx
    have h1 := hw ((zs.take len).length + (zs.drop len).length) (by simp [DataW.weights, Try.underlying37, Try.bytesU8, lits])
    have h2 : reachBytes = 140737488351232 := rfl
    rw [← List.length_append, List.take_append_drop, h2] at h1
    exact ⟨_, _, _, zs.take len, rfl, bs_of_cells hl hm hz (fun i hi => hcell i (by omega)) hwz, ⟨hl, hm, fun h => by cases h⟩, by omega⟩

set_option maxRecDepth 100000 in
theorem mem_weightsAll {P : Program} {e : TypeId} {n : Nat} : ∀ {ds : List (DataW H)} {d : DataW H}, d ∈ ds → n ∈ d.weights P e → n ∈ DataW.weightsAll P e ds
  | d0 :: r, d, hd, hn => by
    simp only [DataW.weightsAll, List.mem_append]
    rcases List.mem_cons.1 hd with rfl | hd
    · exact .inl hn
    · exact .inr (mem_weightsAll hd hn)

set_option maxRecDepth 100000 in
theorem in_texts {v : Value} {d : DataW H} {p : List MemPlace} {base : Nat} (hok : Value.okWide Try.prog W .any base 58 v) (h : DataW.Trod enc Try.prog W 0 (fun _ => true) true 58 v d p) (hw : ∀ n ∈ d.weights Try.prog 58, n ≤ reachBytes) : InT W v := by
  obtain ⟨a, len, cap, rfl⟩ := okWide_slice Try.underlying58 hok
  obtain ⟨fuel, hf⟩ := h
  have h2 : reachBytes = 140737488351232 := rfl
  rcases Deep.open_int_rows Try.underlying58 Try.underlying37 Try.underlying5 (by kernel_rfl) (by kernel_rfl) hf with ⟨hcs, _⟩ | ⟨x, l, c, A, L, C, Z, hcs, _, hl, hm, hx, hrow⟩
  · simp [Value.cells] at hcs
    obtain ⟨rfl, rfl, rfl⟩ := hcs
    exact ⟨_, _, _, [], rfl, ⟨rfl, by decide, .inl rfl⟩, ⟨Nat.le_refl _, by decide, fun _ => rfl⟩, by omega, fun p hp => by cases hp⟩
  · simp [Value.cells] at hcs
    obtain ⟨rfl, rfl, rfl⟩ := hcs
    simp only [Prod.mk.injEq] at hx
    obtain ⟨rfl, _⟩ := hx
    have hlen : len * 24 ≤ reachBytes := by
      have h1 := hw ((len + (cap - len)) * 24) (by simp [DataW.weights, Try.underlying58, Try.bytesTx])
      have : len * 24 ≤ (len + (cap - len)) * 24 := Nat.mul_le_mul_right _ (by omega)
      omega
    have hZ : ∀ r, r < len → (Z r).length ≤ reachBytes := by
      intro r hr
      obtain ⟨_, q1, q2, q3, _, q5, _⟩ := hrow r (by omega)
      rcases hAr : A r with _ | x'
      · have := q5 hAr; omega
      · refine hw _ ?_
        have hm : (Z r).length ∈ (Deep.intRow (H := H) .u8 (A r) (L r) (Z r)).weights Try.prog 37 := by
          rw [hAr]
          have : (Z r).length = ((Z r).take (L r)).length + ((Z r).drop (L r)).length := by rw [← List.length_append, List.take_append_drop]
          simp [Deep.intRow, DataW.weights, Try.underlying37, Try.bytesU8, lits]
          omega
        simp only [DataW.weights, Try.underlying58, List.mem_cons, List.mem_append]
        refine .inr (.inl (mem_weightsAll ?_ hm))
        exact List.mem_map.2 ⟨r, by simpa using hr, rfl⟩
    refine ⟨_, _, _, (List.range len).map fun r => (Z r).take (L r), rfl, ⟨by simp, by omega, ?_⟩, ⟨hl, hm, fun h => by cases h⟩, by omega, ?_⟩
    · rcases Nat.eq_zero_or_pos len with h0 | hp
      · exact .inl h0
      · obtain ⟨b, off, spot⟩ := x
        have hspot : spot = none := by simpa [Addr.add] using World.cell?_spot (hrow 0 (by omega)).1
        subst hspot
        refine .inr ⟨b, off, rfl, fun i hi => ?_⟩
        obtain ⟨q0, q1, q2, q3, q4, q5, q6⟩ := hrow i (by omega)
        refine ⟨A i, L i, C i, ?_, ?_, ⟨q1, q2, q5⟩⟩
        · by_cases hi0 : i = 0
          · subst hi0; simpa [Addr.add] using q0
          · simpa [Addr.add, hi0] using q0
        · have e : ((List.range len).map fun r => (Z r).take (L r)).getD i [] = (Z i).take (L i) := by simp [List.getD_eq_getElem?_getD, hi]
          rw [e]
          rcases hAi : A i with _ | x'
          · have := q5 hAi
            have hL0 : L i = 0 := by omega
            rw [hL0]; exact BS.nil _ _
          · exact bs_of_cells q1 q2 q3 (fun c hc => (q6 x' hAi).2 c hc) q4
    · intro p hp
      obtain ⟨r, hr, rfl⟩ := List.mem_map.1 hp
      have := hZ r (by simpa using hr)
      rw [List.length_take]
      omega
end
end Go.Proofs.Ytooggheoaglbeaa

/- Clocks in plain mathematics: a replica's number, five of them, and a clock without noughts at its end. -/
namespace Go.Proofs.Ytooggheoaglbeaa

/-- May a number stand in a clock? -/
def inB (x : Int) : Bool := decide (0 ≤ x) && decide (x ≤ 1048576)
/-- May a clock be? -/
def mayC (c : List Int) : Bool := decide (c.length ≤ 5) && c.all inB
/-- A replica's number, replicas counted from 0. -/
def at5 (c : List Int) (k : Nat) : Int := if mayC c = true then c.getD k 0 else 0
/-- All five numbers. -/
def vec (c : List Int) : List Int := [at5 c 0, at5 c 1, at5 c 2, at5 c 3, at5 c 4]
/-- How many numbers stand ahead of the noughts at the end. -/
def plen : List Int → Nat
  | [] => 0
  | a :: r => if plen r = 0 ∧ a = 0 then 0 else plen r + 1
/-- Without noughts at the end. -/
def pln (x : List Int) : List Int := x.take (plen x)

theorem inB_iff {x : Int} : inB x = true ↔ 0 ≤ x ∧ x ≤ 1048576 := by simp [inB]
theorem mayC_iff {c : List Int} : mayC c = true ↔ c.length ≤ 5 ∧ ∀ x ∈ c, 0 ≤ x ∧ x ≤ 1048576 := by simp [mayC, inB]
theorem plen_le : ∀ x : List Int, plen x ≤ x.length
  | [] => Nat.le_refl _
  | a :: r => by
    have := plen_le r
    unfold plen
    split
    · omega
    · simp; omega
theorem plen_zero : ∀ l : List Int, plen (l ++ [0]) = plen l
  | [] => by simp [plen]
  | a :: r => by simp only [List.cons_append, plen, plen_zero r]
theorem plen_snoc {a : Int} (ha : a ≠ 0) : ∀ l : List Int, plen (l ++ [a]) = l.length + 1
  | [] => by simp [plen, ha]
  | b :: r => by simp [plen, plen_snoc ha r]
theorem pln_length (l : List Int) : (pln l).length = plen l := by unfold pln; rw [List.length_take]; have := plen_le l; omega
theorem pln_zero (l : List Int) : pln (l ++ [0]) = pln l := by
  unfold pln; rw [plen_zero, List.take_append_of_le_length (plen_le l)]
theorem pln_snoc {a : Int} (ha : a ≠ 0) (l : List Int) : pln (l ++ [a]) = l ++ [a] := by
  unfold pln; rw [plen_snoc ha, List.take_of_length_le (by simp)]
theorem drop_plen : ∀ l : List Int, l.drop (plen l) = List.replicate (l.length - plen l) 0
  | [] => rfl
  | a :: r => by
    have ih := drop_plen r
    unfold plen
    split
    · next h =>
      obtain ⟨h1, rfl⟩ := h
      rw [h1] at ih
      simp at ih
      simp [List.replicate_succ, ← ih]
    · simpa using ih
theorem pln_pad (l : List Int) : pln l ++ List.replicate (l.length - (pln l).length) 0 = l := by
  rw [pln_length, ← drop_plen]; exact List.take_append_drop _ _
theorem pln_getD (l : List Int) (i : Nat) : (pln l).getD i 0 = l.getD i 0 := by
  conv => rhs; rw [← pln_pad l]
  simp only [List.getD_eq_getElem?_getD]
  by_cases h : i < (pln l).length
  · rw [List.getElem?_append_left h]
  · rw [List.getElem?_eq_none (by omega), List.getElem?_append_right (by omega)]
    simp only [List.getElem?_replicate]
    split <;> rfl
theorem mayC_pln (x : List Int) (hx : x.length ≤ 5) (hb : ∀ a ∈ x, 0 ≤ a ∧ a ≤ 1048576) : mayC (pln x) = true := by
  rw [mayC_iff]
  refine ⟨by rw [pln_length]; have := plen_le x; omega, fun a ha => hb a (List.mem_of_mem_take ha)⟩
theorem at5_bd (c : List Int) (k : Nat) : 0 ≤ at5 c k ∧ at5 c k ≤ 1048576 := by
  unfold at5
  split
  · next h =>
    rw [mayC_iff] at h
    by_cases hk : k < c.length
    · have : c.getD k 0 = c[k] := by simp [List.getD_eq_getElem?_getD, hk]
      rw [this]; exact h.2 _ (List.getElem_mem hk)
    · have : c.getD k 0 = 0 := by simp [List.getD_eq_getElem?_getD, Nat.not_lt.mp hk]
      rw [this]; omega
  · omega
theorem vec_bd (c : List Int) : ∀ a ∈ vec c, 0 ≤ a ∧ a ≤ 1048576 := by
  intro a ha
  simp only [vec, List.mem_cons, List.not_mem_nil, or_false] at ha
  rcases ha with rfl | rfl | rfl | rfl | rfl <;> exact at5_bd _ _
theorem at5_pln (x : List Int) (hx : x.length = 5) (hb : ∀ a ∈ x, 0 ≤ a ∧ a ≤ 1048576) (k : Nat) : at5 (pln x) k = x.getD k 0 := by
  unfold at5
  rw [if_pos (mayC_pln x (by omega) hb), pln_getD]
theorem vec_eq (x : List Int) (hx : x.length = 5) : [x.getD 0 0, x.getD 1 0, x.getD 2 0, x.getD 3 0, x.getD 4 0] = x := by
  match x, hx with
  | [a, b, c, d, e], _ => rfl
theorem vec_pln (x : List Int) (hx : x.length = 5) (hb : ∀ a ∈ x, 0 ≤ a ∧ a ≤ 1048576) : vec (pln x) = x := by
  unfold vec
  simp only [at5_pln x hx hb]
  exact vec_eq x hx
theorem vec_five (x : List Int) (hx : x.length = 5) (hb : ∀ a ∈ x, 0 ≤ a ∧ a ≤ 1048576) : vec x = x := by
  unfold vec at5
  simp only [if_pos (show mayC x = true from mayC_iff.2 ⟨by omega, hb⟩)]
  exact vec_eq x hx
theorem vec_len (c : List Int) : (vec c).length = 5 := rfl
theorem vec_getD (c : List Int) (k : Nat) (hk : k < 5) : (vec c).getD k 0 = at5 c k := by
  rcases k with _ | _ | _ | _ | _ | k
  · rfl
  · rfl
  · rfl
  · rfl
  · rfl
  · omega

/-- Of each replica the greater number. -/
def joinL (a b : List Int) : List Int := [max (at5 a 0) (at5 b 0), max (at5 a 1) (at5 b 1), max (at5 a 2) (at5 b 2), max (at5 a 3) (at5 b 3), max (at5 a 4) (at5 b 4)]
/-- Of each replica the lesser one. -/
def meetL (a b : List Int) : List Int := [min (at5 a 0) (at5 b 0), min (at5 a 1) (at5 b 1), min (at5 a 2) (at5 b 2), min (at5 a 3) (at5 b 3), min (at5 a 4) (at5 b 4)]
/-- Is one within another one? -/
abbrev wth (a b : List Int) : Prop := at5 a 0 ≤ at5 b 0 ∧ at5 a 1 ≤ at5 b 1 ∧ at5 a 2 ≤ at5 b 2 ∧ at5 a 3 ≤ at5 b 3 ∧ at5 a 4 ≤ at5 b 4
/-- A clock with a replica's number (replicas counted from 0). -/
def setL (a : List Int) (r : Nat) (n : Int) : List Int := (vec a).set r n
def sumL (a : List Int) : Int := at5 a 0 + at5 a 1 + at5 a 2 + at5 a 3 + at5 a 4
def ordL (a b : List Int) : Int := if wth a b then (if wth b a then 0 else -1) else if wth b a then 1 else 2

theorem joinL_bd (a b : List Int) : ∀ x ∈ joinL a b, 0 ≤ x ∧ x ≤ 1048576 := by
  intro x hx
  simp only [joinL, List.mem_cons, List.not_mem_nil, or_false] at hx
  rcases hx with rfl | rfl | rfl | rfl | rfl <;> (have h1 := at5_bd a; have h2 := at5_bd b; constructor <;> first | (have := h1 0; have := h2 0; omega) | (have := h1 1; have := h2 1; omega) | (have := h1 2; have := h2 2; omega) | (have := h1 3; have := h2 3; omega) | (have := h1 4; have := h2 4; omega))
theorem meetL_bd (a b : List Int) : ∀ x ∈ meetL a b, 0 ≤ x ∧ x ≤ 1048576 := by
  intro x hx
  simp only [meetL, List.mem_cons, List.not_mem_nil, or_false] at hx
  rcases hx with rfl | rfl | rfl | rfl | rfl <;> (have h1 := at5_bd a; have h2 := at5_bd b; constructor <;> first | (have := h1 0; have := h2 0; omega) | (have := h1 1; have := h2 1; omega) | (have := h1 2; have := h2 2; omega) | (have := h1 3; have := h2 3; omega) | (have := h1 4; have := h2 4; omega))
theorem at5_join (a b : List Int) (k : Nat) (hk : k < 5) : at5 (pln (joinL a b)) k = max (at5 a k) (at5 b k) := by
  rw [at5_pln _ rfl (joinL_bd a b)]
  rcases k with _ | _ | _ | _ | _ | k
  · rfl
  · rfl
  · rfl
  · rfl
  · rfl
  · omega
theorem at5_meet (a b : List Int) (k : Nat) (hk : k < 5) : at5 (pln (meetL a b)) k = min (at5 a k) (at5 b k) := by
  rw [at5_pln _ rfl (meetL_bd a b)]
  rcases k with _ | _ | _ | _ | _ | k
  · rfl
  · rfl
  · rfl
  · rfl
  · rfl
  · omega
theorem setL_bd (a : List Int) (r : Nat) (n : Int) (h0 : 0 ≤ n) (h1 : n ≤ 1048576) : ∀ x ∈ setL a r n, 0 ≤ x ∧ x ≤ 1048576 := by
  intro x hx
  rcases List.mem_or_eq_of_mem_set hx with h | rfl
  · exact vec_bd a x h
  · exact ⟨h0, h1⟩
end Go.Proofs.Ytooggheoaglbeaa

/- Clocks' bytes in plain mathematics: what is put, what is read, and that the document's reading is the program's. -/
namespace Go.Proofs.Ytooggheoaglbeaa

/-- A clock's bytes. -/
def putC (c : List Int) : List Int := pack ((pln (vec c)).map num)
/-- A replica's number whose bytes are a whole text. -/
def rdNum (t : List Int) : Option Int := match getNum t with
  | none => none
  | some (x, k) => if k = t.length ∧ x ≤ 1048576 then some x else none
def rdAll : List (List Int) → Option (List Int)
  | [] => some []
  | t :: r => match rdNum t with
    | none => none
    | some x => (rdAll r).map (x :: ·)
/-- The clock that bytes begin with, and how many these are. -/
def rdC (b : List Int) : Option (List Int × Nat) := match unpack b 5 with
  | none => none
  | some (ts, m) => match rdAll ts with
    | none => none
    | some c => if pln c = c then some (c, m) else none
/-- The number that a text begins with, as the document's answer takes it. -/
def rfNum (t : List Int) : Option Int := match getNum t with
  | none => none
  | some (x, _) => if x ≤ 1048576 then some x else none
def rfAll : List (List Int) → Option (List Int)
  | [] => some []
  | t :: r => match rfNum t with
    | none => none
    | some x => (rfAll r).map (x :: ·)
def rfC (b : List Int) : Option (List Int × Nat) := match unpack b 5 with
  | none => none
  | some (ts, m) => match rfAll ts with
    | none => none
    | some c => if putC c = b.take m then some (c, m) else none

theorem rdAll_step {ts : List (List Int)} {k : Nat} {x : Int} {acc : List Int} (hk : k < ts.length) (h : rdAll ts = (rdAll (ts.drop k)).map (acc ++ ·)) (hx : rdNum (ts.getD k []) = some x) :
    rdAll ts = (rdAll (ts.drop (k + 1))).map ((acc ++ [x]) ++ ·) := by
  rw [h, List.drop_eq_getElem_cons hk]
  have e : ts[k] = ts.getD k [] := by simp [List.getD_eq_getElem?_getD, hk]
  simp only [rdAll, e, hx, Option.map_map]
  congr 1
  funext r
  simp
theorem rdAll_bad {ts : List (List Int)} {k : Nat} {acc : List Int} (hk : k < ts.length) (h : rdAll ts = (rdAll (ts.drop k)).map (acc ++ ·)) (hx : rdNum (ts.getD k []) = none) : rdAll ts = none := by
  rw [h, List.drop_eq_getElem_cons hk]
  have e : ts[k] = ts.getD k [] := by simp [List.getD_eq_getElem?_getD, hk]
  simp only [rdAll, e, hx, Option.map_none]
theorem rfAll_step {ts : List (List Int)} {k : Nat} {x : Int} {acc : List Int} (hk : k < ts.length) (h : rfAll ts = (rfAll (ts.drop k)).map (acc ++ ·)) (hx : rfNum (ts.getD k []) = some x) :
    rfAll ts = (rfAll (ts.drop (k + 1))).map ((acc ++ [x]) ++ ·) := by
  rw [h, List.drop_eq_getElem_cons hk]
  have e : ts[k] = ts.getD k [] := by simp [List.getD_eq_getElem?_getD, hk]
  simp only [rfAll, e, hx, Option.map_map]
  congr 1
  funext r
  simp
theorem rfAll_bad {ts : List (List Int)} {k : Nat} {acc : List Int} (hk : k < ts.length) (h : rfAll ts = (rfAll (ts.drop k)).map (acc ++ ·)) (hx : rfNum (ts.getD k []) = none) : rfAll ts = none := by
  rw [h, List.drop_eq_getElem_cons hk]
  have e : ts[k] = ts.getD k [] := by simp [List.getD_eq_getElem?_getD, hk]
  simp only [rfAll, e, hx, Option.map_none]

theorem pln_iff (c : List Int) : pln c = c ↔ ¬ (0 < c.length ∧ c.getD (c.length - 1) 0 = 0) := by
  rcases List.eq_nil_or_concat c with rfl | ⟨l, a, rfl⟩
  · simp [pln, plen]
  · have hg : (l.concat a).getD ((l.concat a).length - 1) 0 = a := by simp [List.getD_eq_getElem?_getD]
    rw [hg]
    rw [List.concat_eq_append]
    by_cases ha : a = 0
    · subst ha
      rw [pln_zero]
      simp
      intro h
      have h1 := congrArg List.length h
      rw [pln_length] at h1
      have := plen_le l
      simp at h1
      omega
    · rw [pln_snoc ha]
      simp [ha]

theorem rfAll_bd : ∀ {ts : List (List Int)} (_ : ∀ t ∈ ts, By t) {c : List Int} (_ : rfAll ts = some c), c.length = ts.length ∧ ∀ x ∈ c, 0 ≤ x ∧ x ≤ 1048576
  | [], _, c, h => by
    simp [rfAll] at h
    subst h
    exact ⟨rfl, fun x hx => by cases hx⟩
  | t :: r, hby, c, h => by
    unfold rfAll at h
    rcases hn : rfNum t with _ | x
    · rw [hn] at h; cases h
    · rw [hn] at h
      simp only [Option.map_eq_some_iff] at h
      obtain ⟨c', hc', rfl⟩ := h
      obtain ⟨i1, i2⟩ := rfAll_bd (fun u hu => hby u (by simp [hu])) hc'
      refine ⟨by simp [i1], fun y hy => ?_⟩
      rcases List.mem_cons.1 hy with rfl | hy
      · unfold rfNum at hn
        split at hn
        · cases hn
        · rename_i z k hg
          split at hn
          · rename_i hle
            cases hn
            exact ⟨(getNum_some (hby t (by simp)) hg).1, hle⟩
          · cases hn
      · exact i2 y hy
/-- Whole texts: the bytes of the numbers. -/
theorem rdAll_iff : ∀ {ts : List (List Int)} (_ : ∀ t ∈ ts, By t) {c : List Int}, rdAll ts = some c ↔ rfAll ts = some c ∧ ts = c.map num
  | [], _, c => by
    simp only [rdAll, rfAll, Option.some.injEq]
    constructor
    · rintro rfl; exact ⟨rfl, rfl⟩
    · rintro ⟨rfl, _⟩; rfl
  | t :: r, hby, c => by
    have ih := fun {c'} => @rdAll_iff r (fun u hu => hby u (by simp [hu])) c'
    unfold rdAll rfAll
    rcases hg : getNum t with _ | ⟨x, k⟩
    · simp [rdNum, rfNum, hg]
    · obtain ⟨g0, g1, g2, g3, g4, g5, g6⟩ := getNum_some (hby t (by simp)) hg
      by_cases hx : x ≤ 1048576
      · have e2 : rfNum t = some x := by simp [rfNum, hg, hx]
        by_cases hk : k = t.length
        · have e1 : rdNum t = some x := by simp [rdNum, hg, hx, hk]
          have ht : num x = t := by rw [g5, hk, List.take_length]
          simp only [e1, e2, Option.map_eq_some_iff]
          constructor
          · rintro ⟨c', hc', rfl⟩
            obtain ⟨h1, h2⟩ := ih.1 hc'
            exact ⟨⟨c', h1, rfl⟩, by rw [List.map_cons, ht, ← h2]⟩
          · rintro ⟨⟨c', hc', rfl⟩, h2⟩
            rw [List.map_cons, List.cons.injEq] at h2
            exact ⟨c', ih.2 ⟨hc', h2.2⟩, rfl⟩
        · have e1 : rdNum t = none := by simp [rdNum, hg, hk]
          simp only [e1, e2, Option.map_eq_some_iff]
          constructor
          · intro h; cases h
          · rintro ⟨⟨c', hc', rfl⟩, h2⟩
            rw [List.map_cons, List.cons.injEq] at h2
            exfalso
            apply hk
            have h3 := num_len x
            rw [← h2.1] at h3
            omega
      · have e1 : rdNum t = none := by simp [rdNum, hg, hx]
        have e2 : rfNum t = none := by simp [rfNum, hg, hx]
        simp [e1, e2]

theorem unpack_le {b : List Int} {most : Int} {l : List (List Int)} {n : Nat} (hb : By b) (h : unpack b most = some (l, n)) : (l.length : Int) ≤ most := by
  unfold unpack at h
  split at h
  · cases h
  · rename_i u k hk
    obtain ⟨g0, _⟩ := getNum_some hb hk
    split at h
    · cases h
    · split at h
      · cases h
      · rename_i l' m' hm'
        simp only [Option.some.injEq, Prod.mk.injEq] at h
        obtain ⟨rfl, rfl⟩ := h
        obtain ⟨_, i2, _⟩ := gets_some _ (hb.drop k) hm'
        rw [i2]
        omega
theorem pln_vec (c : List Int) (hm : mayC c = true) : pln (vec c) = pln c := by
  have h5 := (mayC_iff.1 hm).1
  have e : vec c = c ++ List.replicate (5 - c.length) 0 := by
    unfold vec
    have : ∀ k, at5 c k = c.getD k 0 := fun k => if_pos hm
    simp only [this]
    match c, h5 with
    | [], _ => rfl
    | [_], _ => rfl
    | [_, _], _ => rfl
    | [_, _, _], _ => rfl
    | [_, _, _, _], _ => rfl
    | [_, _, _, _, _], _ => rfl
  rw [e]
  generalize 5 - c.length = k
  clear e h5 hm
  induction k with
  | zero => simp
  | succ k ih => rw [List.replicate_succ', ← List.append_assoc, pln_zero]; exact ih
theorem num_inj {x y : Int} (hx0 : 0 ≤ x) (hx1 : x ≤ 1048576) (hy0 : 0 ≤ y) (hy1 : y ≤ 1048576) (h : num x = num y) : x = y := by
  have h1 := getNum_num x hx0 (by omega) []
  have h2 := getNum_num y hy0 (by omega) []
  rw [h, h2] at h1
  simp at h1
  exact h1.symm
theorem map_num_inj : ∀ {c d : List Int} (_ : ∀ x ∈ c, 0 ≤ x ∧ x ≤ 1048576) (_ : ∀ x ∈ d, 0 ≤ x ∧ x ≤ 1048576), c.map num = d.map num → c = d
  | [], [], _, _, _ => rfl
  | [], _ :: _, _, _, h => by simp at h
  | _ :: _, [], _, _, h => by simp at h
  | x :: c, y :: d, hc, hd, h => by
    simp only [List.map_cons, List.cons.injEq] at h
    rw [num_inj (hc x (by simp)).1 (hc x (by simp)).2 (hd y (by simp)).1 (hd y (by simp)).2 h.1, map_num_inj (fun z hz => hc z (by simp [hz])) (fun z hz => hd z (by simp [hz])) h.2]
theorem pack_inj {l m : List (List Int)} (hl : l.length ≤ 5) (hm : m.length ≤ 5) (h1 : ∀ t ∈ l, t.length ≤ 65536) (h2 : ∀ t ∈ m, t.length ≤ 65536) (h : pack l = pack m) : l = m := by
  have e1 := unpack_pack l (by omega) h1 [] 5 (by omega)
  have e2 := unpack_pack m (by omega) h2 [] 5 (by omega)
  rw [h, e2] at e1
  simp only [Option.some.injEq, Prod.mk.injEq] at e1
  exact e1.1.symm
theorem num_short (x : Int) : (num x).length ≤ 65536 := by rw [num_len]; have := nb_le x; omega
theorem nums_short (c : List Int) : ∀ t ∈ c.map num, t.length ≤ 65536 := by
  intro t ht
  obtain ⟨x, _, rfl⟩ := List.mem_map.1 ht
  exact num_short x

theorem rf_rd {b : List Int} (hb : By b) : rfC b = rdC b := by
  unfold rfC rdC
  rcases hu : unpack b 5 with _ | ⟨ts, m⟩
  · rfl
  · obtain ⟨_, _, hp, hts⟩ := unpack_some hb hu
    have h5 := unpack_le hb hu
    simp only []
    rcases hf : rfAll ts with _ | c
    · have hd : rdAll ts = none := by
        rcases hr : rdAll ts with _ | c
        · rfl
        · have := ((rdAll_iff (fun t ht => (hts t ht).2)).1 hr).1
          rw [hf] at this; cases this
      simp [hd]
    · obtain ⟨hl, hbd⟩ := rfAll_bd (fun t ht => (hts t ht).2) hf
      have hmay : mayC c = true := mayC_iff.2 ⟨by omega, hbd⟩
      have hput : putC c = b.take m ↔ (pln c).map num = ts := by
        unfold putC
        rw [pln_vec c hmay, ← hp]
        constructor
        · intro h
          exact pack_inj (by rw [List.length_map, pln_length]; have := plen_le c; omega) (by omega) (nums_short _) (fun t ht => (hts t ht).1) h
        · intro h; rw [h]
      have hplb : ∀ x ∈ pln c, 0 ≤ x ∧ x ≤ 1048576 := fun x hx => hbd x (List.mem_of_mem_take hx)
      simp only []
      by_cases hw : ts = c.map num
      · have hr : rdAll ts = some c := (rdAll_iff (fun t ht => (hts t ht).2)).2 ⟨hf, hw⟩
        simp only [hr]
        have e : (putC c = b.take m) ↔ pln c = c := by
          rw [hput, hw]
          exact ⟨fun h => map_num_inj hplb hbd h, fun h => by rw [h]⟩
        by_cases hpc : pln c = c
        · rw [if_pos (e.2 hpc), if_pos hpc]
        · rw [if_neg (fun h => hpc (e.1 h)), if_neg hpc]
      · have hr : rdAll ts = none := by
          rcases hr : rdAll ts with _ | c'
          · rfl
          · have h1 := (rdAll_iff (fun t ht => (hts t ht).2)).1 hr
            rw [hf] at h1
            obtain ⟨h1, h2⟩ := h1
            cases h1
            exact absurd h2 hw
        simp only [hr]
        rw [if_neg]
        intro h
        have h1 := hput.1 h
        apply hw
        have h2 : (pln c).length = c.length := by
          have h3 := congrArg List.length h1
          rw [List.length_map] at h3
          omega
        have h4 : pln c = c := by
          rw [pln_length] at h2
          unfold pln
          rw [h2, List.take_length]
        rw [← h1, h4]

theorem rdAll_nums : ∀ (c : List Int) (_ : ∀ x ∈ c, 0 ≤ x ∧ x ≤ 1048576), rdAll (c.map num) = some c
  | [], _ => rfl
  | x :: r, h => by
    have hg := getNum_num x (h x (by simp)).1 (by have := (h x (by simp)).2; omega) []
    rw [List.append_nil] at hg
    have e : rdNum (num x) = some x := by simp [rdNum, hg, (h x (by simp)).2]
    simp only [List.map_cons, rdAll, e, rdAll_nums r (fun y hy => h y (by simp [hy])), Option.map_some]
theorem pln_pln (c : List Int) : pln (pln c) = pln c := by
  rcases List.eq_nil_or_concat (pln c) with h | ⟨l, a, h⟩
  · rw [h]; rfl
  · rw [pln_iff]
    rintro ⟨h1, h2⟩
    have h3 := pln_getD c ((pln c).length - 1)
    rw [h2] at h3
    -- the last number that stands is none of the noughts at the end
    have hp : 0 < plen c := by rw [← pln_length]; exact h1
    have h4 : c.getD (plen c - 1) 0 ≠ 0 := by
      clear h1 h2 h3 h l a
      induction c with
      | nil => simp [plen] at hp
      | cons y r ih =>
        unfold plen at hp ⊢
        split
        · rename_i hc; rw [if_pos hc] at hp; omega
        · rename_i hc
          rcases Nat.eq_zero_or_pos (plen r) with h0 | h0
          · rw [h0]
            simp
            intro hy
            exact hc ⟨h0, hy⟩
          · have := ih h0
            have e : plen r + 1 - 1 = (plen r - 1) + 1 := by omega
            rw [e]
            simpa using this
    rw [pln_length] at h3
    exact h4 h3.symm
/-- What is put is read, whatever stands behind. -/
theorem rd_put (c b : List Int) : rdC (putC c ++ b) = some (pln (vec c), (putC c).length) := by
  unfold rdC putC
  have hbd : ∀ x ∈ pln (vec c), 0 ≤ x ∧ x ≤ 1048576 := fun x hx => vec_bd c x (List.mem_of_mem_take hx)
  have hlen : (pln (vec c)).length ≤ 5 := by rw [pln_length]; have := plen_le (vec c); rw [vec_len] at this; exact this
  rw [unpack_pack _ (by rw [List.length_map]; omega) (nums_short _) b 5 (by rw [List.length_map]; omega)]
  simp only [rdAll_nums _ hbd]
  rw [if_pos (pln_pln _)]
end Go.Proofs.Ytooggheoaglbeaa

/- Dots in plain mathematics: in order, put, folded; what is seen; there is one Seen of each set of dots. -/
namespace Go.Proofs.Ytooggheoaglbeaa

abbrev Dot := Int × Int
def mayD (d : Dot) : Bool := decide (1 ≤ d.1 ∧ d.1 ≤ 5 ∧ 1 ≤ d.2 ∧ d.2 ≤ 1048576)
def lessD (a b : Dot) : Bool := decide (a.1 < b.1 ∨ (a.1 = b.1 ∧ a.2 < b.2))
def cmpD (a b : Dot) : Int := if lessD a b = true then -1 else if lessD b a = true then 1 else 0
def SrtD (l : List Dot) : Prop := l.Pairwise (fun a b => lessD a b = true)
/-- Dots in order with one more. -/
def putD : List Dot → Dot → List Dot
  | [], d => [d]
  | x :: r, d => if lessD x d = true then x :: putD r d else if x = d then x :: r else d :: x :: r
/-- Dots in order, each once. -/
def ordD (l : List Dot) : List Dot := l.foldl putD []

theorem mayD_iff {d : Dot} : mayD d = true ↔ 1 ≤ d.1 ∧ d.1 ≤ 5 ∧ 1 ≤ d.2 ∧ d.2 ≤ 1048576 := by simp [mayD]
theorem lessD_iff {a b : Dot} : lessD a b = true ↔ a.1 < b.1 ∨ (a.1 = b.1 ∧ a.2 < b.2) := by simp [lessD]
theorem lessD_irr (a : Dot) : lessD a a = false := by simp [lessD]
theorem lessD_trans {a b c : Dot} (h : lessD a b = true) (k : lessD b c = true) : lessD a c = true := by
  rw [lessD_iff] at *; omega
theorem lessD_tri (a b : Dot) : lessD a b = true ∨ a = b ∨ lessD b a = true := by
  rw [lessD_iff, lessD_iff]
  obtain ⟨a1, a2⟩ := a
  obtain ⟨b1, b2⟩ := b
  simp only [Prod.mk.injEq]
  omega
theorem lessD_asym {a b : Dot} (h : lessD a b = true) : lessD b a = false := by
  rw [lessD_iff] at h
  simp [lessD]; omega
theorem lessD_ne {a b : Dot} (h : lessD a b = true) : a ≠ b := by
  rintro rfl; rw [lessD_irr] at h; cases h
theorem cmpD_lt {a b : Dot} : cmpD a b < 0 ↔ lessD a b = true := by
  unfold cmpD
  split
  · simp [*]
  · split <;> simp [*]
theorem cmpD_eq {a b : Dot} : cmpD a b = 0 ↔ a = b := by
  unfold cmpD
  split
  · next h => simp; exact lessD_ne h
  · split
    · next h => simp; exact fun e => lessD_ne h e.symm
    · next h1 h2 => simp; rcases lessD_tri a b with h | h | h
                    · exact absurd h h1
                    · exact h
                    · exact absurd h h2

theorem mem_putD {x d : Dot} : ∀ {l : List Dot}, x ∈ putD l d ↔ x = d ∨ x ∈ l
  | [] => by simp [putD]
  | y :: r => by
    unfold putD
    split
    · simp only [List.mem_cons, mem_putD (l := r)]
      constructor
      · rintro (h | h | h)
        · exact .inr (.inl h)
        · exact .inl h
        · exact .inr (.inr h)
      · rintro (h | h | h)
        · exact .inr (.inl h)
        · exact .inl h
        · exact .inr (.inr h)
    · split
      · next h => subst h; simp
      · simp
theorem srt_putD {d : Dot} : ∀ {l : List Dot}, SrtD l → SrtD (putD l d)
  | [], _ => by simp [putD, SrtD]
  | y :: r, h => by
    unfold SrtD at h
    rw [List.pairwise_cons] at h
    obtain ⟨h1, h2⟩ := h
    unfold putD
    split
    · next hl =>
      unfold SrtD
      rw [List.pairwise_cons]
      refine ⟨fun a ha => ?_, srt_putD h2⟩
      rcases mem_putD.1 ha with rfl | ha
      · exact hl
      · exact h1 a ha
    · next hl =>
      split
      · exact List.pairwise_cons.2 ⟨h1, h2⟩
      · next hne =>
        have hd : lessD d y = true := by
          rcases lessD_tri y d with h | h | h
          · exact absurd h hl
          · exact absurd h hne
          · exact h
        refine List.pairwise_cons.2 ⟨fun a ha => ?_, List.pairwise_cons.2 ⟨h1, h2⟩⟩
        rcases List.mem_cons.1 ha with rfl | ha
        · exact hd
        · exact lessD_trans hd (h1 a ha)
theorem putD_len {d : Dot} : ∀ {l : List Dot}, (putD l d).length ≤ l.length + 1
  | [] => by simp [putD]
  | y :: r => by
    unfold putD
    split
    · have := putD_len (l := r) (d := d); simp; omega
    · split <;> simp
theorem srt_ext : ∀ {l m : List Dot}, SrtD l → SrtD m → (∀ x, x ∈ l ↔ x ∈ m) → l = m
  | [], [], _, _, _ => rfl
  | [], y :: r, _, _, h => by have := (h y).2 (by simp); cases this
  | y :: r, [], _, _, h => by have := (h y).1 (by simp); cases this
  | x :: r, y :: s, h1, h2, h => by
    have k1 := List.pairwise_cons.1 h1
    have k2 := List.pairwise_cons.1 h2
    have e : x = y := by
      rcases lessD_tri x y with q | q | q
      · have := (h x).1 (by simp)
        rcases List.mem_cons.1 this with e | e
        · exact e
        · have := lessD_asym (k2.1 x e); rw [q] at this; cases this
      · exact q
      · have := (h y).2 (by simp)
        rcases List.mem_cons.1 this with e | e
        · exact e.symm
        · have := lessD_asym (k1.1 y e); rw [q] at this; cases this
    subst e
    rw [srt_ext k1.2 k2.2 (fun z => ?_)]
    constructor
    · intro hz
      rcases List.mem_cons.1 ((h z).1 (List.mem_cons_of_mem _ hz)) with e | e
      · subst e; have := k1.1 z hz; rw [lessD_irr] at this; cases this
      · exact e
    · intro hz
      rcases List.mem_cons.1 ((h z).2 (List.mem_cons_of_mem _ hz)) with e | e
      · subst e; have := k2.1 z hz; rw [lessD_irr] at this; cases this
      · exact e
theorem foldl_putD_srt (l : List Dot) : ∀ m, SrtD m → SrtD (l.foldl putD m) := by
  induction l with
  | nil => exact fun m h => h
  | cons d r ih => exact fun m h => ih _ (srt_putD h)
theorem foldl_putD_mem (l : List Dot) (x : Dot) : ∀ m, x ∈ l.foldl putD m ↔ x ∈ m ∨ x ∈ l := by
  induction l with
  | nil => simp
  | cons d r ih =>
    intro m
    rw [List.foldl_cons, ih, mem_putD, List.mem_cons]
    constructor
    · rintro ((h | h) | h)
      · exact .inr (.inl h)
      · exact .inl h
      · exact .inr (.inr h)
    · rintro (h | h | h)
      · exact .inl (.inr h)
      · exact .inl (.inl h)
      · exact .inr h
theorem foldl_putD_len (l : List Dot) : ∀ m, (l.foldl putD m).length ≤ m.length + l.length := by
  induction l with
  | nil => intro m; simp
  | cons d r ih => intro m; have := ih (putD m d); have := putD_len (l := m) (d := d); simp; omega
theorem ordD_srt (l : List Dot) : SrtD (ordD l) := foldl_putD_srt l [] (by simp [SrtD])
theorem ordD_mem {l : List Dot} {x : Dot} : x ∈ ordD l ↔ x ∈ l := by unfold ordD; rw [foldl_putD_mem]; simp
theorem ordD_len (l : List Dot) : (ordD l).length ≤ l.length := by have := foldl_putD_len l []; simpa [ordD] using this
theorem ordD_is {l m : List Dot} (h : SrtD m) (k : ∀ x, x ∈ m ↔ x ∈ l) : m = ordD l := srt_ext h (ordD_srt l) (fun x => (k x).trans ordD_mem.symm)
/-- 'Put', as the document does it. -/
theorem putD_at {d : Dot} : ∀ (k : Nat) {l : List Dot}, k ≤ l.length → (∀ i, i < k → lessD (l.getD i (0, 0)) d = true) → (k = l.length ∨ lessD (l.getD k (0, 0)) d = false) →
    putD l d = if k < l.length ∧ l.getD k (0, 0) = d then l else l.take k ++ d :: l.drop k
  | 0, [], _, _, _ => by simp [putD]
  | 0, x :: r, _, _, h => by
    have h' : lessD x d = false := by simpa using h
    unfold putD
    simp [h']
  | k + 1, [], h, _, _ => by simp at h
  | k + 1, x :: r, hk, hl, h => by
    have h0 : lessD x d = true := by simpa using hl 0 (by omega)
    have ih := putD_at (d := d) k (l := r) (by simpa using hk) (fun i hi => by simpa using hl (i + 1) (by omega)) (by simpa using h)
    unfold putD
    rw [if_pos h0, ih]
    simp only [List.length_cons, Nat.add_lt_add_iff_right, List.getD_cons_succ, List.take_succ_cons, List.drop_succ_cons, List.cons_append]
    split <;> rfl

/-- A Seen: five numbers, and more dots. -/
abbrev Sn := List Int × List Dot
def numX (X : List Int) (d : Dot) : Int := X.getD (d.1 - 1).toNat 0
def stepX (s : Sn) (d : Dot) : Sn :=
  if d.2 = numX s.1 d + 1 then (s.1.set (d.1 - 1).toNat d.2, s.2) else if d.2 > numX s.1 d + 1 then (s.1, s.2 ++ [d]) else s
def foldX (X : List Int) (l : List Dot) : Sn := l.foldl stepX (X, [])
abbrev hasX (s : Sn) (d : Dot) : Prop := d.2 ≤ numX s.1 d ∨ d ∈ s.2
def BdX (X : List Int) : Prop := X.length = 5 ∧ ∀ a ∈ X, 0 ≤ a ∧ a ≤ 1048576
def GoodX (s : Sn) : Prop := BdX s.1 ∧ SrtD s.2 ∧ ∀ x ∈ s.2, mayD x = true ∧ numX s.1 x + 1 < x.2

theorem numX_bd {X : List Int} (h : BdX X) (d : Dot) : 0 ≤ numX X d ∧ numX X d ≤ 1048576 := by
  unfold numX
  generalize (d.1 - 1).toNat = k
  by_cases hk : k < X.length
  · have : X.getD k 0 = X[k] := by simp [List.getD_eq_getElem?_getD, hk]
    rw [this]; exact h.2 _ (List.getElem_mem hk)
  · have : X.getD k 0 = 0 := by simp [List.getD_eq_getElem?_getD, Nat.not_lt.mp hk]
    rw [this]; omega
theorem numX_set {X : List Int} (h : BdX X) {d x : Dot} (hd : mayD d = true) (hx : mayD x = true) (n : Int) : numX (X.set (d.1 - 1).toNat n) x = if x.1 = d.1 then n else numX X x := by
  rw [mayD_iff] at hd hx
  unfold numX
  rw [List.getD_eq_getElem?_getD, List.getElem?_set]
  have h5 := h.1
  by_cases e : x.1 = d.1
  · rw [if_pos (by omega), if_pos e, if_pos (by omega)]; rfl
  · rw [if_neg (by omega), if_neg e, List.getD_eq_getElem?_getD]
theorem BdX.set {X : List Int} (h : BdX X) {d : Dot} (hd : mayD d = true) (i : Nat) : BdX (X.set i d.2) := by
  rw [mayD_iff] at hd
  refine ⟨by rw [List.length_set]; exact h.1, fun a ha => ?_⟩
  rcases List.mem_or_eq_of_mem_set ha with q | rfl
  · exact h.2 a q
  · omega
theorem step_len (s : Sn) (d : Dot) : (stepX s d).2.length ≤ s.2.length + 1 := by
  unfold stepX
  split
  · simp
  · split <;> simp
theorem foldl_step_len (l : List Dot) : ∀ s : Sn, (l.foldl stepX s).2.length ≤ s.2.length + l.length := by
  induction l with
  | nil => intro s; simp
  | cons d r ih => intro s; have := ih (stepX s d); have := step_len s d; simp; omega
theorem foldX_len (X : List Int) (l : List Dot) : (foldX X l).2.length ≤ l.length := by have := foldl_step_len l (X, []); simpa [foldX] using this

theorem fold_good (X : List Int) : ∀ (l : List Dot) (s : Sn) (P : List Dot), GoodX s → SrtD (P ++ l) → (∀ x ∈ l, mayD x = true) → (∀ x ∈ s.2, x ∈ P) →
    (∀ d, mayD d = true → (hasX s d ↔ d.2 ≤ numX X d ∨ d ∈ P)) →
    GoodX (l.foldl stepX s) ∧ ∀ d, mayD d = true → (hasX (l.foldl stepX s) d ↔ d.2 ≤ numX X d ∨ d ∈ P ++ l)
  | [], s, P, hg, _, _, _, hh => by rw [List.append_nil]; exact ⟨hg, hh⟩
  | d :: r, s, P, hg, hs, hm, hp, hh => by
    have hd := hm d (by simp)
    have hlt : ∀ x ∈ P, lessD x d = true := fun x hx => (List.pairwise_append.1 hs).2.2 x hx d (by simp)
    have e : P ++ d :: r = (P ++ [d]) ++ r := by simp
    rw [e] at hs ⊢
    refine fold_good X r (stepX s d) (P ++ [d]) ?_ hs (fun x hx => hm x (List.mem_cons_of_mem _ hx)) ?_ ?_
    · unfold stepX
      split
      · next h1 =>
        refine ⟨hg.1.set hd _, hg.2.1, fun x hx => ?_⟩
        have hx1 := hg.2.2 x hx
        refine ⟨hx1.1, ?_⟩
        have hl := hlt x (hp x hx)
        rw [numX_set hg.1 hd hx1.1]
        split
        · next e1 =>
          rw [lessD_iff] at hl
          have e2 : numX s.1 x = numX s.1 d := by unfold numX; rw [e1]
          omega
        · exact hx1.2
      · split
        · next h1 h2 =>
          refine ⟨hg.1, ?_, fun x hx => ?_⟩
          · refine List.pairwise_append.2 ⟨hg.2.1, by simp, fun x hx y hy => ?_⟩
            rw [List.mem_singleton] at hy
            subst hy
            exact hlt x (hp x hx)
          · rcases List.mem_append.1 hx with q | q
            · exact hg.2.2 x q
            · rw [List.mem_singleton] at q; subst q; exact ⟨hd, by omega⟩
        · exact hg
    · intro x hx
      unfold stepX at hx
      split at hx
      · exact List.mem_append_left _ (hp x hx)
      · split at hx
        · rcases List.mem_append.1 hx with q | q
          · exact List.mem_append_left _ (hp x q)
          · exact List.mem_append_right _ q
        · exact List.mem_append_left _ (hp x hx)
    · intro x hx
      have hx0 := hh x hx
      have key : hasX (stepX s d) x ↔ hasX s x ∨ x = d := by
        unfold stepX
        split
        · next h1 =>
          unfold hasX
          simp only [numX_set hg.1 hd hx]
          by_cases e1 : x.1 = d.1
          · have e2 : numX s.1 x = numX s.1 d := by unfold numX; rw [e1]
            rw [if_pos e1]
            constructor
            · rintro (q | q)
              · by_cases e3 : x.2 = d.2
                · exact .inr (Prod.ext e1 e3)
                · exact .inl (.inl (by omega))
              · exact .inl (.inr q)
            · rintro ((q | q) | q)
              · exact .inl (by omega)
              · exact .inr q
              · subst q; exact .inl (by omega)
          · rw [if_neg e1]
            constructor
            · exact fun q => .inl q
            · rintro (q | q)
              · exact q
              · subst q; exact absurd rfl e1
        · split
          · unfold hasX
            simp only [List.mem_append, List.mem_singleton]
            constructor
            · rintro (q | q | q)
              · exact .inl (.inl q)
              · exact .inl (.inr q)
              · exact .inr q
            · rintro ((q | q) | q)
              · exact .inl q
              · exact .inr (.inl q)
              · exact .inr (.inr q)
          · next h1 h2 =>
            constructor
            · exact fun q => .inl q
            · rintro (q | q)
              · exact q
              · subst q; exact .inl (by omega)
      rw [key, hx0, List.mem_append, List.mem_singleton]
      constructor
      · rintro ((q | q) | q)
        · exact .inl q
        · exact .inr (.inl q)
        · exact .inr (.inr q)
      · rintro (q | q | q)
        · exact .inl (.inl q)
        · exact .inl (.inr q)
        · exact .inr q
theorem foldX_good {X : List Int} (hX : BdX X) {l : List Dot} (hs : SrtD l) (hm : ∀ x ∈ l, mayD x = true) :
    GoodX (foldX X l) ∧ ∀ d, mayD d = true → (hasX (foldX X l) d ↔ d.2 ≤ numX X d ∨ d ∈ l) := by
  have h := fold_good X l (X, []) [] ⟨hX, by simp [SrtD], by simp⟩ (by simpa using hs) hm (by simp) (by intro d _; simp [hasX])
  simpa [foldX] using h

/-- There is one Seen of each set of dots. -/
theorem good_ext {s t : Sn} (hs : GoodX s) (ht : GoodX t) (h : ∀ d, mayD d = true → (hasX s d ↔ hasX t d)) : s = t := by
  have half : ∀ {s t : Sn}, GoodX s → GoodX t → (∀ d, mayD d = true → (hasX s d ↔ hasX t d)) → ∀ i, i < 5 → t.1.getD i 0 ≤ s.1.getD i 0 := by
    intro s t hs ht h i hi
    refine Int.not_lt.1 fun hlt => ?_
    have e : ∀ X : List Int, ∀ n, numX X (((i : Int) + 1), n) = X.getD i 0 := fun X n => by unfold numX; congr 1; show ((i : Int) + 1 - 1).toNat = i; omega
    have b1 := numX_bd hs.1 (((i : Int) + 1), s.1.getD i 0 + 1)
    have b2 := numX_bd ht.1 (((i : Int) + 1), s.1.getD i 0 + 1)
    rw [e] at b1 b2
    have hm : mayD (((i : Int) + 1), s.1.getD i 0 + 1) = true := mayD_iff.2 ⟨by show 1 ≤ (i : Int) + 1; omega, by show (i : Int) + 1 ≤ 5; omega, by show 1 ≤ s.1.getD i 0 + 1; omega, by show s.1.getD i 0 + 1 ≤ 1048576; omega⟩
    have h1 : hasX t (((i : Int) + 1), s.1.getD i 0 + 1) := .inl (by rw [e]; show s.1.getD i 0 + 1 ≤ _; omega)
    rcases (h _ hm).2 h1 with q | q
    · rw [e] at q
      have q' : s.1.getD i 0 + 1 ≤ s.1.getD i 0 := q
      omega
    · have := (hs.2.2 _ q).2
      rw [e] at this
      have q' : s.1.getD i 0 + 1 < s.1.getD i 0 + 1 := this
      omega
  have e1 : s.1 = t.1 := by
    rw [← vec_eq s.1 hs.1.1, ← vec_eq t.1 ht.1.1]
    have a1 := half hs ht h
    have a2 := half ht hs (fun d hd => (h d hd).symm)
    have q : ∀ i, i < 5 → s.1.getD i 0 = t.1.getD i 0 := fun i hi => Int.le_antisymm (a2 i hi) (a1 i hi)
    rw [q 0 (by omega), q 1 (by omega), q 2 (by omega), q 3 (by omega), q 4 (by omega)]
  refine Prod.ext e1 (srt_ext hs.2.1 ht.2.1 fun x => ?_)
  constructor
  · intro hx
    have k := hs.2.2 x hx
    rcases (h x k.1).1 (.inr hx) with q | q
    · rw [← e1] at q; omega
    · exact q
  · intro hx
    have k := ht.2.2 x hx
    rcases (h x k.1).2 (.inr hx) with q | q
    · rw [e1] at q; omega
    · exact q

/-- The document's 'Add'. -/
def addR (s : Sn) (d : Dot) : Sn := if hasX s d then s else foldX s.1 (putD s.2 d)
theorem addR_good {s : Sn} (hs : GoodX s) {d : Dot} (hd : mayD d = true) : GoodX (addR s d) ∧ ∀ x, mayD x = true → (hasX (addR s d) x ↔ hasX s x ∨ x = d) := by
  unfold addR
  split
  · next h =>
    refine ⟨hs, fun x _ => ⟨fun q => .inl q, ?_⟩⟩
    rintro (q | q)
    · exact q
    · subst q; exact h
  · have h := foldX_good hs.1 (srt_putD (d := d) hs.2.1) (fun x hx => by rcases mem_putD.1 hx with q | q; · subst q; exact hd
                                                                         · exact (hs.2.2 x q).1)
    refine ⟨h.1, fun x hx => ?_⟩
    rw [h.2 x hx, mem_putD]
    unfold hasX
    constructor
    · rintro (q | q | q)
      · exact .inl (.inl q)
      · exact .inr q
      · exact .inl (.inr q)
    · rintro ((q | q) | q)
      · exact .inl q
      · exact .inr (.inr q)
      · exact .inr (.inl q)
theorem addR_len (s : Sn) (d : Dot) : (addR s d).2.length ≤ s.2.length + 1 := by
  unfold addR
  split
  · omega
  · exact Nat.le_trans (foldX_len _ _) putD_len
theorem addsR {l : List Dot} (hl : ∀ x ∈ l, mayD x = true) : ∀ {s : Sn}, GoodX s → GoodX (l.foldl addR s) ∧ ∀ x, mayD x = true → (hasX (l.foldl addR s) x ↔ hasX s x ∨ x ∈ l) := by
  induction l with
  | nil => intro s hs; simpa using hs
  | cons d r ih =>
    intro s hs
    have h1 := addR_good hs (hl d (by simp))
    have h2 := ih (fun x hx => hl x (List.mem_cons_of_mem _ hx)) h1.1
    refine ⟨h2.1, fun x hx => ?_⟩
    rw [List.foldl_cons, h2.2 x hx, h1.2 x hx, List.mem_cons]
    constructor
    · rintro ((q | q) | q)
      · exact .inl q
      · exact .inr (.inl q)
      · exact .inr (.inr q)
    · rintro (q | q | q)
      · exact .inl (.inl q)
      · exact .inl (.inr q)
      · exact .inr q

/-- The document's step, which passes none by. -/
def stepR (s : Sn) (d : Dot) : Sn := if d.2 = numX s.1 d + 1 then (s.1.set (d.1 - 1).toNat d.2, s.2) else (s.1, s.2 ++ [d])
theorem stepR_is {s : Sn} {d : Dot} (h : numX s.1 d < d.2) : stepR s d = stepX s d := by
  unfold stepR stepX
  split
  · rfl
  · rw [if_pos (by omega)]
theorem foldR_is : ∀ (l : List Dot) (s : Sn), BdX s.1 → SrtD l → (∀ x ∈ l, mayD x = true ∧ numX s.1 x < x.2) → l.foldl stepR s = l.foldl stepX s
  | [], _, _, _, _ => rfl
  | d :: r, s, hb, hs, h => by
    have k := List.pairwise_cons.1 hs
    rw [List.foldl_cons, List.foldl_cons, stepR_is (h d (by simp)).2]
    have hb' : BdX (stepX s d).1 := by
      unfold stepX
      split
      · exact hb.set (h d (by simp)).1 _
      · split <;> exact hb
    refine foldR_is r _ hb' k.2 fun x hx => ⟨(h x (List.mem_cons_of_mem _ hx)).1, ?_⟩
    have hx1 := h x (List.mem_cons_of_mem _ hx)
    have hl := k.1 x hx
    rw [lessD_iff] at hl
    unfold stepX
    split
    · show numX (s.1.set (d.1 - 1).toNat d.2) x < x.2
      rw [numX_set hb (h d (by simp)).1 hx1.1]
      split
      · omega
      · exact hx1.2
    · split <;> exact hx1.2
theorem addR_as {s : Sn} (hs : GoodX s) {d : Dot} (hd : mayD d = true) (hn : ¬ hasX s d) : addR s d = (putD s.2 d).foldl stepR (s.1, []) := by
  unfold addR
  rw [if_neg hn]
  symm
  refine foldR_is _ (s.1, []) hs.1 (srt_putD hs.2.1) fun x hx => ?_
  rcases mem_putD.1 hx with q | q
  · subst q
    exact ⟨hd, by have : ¬ x.2 ≤ numX s.1 x := fun q => hn (.inl q); show numX s.1 x < x.2; omega⟩
  · have := hs.2.2 x q
    exact ⟨this.1, by show numX s.1 x < x.2; omega⟩
end Go.Proofs.Ytooggheoaglbeaa

/- Numbers in memory: a slice's (NS), those of the call's own (OwnN), and 'append' onto them as one law. -/
namespace Go.Proofs.Ytooggheoaglbeaa
open Go.RowKit
set_option linter.unusedVariables false

/-- A slice value's numbers. -/
def NS (w : World) (a : Option Addr) (n : Nat) (l : List Int) : Prop :=
  l.length = n ∧ n ≤ maxLen ∧ (n = 0 ∨ ∃ b off, a = some ⟨b, off, none⟩ ∧ ∀ i, i < n → w.cell? ⟨b, off + i, none⟩ = some (.int .i64 (l.getD i 0)))
/-- A slice value whose numbers lie in a block of the call's own, at 'N' or above. -/
def OwnN (N : Nat) (w : World) (v : Value) (l : List Int) : Prop := w.ownsRow N 3 1 v l.length (l.map (Value.int .i64))

theorem NS.ext {w w' : World} {a : Option Addr} {n : Nat} {l : List Int} (h : NS w a n l) (hx : Ext w w') : NS w' a n l := by
  obtain ⟨h1, h2, h4⟩ := h
  refine ⟨h1, h2, ?_⟩
  rcases h4 with h0 | ⟨b, off, ha, hc⟩
  · exact .inl h0
  · exact .inr ⟨b, off, ha, fun i hi => hx _ _ (hc i hi)⟩
theorem NS.below {w w' : World} {p : Option Addr} {len : Nat} {l : List Int} (h : NS w p len l) (hb : Below w.heap.size w w') : NS w' p len l := h.ext ((Ext.refl w).below hb)
theorem NS.alloc {w : World} {p : Option Addr} {len : Nat} {l : List Int} (h : NS w p len l) (o : Obj) : NS (w.alloc o) p len l := h.ext ((Ext.refl w).alloc o)
theorem NS.drew {w : World} {a : Option Addr} {n : Nat} {l : List Int} (h : NS w a n l) : NS w.drew a n l := h
theorem NS.nil (w : World) (p : Option Addr) : NS w p 0 [] := ⟨rfl, by decide, .inl rfl⟩
theorem NS.new (w : World) (g : Nat) (hg : g = w.heap.size) (l : List Int) (C : Array Value) (hC : C = (l.map (Value.int .i64)).toArray) (t : TypeId) (fr : Nat × Nat) (n : Nat) (hn : l.length = n) (hmax : n ≤ maxLen) :
    NS (w.alloc (.cells C t fr)) (some ⟨g, 0, none⟩) n l := by
  subst hg hC
  refine ⟨hn, hmax, .inr ⟨_, 0, rfl, fun i hi => ?_⟩⟩
  rw [World.cell?_alloc_mark]
  subst hn
  simp [List.getD_eq_getElem?_getD, hi]
theorem NS.head {w : World} {a : Option Addr} {len : Nat} {l : List Int} (hB : NS w a len l) (h : Nat) (h2 : h ≤ len) : NS w a h (l.take h) := by
  obtain ⟨g1, g2, g4⟩ := hB
  refine ⟨by rw [List.length_take]; omega, by omega, ?_⟩
  rcases Nat.eq_zero_or_pos h with h0 | hp
  · exact .inl h0
  · rcases g4 with h0 | ⟨b, off, rfl, hc⟩
    · omega
    · refine .inr ⟨b, off, rfl, fun t ht => ?_⟩
      have h4 : (l.take h).getD t 0 = l.getD t 0 := by simp [List.getD_eq_getElem?_getD, ht]
      rw [h4]
      exact hc t (by omega)

theorem OwnN.mono {N N' : Nat} {w : World} {v : Value} {l : List Int} (h : OwnN N w v l) (hN : N' ≤ N) : OwnN N' w v l := ⟨h.1, h.2.imp id fun ⟨g, cap, cur, h1, h2, h3⟩ => ⟨g, cap, cur, h1, Nat.le_trans hN h2, h3⟩⟩
theorem OwnN.alloc {N : Nat} {w : World} {v : Value} {l : List Int} (h : OwnN N w v l) (o : Obj) : OwnN N (w.alloc o) v l := World.ownsRow.alloc h o
theorem OwnN.drew {N : Nat} {w : World} {v : Value} {l : List Int} (h : OwnN N w v l) : OwnN N w.drew v l := World.ownsRow.drew h
theorem OwnN.below {N : Nat} {w w' : World} {v : Value} {l : List Int} (h : OwnN N w v l) (hb : Below w.heap.size w w') : OwnN N w' v l := by
  refine ⟨h.1, ?_⟩
  rcases h.2 with hn | ⟨g, cap, cur, rfl, hb', hgg, rest⟩
  · exact .inl hn
  · refine .inr ⟨g, cap, cur, rfl, hb', ?_, rest⟩
    rw [hb.block g (Array.getElem?_eq_some_iff.1 hgg).1]
    exact hgg
theorem OwnN.nil (N : Nat) (w : World) : OwnN N w (.slice none 0 0) [] := ⟨rfl, .inl ⟨rfl, rfl⟩⟩
theorem OwnN.open {N : Nat} {w : World} {v : Value} {l : List Int} (h : OwnN N w v l) : ∃ p cap, v = .slice p l.length cap ∧ NS w p l.length l ∧ CP p l.length cap := by
  have h0 := h
  obtain ⟨_, h2⟩ := h
  rcases h2 with ⟨rfl, h2⟩ | ⟨g, cap, cur, rfl, hb, hg, hc1, hc2, hs, ht⟩
  · exact ⟨none, 0, by rw [h2], ⟨rfl, by rw [h2]; decide, .inl h2⟩, by omega, by decide, fun _ => rfl⟩
  · refine ⟨some ⟨g, 0, none⟩, cap, rfl, ⟨rfl, by omega, .inr ⟨g, 0, rfl, fun i hi => ?_⟩⟩, hc1, hc2, fun h => by cases h⟩
    rw [Nat.zero_add, World.ownsRow.cellAt h0 i (by omega)]
    simp [List.getD_eq_getElem?_getD, hi]
theorem OwnN.made (w : World) (N g : Nat) (hg : g = w.heap.size) (hN : N ≤ w.heap.size) : OwnN N (w.alloc (.cells #[] 3)) (.slice (some ⟨g, 0, none⟩) 0 0) [] := by
  subst hg; exact World.ownsRow_made w #[] 0 hN (by decide) rfl
theorem NS.one (w : World) (g : Nat) (hg : g = w.heap.size) (x : Int) : NS (w.alloc (.cells #[.int .i64 x] 3)) (some ⟨g, 0, none⟩) 1 [x] :=
  NS.new w g hg [x] _ rfl _ _ 1 rfl (by decide)

theorem Try.infoI64 : (Try.prog.info? 3).map (fun i => (i.zero, i.size, i.bytes)) = some (some (.int .i64 0), 1, 8) := by kernel_rfl

/-- What is appended may be of another slice type of the same elements. -/
theorem append_types {P : Program} (t u ty e : TypeId) (ht : P.underlying t = some (.slice e)) (hu : P.underlying u = some (.slice e)) (args : Array Value) (w : World) :
    (Builtin.append_ #[t, u] ty args).run P w = (Builtin.append_ #[t, t] ty args).run P w := by
  unfold Builtin.append_
  rcases args[0]? with _ | s
  · simp
  · rcases args[1]? with _ | x
    · simp
    · cases s <;> simp only [List.getElem?_toArray, List.getElem?_cons_zero, List.getElem?_cons_succ, Sem.run_bind, Sem.run_pure, run_underlying ht, run_underlying hu, Result.andThen_ok]

/-- 'append(v, x...)', 'v' numbers of the call's own. -/
theorem append_nums {w : World} {ops : Array Oper} {rest : List Oper} {o : Oper} {a : Act} {Q : Exit → Act → World → Prop} (hgd : o.guard = none) (s x : Operand) (u : TypeId) (hu : Try.prog.underlying u = some (.slice 3))
    (ho : o.op = .call { callee := .builtin .append, args := #[s, x], argTypes := #[25, u] })
    (N : Nat) (v : Value) (l m : List Int) (hs : a.eval s = v) (hown : OwnN N w v l) (p : Addr) (len cap : Nat) (hx : a.eval x = .slice (some p) len cap) (hB : NS w (some p) len m)
    (hbig : (l.length + m.length) * 8 ≤ 140737488355328) (hN : N ≤ w.heap.size)
    (h : ∀ v' w', OwnN N w' v' (l ++ m) → w.grownBy w' v.ownBlock → (∀ w0, Below N w0 w → Below N w0 w') → wpList Try.prog ops Q rest (a.put o.dst v') w') : wpList Try.prog ops Q (o :: rest) a w := by
  obtain ⟨i0, hi, hz0, hz1, hz2⟩ := info_parts Try.infoI64
  obtain ⟨g1, g2, g4⟩ := hB
  refine wpList_plain hgd fun K hK => ?_
  obtain ⟨v', w', hr, h2, h3, _⟩ := run_append_own (P := Try.prog) w N 25 o.type 3 i0 (.int .i64 0) 1 8 Try.underlying25 hi hz0 hz1 hz2 rfl (by decide) v _ _ hown p len cap (m.map (Value.int .i64)) (by simp [g1])
    (by
      intro j u hj
      rw [List.getElem?_map, Option.map_eq_some_iff] at hj
      obtain ⟨y, hy, rfl⟩ := hj
      obtain ⟨hj1, hx2⟩ := List.getElem?_eq_some_iff.1 hy
      rcases g4 with h0 | ⟨b, off, hh, hc⟩
      · omega
      · cases hh
        have h1 := hc j (by omega)
        have h2 : m.getD j 0 = y := by simp [List.getD_eq_getElem?_getD, hy]
        rw [h2] at h1
        have h3 : (⟨b, off, none⟩ : Addr).add j = ⟨b, off + j, none⟩ := by
          by_cases hj0 : j = 0
          · subst hj0; simp [Addr.add]
          · simp [Addr.add, hj0]
        rw [h3]
        exact h1)
    (by
      intro u hu
      rw [List.mem_map] at hu
      obtain ⟨y, _, rfl⟩ := hu
      rfl)
    (by rw [← g1]; unfold maxLen; omega) (by rw [← g1]; omega) hN
  have e : l.length + len = (l ++ m).length := by rw [List.length_append, g1]
  rw [e, ← List.map_append] at h2
  unfold Oper.wp execOp
  simp only [ho, resolve, invoke, builtin, Sem.run_bind, Sem.run_pure, Result.andThen_ok, List.map_toArray, List.map_cons, List.map_nil, hs, hx, append_types _ _ _ _ Try.underlying25 hu, hr]
  exact hK _ _ (h v' w' h2 h3 (fun w0 hb => hb.grown h3 hN (fun j hj => (World.ownsRow.lt hown j hj).1)))
end Go.Proofs.Ytooggheoaglbeaa

/- What 'mayBeRep', 'mayBeNumber', 'Check', the document's 'May', 'Get' and 'Same' do. -/
namespace Go.Proofs.Ytooggheoaglbeaa
open Go.RowKit
set_option linter.unusedVariables false

theorem retB {a b : Bool} (h : a = b) : Ending.returned (.bool a) = .returned (.bool b) := by rw [h]

theorem mayRep_any (r : Int) (w : World) : Calls Try.prog 64 #[.int .i64 r] w fun e w' => e = .returned (.bool (decide (1 ≤ r ∧ r ≤ 5))) ∧ w' = w := by
  by_cases h1 : r ≥ 1
  · by_cases h2 : r ≤ 5
    · go_enter Try.func64, Try.ntmps64
      go_wp2
      go_ret
      exact ⟨retB (by simp; omega), rfl⟩
    · go_enter Try.func64, Try.ntmps64
      go_wp2
      go_ret
      exact ⟨retB (by simp; omega), rfl⟩
  · go_enter Try.func64, Try.ntmps64
    go_wp2
    go_ret
    exact ⟨retB (by simp; omega), rfl⟩

theorem mayNum_any (r : Int) (w : World) : Calls Try.prog 89 #[.int .i64 r] w fun e w' => e = .returned (.bool (inB r)) ∧ w' = w := by
  by_cases h1 : r ≥ 0
  · by_cases h2 : r ≤ 1048576
    · go_enter Try.func89, Try.ntmps89
      go_wp2
      go_ret
      exact ⟨retB (by simp [inB]; omega), rfl⟩
    · go_enter Try.func89, Try.ntmps89
      go_wp2
      go_ret
      exact ⟨retB (by simp [inB]; omega), rfl⟩
  · go_enter Try.func89, Try.ntmps89
    go_wp2
    go_ret
    exact ⟨retB (by simp [inB]; omega), rfl⟩

/-- 'Check', as a number. -/
def chk (c : List Int) : Int := if mayC c = true then 0 else 1

theorem all_drop {l : List Int} {k : Nat} (h : k < l.length) : (l.drop k).all inB = (inB (l.getD k 0) && (l.drop (k + 1)).all inB) := by
  rw [List.drop_eq_getElem_cons h, List.all_cons]
  simp [List.getD_eq_getElem?_getD, h]

set_option maxHeartbeats 400000 in
theorem check_any (a : Option Addr) (n cap : Nat) (c : List Int) (w : World) (hN : NS w a n c) :
    Calls Try.prog 63 #[.slice a n cap] w fun e w' => e = .returned (.int .i64 (chk c)) ∧ w' = w := by
  obtain ⟨hlen, hmax, hcells⟩ := hN
  unfold maxLen at hmax
  by_cases h5 : n > 5
  · have HE : Hid (1 = chk c) := by
      have : mayC c = false := by simp [mayC, hlen]; omega
      unfold Hid chk; simp [this]
    clear hlen hcells
    go_enter Try.func63, Try.ntmps63
    go_wp2
    go_ret
    exact ⟨ret_int HE.out, rfl⟩
  · have hlen' := hide hlen
    have HM : Hid (mayC c = (c.drop 0).all inB) := by unfold Hid; simp [mayC, hlen]; omega
    have hcells' := hide hcells
    clear hlen hcells
    go_enter Try.func63, Try.ntmps63
    go_wp2
    go_loop [10] (fun i => ∃ k : Nat, k ≤ n ∧ i = .int .i64 k ∧ Hid (mayC c = (c.drop k).all inB)) (fun i => n - (intOf i).toNat)
    case atStart => exact ⟨0, by omega, rfl, HM⟩
    case round =>
      clear HM
      obtain ⟨k, hk, rfl, hH⟩ := hrel
      by_cases hlt : k < n
      · rcases hcells'.out with h0 | ⟨b, off, rfl, hc⟩
        · omega
        · have hck := hc k hlt
          have hst : Hid (mayC c = (inB (c.getD k 0) && (c.drop (k + 1)).all inB)) := by
            have h2 := hH.out
            rw [all_drop (by rw [hlen'.out]; exact hlt)] at h2
            exact h2
          clear hH hc hcells'
          generalize c.getD k 0 = x at hck hst
          rcases hb : inB x with _ | _
          · have HE : Hid (1 = chk c) := by have h2 := hst.out; rw [hb] at h2; unfold Hid chk; simp [h2]
            have mb := mayNum_any x
            rw [hb] at mb
            clear hst
            go_wp2_with (go_at_call 89; refine (mb _).mono ?_; rintro e w' ⟨rfl, rfl⟩)
            go_ret
            exact ⟨ret_int HE.out, rfl⟩
          · have hst2 : Hid (mayC c = (c.drop (k + 1)).all inB) := by have h2 := hst.out; rw [hb] at h2; unfold Hid; simpa using h2
            have mb := mayNum_any x
            rw [hb] at mb
            clear hst
            go_wp2_with (go_at_call 89; refine (mb _).mono ?_; rintro e w' ⟨rfl, rfl⟩)
            go_round
            case rel => exact ⟨k + 1, by omega, by go_num, hst2⟩
            case measure => simp [intOf]; omega
      · have hkl : k = n := by omega
        subst hkl
        have HE : Hid (0 = chk c) := by
          have h2 := hH.out
          rw [List.drop_of_length_le (by rw [hlen'.out]; exact Nat.le_refl _)] at h2
          unfold Hid chk; simp [h2]
        clear hH
        go_wp2
        go_ret
        exact ⟨ret_int HE.out, rfl⟩

set_option maxHeartbeats 400000 in
theorem may_ref (a : Option Addr) (n cap : Nat) (c : List Int) (w : World) (hN : NS w a n c) :
    Calls Try.prog 39 #[.slice a n cap] w fun e w' => e = .returned (.bool (mayC c)) ∧ w' = w := by
  obtain ⟨hlen, hmax, hcells⟩ := hN
  unfold maxLen at hmax
  have hlen' := hide hlen
  have HM : Hid (mayC c = (decide (n ≤ 5) && (c.drop 0).all inB)) := by unfold Hid; simp [mayC, hlen]
  have hcells' := hide hcells
  clear hlen hcells
  go_enter Try.func39, Try.ntmps39
  go_wp2
  go_loop [3] (fun i => ∃ k : Nat, k ≤ n ∧ i = .int .i64 k ∧ Hid (mayC c = (decide (n ≤ 5) && (c.drop k).all inB))) (fun i => n - (intOf i).toNat)
  case atStart => exact ⟨0, by omega, rfl, HM⟩
  case round =>
    clear HM
    obtain ⟨k, hk, rfl, hH⟩ := hrel
    by_cases hlt : k < n
    · rcases hcells'.out with h0 | ⟨b, off, rfl, hc⟩
      · omega
      · have hck := hc k hlt
        have hst : Hid (mayC c = (decide (n ≤ 5) && (inB (c.getD k 0) && (c.drop (k + 1)).all inB))) := by
          have h2 := hH.out
          rw [all_drop (by rw [hlen'.out]; exact hlt)] at h2
          exact h2
        clear hH hc hcells'
        generalize c.getD k 0 = x at hck hst
        by_cases h1 : x < 0
        · have HE : Hid (false = mayC c) := by have h2 := hst.out; unfold Hid; rw [h2]; simp [inB]; omega
          clear hst
          go_wp2
          go_ret
          exact ⟨retB HE.out, rfl⟩
        · by_cases h2 : x > 1048576
          · have HE : Hid (false = mayC c) := by have h2 := hst.out; unfold Hid; rw [h2]; simp [inB]; omega
            clear hst
            go_wp2
            go_ret
            exact ⟨retB HE.out, rfl⟩
          · have hst2 : Hid (mayC c = (decide (n ≤ 5) && (c.drop (k + 1)).all inB)) := by
              have h3 := hst.out
              have h4 : inB x = true := inB_iff.2 ⟨by omega, by omega⟩
              rw [h4] at h3; unfold Hid; simpa using h3
            clear hst
            go_wp2
            go_round
            case rel => exact ⟨k + 1, by omega, by go_num, hst2⟩
            case measure => simp [intOf]; omega
    · have hkl : k = n := by omega
      subst hkl
      have HE : Hid (decide (k ≤ 5) = mayC c) := by
        have h2 := hH.out
        rw [List.drop_of_length_le (by rw [hlen'.out]; exact Nat.le_refl _)] at h2
        unfold Hid; rw [h2]; simp
      clear hH
      go_wp2
      go_ret
      exact ⟨retB (by rw [← HE.out]; simp; omega), rfl⟩

set_option maxHeartbeats 400000 in
/-- The document's 'Get'. -/
theorem get_ref (a : Option Addr) (n cap : Nat) (c : List Int) (r : Int) (w : World) (hN : NS w a n c) (k : Nat) (hr : r = k + 1) :
    Calls Try.prog 41 #[.slice a n cap, .int .i64 r] w fun e w' => e = .returned (.int .i64 (at5 c k)) ∧ w' = w := by
  have mb := may_ref a n cap c w hN
  obtain ⟨hlen, hmax, hcells⟩ := hN
  unfold maxLen at hmax
  subst hr
  by_cases hm : mayC c = true
  · have h5 : n ≤ 5 := by have := (mayC_iff.1 hm).1; omega
    rw [hm] at mb
    by_cases hk : k < n
    · have HE : Hid (c.getD k 0 = at5 c k) := by unfold Hid at5; rw [if_pos hm]
      rcases hcells with h0 | ⟨b, off, rfl, hc⟩
      · omega
      · have hck := hc k hk
        have hw : ((k : Int) + 1 - 1) = k := by omega
        have e1 : ¬ ((k : Int) + 1 < 1) := by omega
        have e2 : ¬ ((k : Int) + 1 > n) := by omega
        clear hc hlen hm
        generalize c.getD k 0 = x at hck HE
        go_enter Try.func41, Try.ntmps41
        go_wp2_with (go_at_call 39; refine mb.mono ?_; rintro e w' ⟨rfl, rfl⟩)
        go_ret
        exact ⟨ret_int HE.out, rfl⟩
    · have HE : Hid (0 = at5 c k) := by
        unfold Hid at5; rw [if_pos hm]; simp [List.getD_eq_getElem?_getD, List.getElem?_eq_none (show c.length ≤ k by omega)]
      have e1 : ¬ ((k : Int) + 1 < 1) := by omega
      have e2 : ((k : Int) + 1 > n) := by omega
      clear hcells hlen hm
      go_enter Try.func41, Try.ntmps41
      go_wp2_with (go_at_call 39; refine mb.mono ?_; rintro e w' ⟨rfl, rfl⟩)
      go_ret
      exact ⟨ret_int HE.out, rfl⟩
  · have HE : Hid (0 = at5 c k) := by unfold Hid at5; rw [if_neg hm]
    rw [show mayC c = false by simpa using hm] at mb
    clear hcells hlen hm
    go_enter Try.func41, Try.ntmps41
    go_wp2_with (go_at_call 39; refine mb.mono ?_; rintro e w' ⟨rfl, rfl⟩)
    go_ret
    exact ⟨ret_int HE.out, rfl⟩

theorem get_ref_as (a : Option Addr) (n cap : Nat) (c : List Int) (r x : Int) (w : World) (hN : NS w a n c) (k : Nat) (hr : r = k + 1) (hx : at5 c k = x) :
    Calls Try.prog 41 #[.slice a n cap, .int .i64 r] w fun e w' => e = .returned (.int .i64 x) ∧ w' = w := by
  subst hx; exact get_ref a n cap c r w hN k hr

theorem eq_drop {l m : List Int} {k : Nat} (h : k < l.length) (h2 : k < m.length) : (l.drop k = m.drop k) ↔ (l.getD k 0 = m.getD k 0 ∧ l.drop (k + 1) = m.drop (k + 1)) := by
  rw [List.drop_eq_getElem_cons h, List.drop_eq_getElem_cons h2, List.cons.injEq]
  simp [List.getD_eq_getElem?_getD, h, h2]

set_option maxHeartbeats 400000 in
/-- The document's 'Same'. -/
theorem same_any (a a' : Option Addr) (n cap n' cap' : Nat) (c d : List Int) (w : World) (hN : NS w a n c) (hN' : NS w a' n' d) :
    Calls Try.prog 37 #[.slice a n cap, .slice a' n' cap'] w fun e w' => e = .returned (.bool (decide (c = d))) ∧ Below w.heap.size w w' := by
  obtain ⟨hlen, hmax, hcells⟩ := hN
  obtain ⟨hlen', hmax', hcells'⟩ := hN'
  unfold maxLen at hmax hmax'
  by_cases hnn : n = n'
  · subst hnn
    have HL := hide hlen
    have HL' := hide hlen'
    have HC := hide hcells
    have HC' := hide hcells'
    clear hlen hlen' hcells hcells'
    go_enter Try.func37, Try.ntmps37
    go_wp2
    go_loopw [5] (fun i wr => ∃ k : Nat, k ≤ n ∧ i = .int .i64 k ∧ Below w.heap.size w wr ∧ Hid ((c = d) ↔ (c.drop k = d.drop k))) (fun i _ => n - (intOf i).toNat)
    case atStart => exact ⟨0, by omega, rfl, Below.refl _ _, by unfold Hid; simp⟩
    case round =>
      obtain ⟨k, hk, rfl, hbel, hH⟩ := hrel
      by_cases hlt : k < n
      · rcases HC.out with h0 | ⟨b, off, rfl, hc⟩
        · omega
        · rcases HC'.out with h0 | ⟨b', off', rfl, hc'⟩
          · omega
          · have hck := ((Ext.refl w).below hbel) _ _ (hc k hlt)
            have hck' := ((Ext.refl w).below hbel) _ _ (hc' k hlt)
            have hst : Hid ((c = d) ↔ (c.getD k 0 = d.getD k 0 ∧ c.drop (k + 1) = d.drop (k + 1))) := by
              have h2 := hH.out
              rw [eq_drop (by rw [HL.out]; exact hlt) (by rw [HL'.out]; exact hlt)] at h2
              exact h2
            clear hc hc' hH
            generalize c.getD k 0 = x at hck hst
            generalize d.getD k 0 = y at hck' hst
            by_cases hxy : x = y
            · have hst2 : Hid ((c = d) ↔ (c.drop (k + 1) = d.drop (k + 1))) := by have h2 := hst.out; unfold Hid; rw [h2]; simp [hxy]
              clear hst
              subst hxy
              go_wp2
              go_region
              all_goals go_wp2
              all_goals go_roundw
              all_goals first | exact ⟨k + 1, by omega, by go_num, by first | exact hbel | exact hbel.drew, hst2⟩ | (simp [intOf]; omega)
            · have HE : Hid (false = decide (c = d)) := by have h2 := hst.out; unfold Hid; simp [h2, hxy]
              have hxy2 : (x == y) = false := by simpa using hxy
              clear hst
              go_wp2
              go_region
              all_goals go_wp2
              all_goals go_ret
              all_goals exact ⟨retB HE.out, by first | exact hbel | exact hbel.drew⟩
      · have hkl : k = n := by omega
        subst hkl
        have HE : Hid (true = decide (c = d)) := by
          have h2 := hH.out
          rw [List.drop_of_length_le (by rw [HL.out]; exact Nat.le_refl _), List.drop_of_length_le (by rw [HL'.out]; exact Nat.le_refl _)] at h2
          unfold Hid; simp [h2]
        clear hH
        go_wp2
        go_ret
        exact ⟨retB HE.out, hbel⟩
  · have HE : Hid (false = decide (c = d)) := by
      unfold Hid; symm; rw [decide_eq_false_iff_not]; intro hh; subst hh; omega
    have hnn' : ¬ ((n : Int) = n') := by omega
    clear hlen hlen' hcells hcells'
    go_enter Try.func37, Try.ntmps37
    go_wp2
    go_ret
    exact ⟨retB HE.out, Below.refl _ _⟩
end Go.Proofs.Ytooggheoaglbeaa

/- What 'numbersOf', 'plain', 'join' and 'within' do: arrays of five numbers. -/
namespace Go.Proofs.Ytooggheoaglbeaa
open Go.RowKit
set_option linter.unusedVariables false

theorem at5_may {c : List Int} (hm : mayC c = true) (k : Nat) : at5 c k = c.getD k 0 := if_pos hm
theorem five_row {c : List Int} (hm : mayC c = true) (z : Value) (hz : z = .int .i64 0) : (c.map (Value.int .i64) ++ List.drop c.length [z, z, z, z, z]) = [.int .i64 (at5 c 0), .int .i64 (at5 c 1), .int .i64 (at5 c 2), .int .i64 (at5 c 3), .int .i64 (at5 c 4)] := by
  subst hz
  simp only [at5_may hm]
  have h5 := (mayC_iff.1 hm).1
  match c, h5 with
  | [], _ => rfl
  | [_], _ => rfl
  | [_, _], _ => rfl
  | [_, _, _], _ => rfl
  | [_, _, _, _], _ => rfl
  | [_, _, _, _, _], _ => rfl
theorem Try.infoI1 : (Try.prog.info? 3).map (·.size) = some 1 := by kernel_rfl
theorem Try.info5 : (Try.prog.info? 88).map (·.size) = some 5 := by kernel_rfl

theorem bel1 (w : World) (A : Obj) : Below w.heap.size w (w.alloc A) := (Below.refl _ _).alloc (Nat.le_refl _) _
theorem bel2 (w : World) (A B : Obj) : Below w.heap.size w ((w.alloc A).alloc B) := (bel1 w A).alloc (by simp) _
theorem bel3 (w : World) (A B C : Obj) : Below w.heap.size w (((w.alloc A).alloc B).alloc C) := (bel2 w A B).alloc (by simp; omega) _

/-- 'copy(x[:], c)', 'x' five noughts. -/
theorem run_copy_five (w : World) (g : Nat) (hg : g = w.heap.size) (p : Option Addr) (n cap : Nat) (c : List Int) (hN : NS w p n c) (hm : mayC c = true) :
    (Builtin.copy_ #[24, 25] 3 #[.slice (some ⟨g, 0, none⟩) 5 5, .slice p n cap]).run Try.prog (w.alloc (.cells #[.int .i64 0, .int .i64 0, .int .i64 0, .int .i64 0, .int .i64 0] 88)) =
      .ok (goInt n) (w.alloc (.cells #[.int .i64 (at5 c 0), .int .i64 (at5 c 1), .int .i64 (at5 c 2), .int .i64 (at5 c 3), .int .i64 (at5 c 4)] 88)) := by
  subst hg
  have hN' := hN.alloc (.cells #[.int .i64 0, .int .i64 0, .int .i64 0, .int .i64 0, .int .i64 0] 88)
  obtain ⟨hl, _, hc⟩ := hN'
  have h5 : c.length ≤ 5 := (mayC_iff.1 hm).1
  rcases hc with h0 | ⟨b, off, rfl, hc⟩
  · subst h0
    obtain rfl : c = [] := List.eq_nil_of_length_eq_zero hl
    exact run_copy_none _ _ _ _ _ _ _ _ _ _ _ Try.underlying24 Try.infoI1 (by rfl)
  · rw [run_copy_row (P := Try.prog) _ _ _ _ 3 w.heap.size 0 5 5 ⟨b, off, none⟩ n cap _ _ (c.map (Value.int .i64)) Try.underlying24 Try.infoI1 (heap_alloc_new w _) (by rw [List.length_map, hl]; exact (Nat.min_eq_left (by omega)).symm) ?_ (by simp; omega) ?_]
    · rw [World.setRow_alloc_new]
      have e := five_row hm (.int .i64 0) rfl
      simp only [List.length_map, List.take_zero, List.nil_append, Nat.zero_add, hl]
      rw [hl] at e
      rw [e]
    · intro j v hj
      rw [List.getElem?_map, Option.map_eq_some_iff] at hj
      obtain ⟨y, hy, rfl⟩ := hj
      obtain ⟨hj1, hx2⟩ := List.getElem?_eq_some_iff.1 hy
      have h1 := hc j (by omega)
      have h2 : c.getD j 0 = y := by simp [List.getD_eq_getElem?_getD, hy]
      rw [h2] at h1
      have h3 : (⟨b, off, none⟩ : Addr).add j = ⟨b, off + j, none⟩ := by
        by_cases hj0 : j = 0
        · subst hj0; simp [Addr.add]
        · simp [Addr.add, hj0]
      rw [h3]
      exact h1
    · intro v hv
      rw [List.mem_map] at hv
      obtain ⟨y, _, rfl⟩ := hv
      rfl

set_option maxHeartbeats 400000 in
theorem numbers_any (a : Option Addr) (n cap : Nat) (c : List Int) (w : World) (hN : NS w a n c) :
    Calls Try.prog 65 #[.slice a n cap] w fun e w' => e = .returned (.agg #[.int .i64 (at5 c 0), .int .i64 (at5 c 1), .int .i64 (at5 c 2), .int .i64 (at5 c 3), .int .i64 (at5 c 4)]) ∧ Below w.heap.size w w' := by
  have HN := hide hN
  obtain ⟨hlen, hmax, hcells⟩ := hN
  unfold maxLen at hmax
  by_cases hm : mayC c = true
  · have HM := hide hm
    have hk : chk c = 0 := by unfold chk; rw [if_pos hm]
    clear hlen hcells hm
    go_enter Try.func65, Try.ntmps65
    have hcp := run_copy_five (w.alloc (.cells #[.int .i64 0, .int .i64 0, .int .i64 0, .int .i64 0, .int .i64 0] 88)) (w.heap.size + 1) (by simp) a n cap c (HN.out.alloc _) HM.out
    go_wp2_with (go_at_call 63; refine (check_any _ _ _ c _ ((HN.out.alloc _).alloc _)).mono ?_; rintro e w' ⟨rfl, rfl⟩; rw [hk])
    exact bodyPost_ret (results_cell_row rfl _ _ _ _ _ _ _ rfl (heap_alloc2_old _ _ _) Try.underlying88 rfl Try.info5) rfl ⟨rfl, bel2 _ _ _⟩
  · have hc0 : ∀ k, at5 c k = 0 := fun k => by unfold at5; rw [if_neg hm]
    have HC : Hid (∀ k, at5 c k = 0) := hc0
    have hk : chk c = 1 := by unfold chk; rw [if_neg hm]
    clear hlen hcells hm hc0
    go_enter Try.func65, Try.ntmps65
    go_wp2_with (go_at_call 63; refine (check_any _ _ _ c _ ((HN.out.alloc _).alloc _)).mono ?_; rintro e w' ⟨rfl, rfl⟩; rw [hk])
    refine bodyPost_ret (results_cell_row rfl _ _ _ _ _ _ _ rfl (heap_alloc2_old _ _ _) Try.underlying88 rfl Try.info5) rfl ⟨?_, bel2 _ _ _⟩
    rw [HC.out, HC.out, HC.out, HC.out, HC.out]
end Go.Proofs.Ytooggheoaglbeaa

/- What 'plain' does: the clock of five numbers, without noughts at its end, in new memory. -/
namespace Go.Proofs.Ytooggheoaglbeaa
open Go.RowKit
set_option linter.unusedVariables false

theorem plen_take_zero {X : List Int} {k : Nat} (hk : k < X.length) (h : X.getD k 0 = 0) (hp : plen X = plen (X.take (k + 1))) : plen X = plen (X.take k) := by
  rw [hp, List.take_add_one]
  have e : X[k]? = some 0 := by
    have h1 : X.getD k 0 = X[k] := by simp [List.getD_eq_getElem?_getD, hk]
    rw [List.getElem?_eq_getElem hk, ← h1, h]
  rw [e]; exact plen_zero _
theorem pln_take {X : List Int} {k : Nat} (hk : k < X.length) (h : X.getD k 0 ≠ 0) (hp : plen X = plen (X.take (k + 1))) : pln X = X.take (k + 1) := by
  unfold pln
  rw [hp]
  congr 1
  rw [List.take_add_one]
  have e : X[k]? = some (X.getD k 0) := by simp [List.getD_eq_getElem?_getD, hk]
  rw [e]
  have := plen_snoc h (X.take k)
  rw [show (some (X.getD k 0)).toList = [X.getD k 0] from rfl, this, List.length_take]
  omega
theorem five_ns (w : World) (x0 x1 x2 x3 x4 : Int) (k : Nat) (hk : k ≤ 5) : NS (w.alloc (.cells #[.int .i64 x0, .int .i64 x1, .int .i64 x2, .int .i64 x3, .int .i64 x4] 88)) (some ⟨w.heap.size, 0, none⟩) k ([x0, x1, x2, x3, x4].take k) :=
  (NS.new w _ rfl [x0, x1, x2, x3, x4] _ rfl _ _ 5 rfl (by decide)).head k hk

set_option maxHeartbeats 1000000 in
theorem plain_any (x0 x1 x2 x3 x4 : Int) (w : World) :
    Calls Try.prog 88 #[.agg #[.int .i64 x0, .int .i64 x1, .int .i64 x2, .int .i64 x3, .int .i64 x4]] w fun e w' => ∃ v, e = .returned v ∧ OwnN w.heap.size w' v (pln [x0, x1, x2, x3, x4]) ∧ Below w.heap.size w w' := by
  have HP : Hid (plen [x0, x1, x2, x3, x4] = plen ([x0, x1, x2, x3, x4].take 5)) := rfl
  go_enter Try.func88, Try.ntmps88
  go_wp2
  go_loop [3] (fun i => ∃ k : Nat, k ≤ 5 ∧ i = .int .i64 k ∧ Hid (plen [x0, x1, x2, x3, x4] = plen ([x0, x1, x2, x3, x4].take k))) (fun i => (intOf i).toNat)
  case atStart => exact ⟨5, by omega, rfl, HP⟩
  case round =>
    clear HP
    obtain ⟨k, hk, rfl, hH⟩ := hrel
    have hk5 : k = 0 ∨ k = 1 ∨ k = 2 ∨ k = 3 ∨ k = 4 ∨ k = 5 := by omega
    rcases hk5 with rfl | rfl | rfl | rfl | rfl | rfl
    · have HE : Hid ([x0, x1, x2, x3, x4].take 0 = pln [x0, x1, x2, x3, x4]) := by have h2 := hH.out; unfold Hid pln; rw [h2]; rfl
      clear hH
      have hns := hide (five_ns w x0 x1 x2 x3 x4 0 (by omega))
      go_wp2_with (at_builtin; refine Stop.at ?_)
      unfold Stop
      refine append_nums rfl _ _ 24 Try.underlying24 rfl w.heap.size _ [] ([x0, x1, x2, x3, x4].take 0) rfl (OwnN.nil _ _) ⟨w.heap.size, 0, none⟩ 0 5 rfl hns.out (by simp) (by simp) ?_
      intro v' w' hown hgr hbel
      have hB := hide (hbel _ (bel1 w _))
      have hO := hide hown
      clear hown hgr hbel
      go_wp2
      go_ret
      refine ⟨_, rfl, ?_, hB.out⟩
      rw [← HE.out]
      exact hO.out
    · by_cases hz : x0 = 0
      · have hH2 : Hid (plen [x0, x1, x2, x3, x4] = plen ([x0, x1, x2, x3, x4].take 0)) := plen_take_zero (X := [x0, x1, x2, x3, x4]) (k := 0) (by simp) hz hH.out
        clear hH
        go_wp2
        go_round
        case rel => exact ⟨0, by omega, rfl, by have h := hH2.out; rw [hz] at h; exact h⟩
        case measure => first | decide | (simp [intOf]; done) | (simp [intOf]; omega)
      · have HE : Hid ([x0, x1, x2, x3, x4].take 1 = pln [x0, x1, x2, x3, x4]) := (pln_take (X := [x0, x1, x2, x3, x4]) (k := 0) (by simp) hz hH.out).symm
        clear hH
        have hns := hide (five_ns w x0 x1 x2 x3 x4 1 (by omega))
        go_wp2_with (at_builtin; refine Stop.at ?_)
        unfold Stop
        refine append_nums rfl _ _ 24 Try.underlying24 rfl w.heap.size _ [] ([x0, x1, x2, x3, x4].take 1) rfl (OwnN.nil _ _) ⟨w.heap.size, 0, none⟩ 1 5 rfl hns.out (by simp) (by simp) ?_
        intro v' w' hown hgr hbel
        have hB := hide (hbel _ (bel1 w _))
        have hO := hide hown
        clear hown hgr hbel
        go_wp2
        go_ret
        refine ⟨_, rfl, ?_, hB.out⟩
        rw [← HE.out]
        exact hO.out
    · by_cases hz : x1 = 0
      · have hH2 : Hid (plen [x0, x1, x2, x3, x4] = plen ([x0, x1, x2, x3, x4].take 1)) := plen_take_zero (X := [x0, x1, x2, x3, x4]) (k := 1) (by simp) hz hH.out
        clear hH
        go_wp2
        go_round
        case rel => exact ⟨1, by omega, rfl, by have h := hH2.out; rw [hz] at h; exact h⟩
        case measure => first | decide | (simp [intOf]; done) | (simp [intOf]; omega)
      · have HE : Hid ([x0, x1, x2, x3, x4].take 2 = pln [x0, x1, x2, x3, x4]) := (pln_take (X := [x0, x1, x2, x3, x4]) (k := 1) (by simp) hz hH.out).symm
        clear hH
        have hns := hide (five_ns w x0 x1 x2 x3 x4 2 (by omega))
        go_wp2_with (at_builtin; refine Stop.at ?_)
        unfold Stop
        refine append_nums rfl _ _ 24 Try.underlying24 rfl w.heap.size _ [] ([x0, x1, x2, x3, x4].take 2) rfl (OwnN.nil _ _) ⟨w.heap.size, 0, none⟩ 2 5 rfl hns.out (by simp) (by simp) ?_
        intro v' w' hown hgr hbel
        have hB := hide (hbel _ (bel1 w _))
        have hO := hide hown
        clear hown hgr hbel
        go_wp2
        go_ret
        refine ⟨_, rfl, ?_, hB.out⟩
        rw [← HE.out]
        exact hO.out
    · by_cases hz : x2 = 0
      · have hH2 : Hid (plen [x0, x1, x2, x3, x4] = plen ([x0, x1, x2, x3, x4].take 2)) := plen_take_zero (X := [x0, x1, x2, x3, x4]) (k := 2) (by simp) hz hH.out
        clear hH
        go_wp2
        go_round
        case rel => exact ⟨2, by omega, rfl, by have h := hH2.out; rw [hz] at h; exact h⟩
        case measure => first | decide | (simp [intOf]; done) | (simp [intOf]; omega)
      · have HE : Hid ([x0, x1, x2, x3, x4].take 3 = pln [x0, x1, x2, x3, x4]) := (pln_take (X := [x0, x1, x2, x3, x4]) (k := 2) (by simp) hz hH.out).symm
        clear hH
        have hns := hide (five_ns w x0 x1 x2 x3 x4 3 (by omega))
        go_wp2_with (at_builtin; refine Stop.at ?_)
        unfold Stop
        refine append_nums rfl _ _ 24 Try.underlying24 rfl w.heap.size _ [] ([x0, x1, x2, x3, x4].take 3) rfl (OwnN.nil _ _) ⟨w.heap.size, 0, none⟩ 3 5 rfl hns.out (by simp) (by simp) ?_
        intro v' w' hown hgr hbel
        have hB := hide (hbel _ (bel1 w _))
        have hO := hide hown
        clear hown hgr hbel
        go_wp2
        go_ret
        refine ⟨_, rfl, ?_, hB.out⟩
        rw [← HE.out]
        exact hO.out
    · by_cases hz : x3 = 0
      · have hH2 : Hid (plen [x0, x1, x2, x3, x4] = plen ([x0, x1, x2, x3, x4].take 3)) := plen_take_zero (X := [x0, x1, x2, x3, x4]) (k := 3) (by simp) hz hH.out
        clear hH
        go_wp2
        go_round
        case rel => exact ⟨3, by omega, rfl, by have h := hH2.out; rw [hz] at h; exact h⟩
        case measure => first | decide | (simp [intOf]; done) | (simp [intOf]; omega)
      · have HE : Hid ([x0, x1, x2, x3, x4].take 4 = pln [x0, x1, x2, x3, x4]) := (pln_take (X := [x0, x1, x2, x3, x4]) (k := 3) (by simp) hz hH.out).symm
        clear hH
        have hns := hide (five_ns w x0 x1 x2 x3 x4 4 (by omega))
        go_wp2_with (at_builtin; refine Stop.at ?_)
        unfold Stop
        refine append_nums rfl _ _ 24 Try.underlying24 rfl w.heap.size _ [] ([x0, x1, x2, x3, x4].take 4) rfl (OwnN.nil _ _) ⟨w.heap.size, 0, none⟩ 4 5 rfl hns.out (by simp) (by simp) ?_
        intro v' w' hown hgr hbel
        have hB := hide (hbel _ (bel1 w _))
        have hO := hide hown
        clear hown hgr hbel
        go_wp2
        go_ret
        refine ⟨_, rfl, ?_, hB.out⟩
        rw [← HE.out]
        exact hO.out
    · by_cases hz : x4 = 0
      · have hH2 : Hid (plen [x0, x1, x2, x3, x4] = plen ([x0, x1, x2, x3, x4].take 4)) := plen_take_zero (X := [x0, x1, x2, x3, x4]) (k := 4) (by simp) hz hH.out
        clear hH
        go_wp2
        go_round
        case rel => exact ⟨4, by omega, rfl, by have h := hH2.out; rw [hz] at h; exact h⟩
        case measure => first | decide | (simp [intOf]; done) | (simp [intOf]; omega)
      · have HE : Hid ([x0, x1, x2, x3, x4].take 5 = pln [x0, x1, x2, x3, x4]) := (pln_take (X := [x0, x1, x2, x3, x4]) (k := 4) (by simp) hz hH.out).symm
        clear hH
        have hns := hide (five_ns w x0 x1 x2 x3 x4 5 (by omega))
        go_wp2_with (at_builtin; refine Stop.at ?_)
        unfold Stop
        refine append_nums rfl _ _ 24 Try.underlying24 rfl w.heap.size _ [] ([x0, x1, x2, x3, x4].take 5) rfl (OwnN.nil _ _) ⟨w.heap.size, 0, none⟩ 5 5 rfl hns.out (by simp) (by simp) ?_
        intro v' w' hown hgr hbel
        have hB := hide (hbel _ (bel1 w _))
        have hO := hide hown
        clear hown hgr hbel
        go_wp2
        go_ret
        refine ⟨_, rfl, ?_, hB.out⟩
        rw [← HE.out]
        exact hO.out
end Go.Proofs.Ytooggheoaglbeaa

/- What 'join' and 'within' do, over arrays of five numbers. -/
namespace Go.Proofs.Ytooggheoaglbeaa
open Go.RowKit
set_option linter.unusedVariables false

theorem mx_eq (x y : Int) : (if x < y then y else x) = max x y := by
  by_cases h : x < y
  · rw [if_pos h]; omega
  · rw [if_neg h]; omega
theorem mn_eq (x y : Int) : (if x < y then x else y) = min x y := by
  by_cases h : x < y
  · rw [if_pos h]; omega
  · rw [if_neg h]; omega
theorem heap3_new (w : World) (n : Nat) (hn : w.heap.size = n) (A B C : Obj) : (((w.alloc A).alloc B).alloc C).heap[n + 1 + 1]? = some C := by
  subst hn
  have := heap_alloc_new ((w.alloc A).alloc B) C
  simpa using this

/-- What is joined behind 'k' rounds. -/
def jw (k : Nat) (x0 x1 x2 x3 x4 y0 y1 y2 y3 y4 : Int) : Array Value :=
  match k with
  | 0 => #[.int .i64 x0, .int .i64 x1, .int .i64 x2, .int .i64 x3, .int .i64 x4]
  | 1 => #[.int .i64 (max x0 y0), .int .i64 x1, .int .i64 x2, .int .i64 x3, .int .i64 x4]
  | 2 => #[.int .i64 (max x0 y0), .int .i64 (max x1 y1), .int .i64 x2, .int .i64 x3, .int .i64 x4]
  | 3 => #[.int .i64 (max x0 y0), .int .i64 (max x1 y1), .int .i64 (max x2 y2), .int .i64 x3, .int .i64 x4]
  | 4 => #[.int .i64 (max x0 y0), .int .i64 (max x1 y1), .int .i64 (max x2 y2), .int .i64 (max x3 y3), .int .i64 x4]
  | _ => #[.int .i64 (max x0 y0), .int .i64 (max x1 y1), .int .i64 (max x2 y2), .int .i64 (max x3 y3), .int .i64 (max x4 y4)]

set_option maxHeartbeats 2000000 in
theorem join_any (x0 x1 x2 x3 x4 y0 y1 y2 y3 y4 : Int) (w : World) :
    Calls Try.prog 100 #[.agg #[.int .i64 x0, .int .i64 x1, .int .i64 x2, .int .i64 x3, .int .i64 x4], .agg #[.int .i64 y0, .int .i64 y1, .int .i64 y2, .int .i64 y3, .int .i64 y4]] w fun e w' => e = .returned (.agg #[.int .i64 (max x0 y0), .int .i64 (max x1 y1), .int .i64 (max x2 y2), .int .i64 (max x3 y3), .int .i64 (max x4 y4)]) ∧ Below w.heap.size w w' := by
  go_enter Try.func100, Try.ntmps100
  go_wp2
  go_loopw [6] (fun i wr => ∃ (k : Nat) (w0 : World), k ≤ 5 ∧ i = .int .i64 k ∧ w0.heap.size = w.heap.size ∧ Hid (Below w.heap.size w w0) ∧
    wr = ((w0.alloc (.cells (jw k x0 x1 x2 x3 x4 y0 y1 y2 y3 y4) 88)).alloc (.cells #[.int .i64 y0, .int .i64 y1, .int .i64 y2, .int .i64 y3, .int .i64 y4] 88)).alloc (.cells #[.int .i64 0, .int .i64 0, .int .i64 0, .int .i64 0, .int .i64 0] 88)) (fun i _ => 5 - (intOf i).toNat)
  case atStart => exact ⟨0, w, by omega, rfl, rfl, Below.refl _ _, rfl⟩
  case round =>
    obtain ⟨k, w0, hk, rfl, hsz, hB, rfl⟩ := hrel
    have hk5 : k = 0 ∨ k = 1 ∨ k = 2 ∨ k = 3 ∨ k = 4 ∨ k = 5 := by omega
    rcases hk5 with rfl | rfl | rfl | rfl | rfl | rfl
    · simp only [jw]
      go_wp2
      go_region
      go_wp2
      refine ⟨⟨1, w0.drew, by omega, rfl, hsz, hB.out.drew, ?_⟩, by decide⟩
      rw [mx_eq]
      rfl
    · simp only [jw]
      go_wp2
      go_region
      go_wp2
      refine ⟨⟨2, w0.drew, by omega, rfl, hsz, hB.out.drew, ?_⟩, by decide⟩
      rw [mx_eq]
      rfl
    · simp only [jw]
      go_wp2
      go_region
      go_wp2
      refine ⟨⟨3, w0.drew, by omega, rfl, hsz, hB.out.drew, ?_⟩, by decide⟩
      rw [mx_eq]
      rfl
    · simp only [jw]
      go_wp2
      go_region
      go_wp2
      refine ⟨⟨4, w0.drew, by omega, rfl, hsz, hB.out.drew, ?_⟩, by decide⟩
      rw [mx_eq]
      rfl
    · simp only [jw]
      go_wp2
      go_region
      go_wp2
      refine ⟨⟨5, w0.drew, by omega, rfl, hsz, hB.out.drew, ?_⟩, by decide⟩
      rw [mx_eq]
      rfl
    · simp only [jw]
      go_wp2
      refine bodyPost_ret (results_cell_row rfl _ _ _ _ _ _ _ rfl (heap3_new w0 _ hsz _ _ _) Try.underlying88 rfl Try.info5) rfl ⟨rfl, ?_⟩
      exact ((hB.out.alloc (by omega) _).alloc (by simp; omega) _).alloc (by simp; omega) _
end Go.Proofs.Ytooggheoaglbeaa

/- What 'within' does, over arrays of five numbers. -/
namespace Go.Proofs.Ytooggheoaglbeaa
open Go.RowKit
set_option linter.unusedVariables false

theorem eqItems_step {P : Program} (w : World) (d : Nat) (e : TypeId) (c i : Nat) (is : List Nat) (xs ys : Array Value) (k : IntKind) (a b : Int) (hu : P.underlying e = some (.int k)) (h1 : ∀ w, (part e xs (i * c)).run P w = .ok (.int k a) w) (h2 : ∀ w, (part e ys (i * c)).run P w = .ok (.int k b) w) :
    (Op.eqItems (d + 1) e c xs ys (i :: is)).run P w = if a = b then (Op.eqItems (d + 1) e c xs ys is).run P w else .ok false w := by
  simp only [Op.eqItems, Sem.run_bind, h1, h2, Result.andThen_ok, run_equalIn_int w d e k k a b hu]
  by_cases h : a = b
  · simp [h]
  · simp [h]
/-- '==' of two arrays of five numbers. -/
theorem eq5 (x0 x1 x2 x3 x4 y0 y1 y2 y3 y4 : Int) (b : Bool) (hb : b = decide (x0 = y0 ∧ x1 = y1 ∧ x2 = y2 ∧ x3 = y3 ∧ x4 = y4)) (w : World) : (Op.equalIn 10000 88 (.agg #[.int .i64 x0, .int .i64 x1, .int .i64 x2, .int .i64 x3, .int .i64 x4]) (.agg #[.int .i64 y0, .int .i64 y1, .int .i64 y2, .int .i64 y3, .int .i64 y4])).run Try.prog w = .ok b w := by
  subst hb
  obtain ⟨i0, hi, hz0, hz1, hz2⟩ := info_parts Try.infoI64
  rw [run_equalIn_array (P := Try.prog) w 9999 _ _ Try.underlying88 hi]
  show (Op.eqItems 9999 3 _ _ _ [0, 1, 2, 3, 4]).run Try.prog w = _
  rw [eqItems_step w 9998 3 _ 0 _ _ _ .i64 x0 y0 Try.underlying3 (fun _ => by kernel_rfl) (fun _ => by kernel_rfl)]
  rw [eqItems_step w 9998 3 _ 1 _ _ _ .i64 x1 y1 Try.underlying3 (fun _ => by kernel_rfl) (fun _ => by kernel_rfl)]
  rw [eqItems_step w 9998 3 _ 2 _ _ _ .i64 x2 y2 Try.underlying3 (fun _ => by kernel_rfl) (fun _ => by kernel_rfl)]
  rw [eqItems_step w 9998 3 _ 3 _ _ _ .i64 x3 y3 Try.underlying3 (fun _ => by kernel_rfl) (fun _ => by kernel_rfl)]
  rw [eqItems_step w 9998 3 _ 4 _ _ _ .i64 x4 y4 Try.underlying3 (fun _ => by kernel_rfl) (fun _ => by kernel_rfl)]
  simp only [Op.eqItems, Sem.run_pure]
  by_cases h0 : x0 = y0
  · by_cases h1 : x1 = y1
    · by_cases h2 : x2 = y2
      · by_cases h3 : x3 = y3
        · by_cases h4 : x4 = y4
          · simp [h0, h1, h2, h3, h4]
          · simp [h0, h1, h2, h3, h4]
        · simp [h0, h1, h2, h3]
      · simp [h0, h1, h2]
    · simp [h0, h1]
  · simp [h0]

/-- Two arrays lie in memory, and what was there at the beginning lies there still. -/
def Two (g : Nat) (x0 x1 x2 x3 x4 y0 y1 y2 y3 y4 : Int) (W0 W : World) : Prop := W.cell? ⟨g, 0, none⟩ = some (.int .i64 x0) ∧ W.cell? ⟨g, 1, none⟩ = some (.int .i64 x1) ∧ W.cell? ⟨g, 2, none⟩ = some (.int .i64 x2) ∧ W.cell? ⟨g, 3, none⟩ = some (.int .i64 x3) ∧ W.cell? ⟨g, 4, none⟩ = some (.int .i64 x4) ∧ W.cell? ⟨g + 1, 0, none⟩ = some (.int .i64 y0) ∧ W.cell? ⟨g + 1, 1, none⟩ = some (.int .i64 y1) ∧ W.cell? ⟨g + 1, 2, none⟩ = some (.int .i64 y2) ∧ W.cell? ⟨g + 1, 3, none⟩ = some (.int .i64 y3) ∧ W.cell? ⟨g + 1, 4, none⟩ = some (.int .i64 y4) ∧ Hid (Below W0.heap.size W0 W)
theorem Two.next {g : Nat} {x0 x1 x2 x3 x4 y0 y1 y2 y3 y4 : Int} {W0 W w' : World} (h : Two g x0 x1 x2 x3 x4 y0 y1 y2 y3 y4 W0 W) (hb : Below W.heap.size W w') : Two g x0 x1 x2 x3 x4 y0 y1 y2 y3 y4 W0 w' := by
  obtain ⟨a0, a1, a2, a3, a4, b0, b1, b2, b3, b4, hB⟩ := h
  refine ⟨?_, ?_, ?_, ?_, ?_, ?_, ?_, ?_, ?_, ?_, hB.out.trans (hb.mono hB.out.size)⟩ <;> (rw [hb.cell (World.block_lt_of_cell? W _ (by assumption))]; assumption)
theorem Two.drew {g : Nat} {x0 x1 x2 x3 x4 y0 y1 y2 y3 y4 : Int} {W0 W : World} (h : Two g x0 x1 x2 x3 x4 y0 y1 y2 y3 y4 W0 W) : Two g x0 x1 x2 x3 x4 y0 y1 y2 y3 y4 W0 W.drew := by
  obtain ⟨a0, a1, a2, a3, a4, b0, b1, b2, b3, b4, hB⟩ := h
  exact ⟨a0, a1, a2, a3, a4, b0, b1, b2, b3, b4, hB.out.drew⟩

set_option maxHeartbeats 2000000 in
theorem within_any (x0 x1 x2 x3 x4 y0 y1 y2 y3 y4 : Int) (w : World) (b : Bool) (hb : b = decide (x0 ≤ y0 ∧ x1 ≤ y1 ∧ x2 ≤ y2 ∧ x3 ≤ y3 ∧ x4 ≤ y4)) :
    Calls Try.prog 86 #[.agg #[.int .i64 x0, .int .i64 x1, .int .i64 x2, .int .i64 x3, .int .i64 x4], .agg #[.int .i64 y0, .int .i64 y1, .int .i64 y2, .int .i64 y3, .int .i64 y4]] w fun e w' => e = .returned (.bool b) ∧ Below w.heap.size w w' := by
  have hk0 : Two w.heap.size x0 x1 x2 x3 x4 y0 y1 y2 y3 y4 w ((w.alloc (.cells #[.int .i64 x0, .int .i64 x1, .int .i64 x2, .int .i64 x3, .int .i64 x4] 88)).alloc (.cells #[.int .i64 y0, .int .i64 y1, .int .i64 y2, .int .i64 y3, .int .i64 y4] 88)) := by
    refine ⟨?_, ?_, ?_, ?_, ?_, ?_, ?_, ?_, ?_, ?_, bel2 _ _ _⟩
    all_goals first | (rw [World.cell?_alloc_mark]; rfl) | (simp; done)
  have heq := eq5 (max x0 y0) (max x1 y1) (max x2 y2) (max x3 y3) (max x4 y4) y0 y1 y2 y3 y4 b (by rw [hb]; congr 1; simp only [eq_iff_iff]; omega)
  clear hb
  go_enter Try.func86, Try.ntmps86
  go_wp2
  have hk1 := hk0.drew
  unfold Two at hk0 hk1
  go_region_held3 (fun W => W.cell? ⟨w.heap.size, 0, none⟩ = some (.int .i64 x0) ∧ W.cell? ⟨w.heap.size, 1, none⟩ = some (.int .i64 x1) ∧ W.cell? ⟨w.heap.size, 2, none⟩ = some (.int .i64 x2) ∧ W.cell? ⟨w.heap.size, 3, none⟩ = some (.int .i64 x3) ∧ W.cell? ⟨w.heap.size, 4, none⟩ = some (.int .i64 x4) ∧ W.cell? ⟨w.heap.size + 1, 0, none⟩ = some (.int .i64 y0) ∧ W.cell? ⟨w.heap.size + 1, 1, none⟩ = some (.int .i64 y1) ∧ W.cell? ⟨w.heap.size + 1, 2, none⟩ = some (.int .i64 y2) ∧ W.cell? ⟨w.heap.size + 1, 3, none⟩ = some (.int .i64 y3) ∧ W.cell? ⟨w.heap.size + 1, 4, none⟩ = some (.int .i64 y4) ∧ Hid (Below w.heap.size w W)) (first | exact hk1 | exact hk0) (first
    | (go_at_call 100; refine (join_any _ _ _ _ _ _ _ _ _ _ _).mono ?_; rintro e w4 ⟨rfl, hb5⟩; have hk1 := Two.next (by assumption) hb5; unfold Two at hk1; clear hb5))
  clear hk0
  have hB := hide hk1.2.2.2.2.2.2.2.2.2.2.out
  clear hk1 heq
  go_wp2
  go_ret
  exact ⟨rfl, hB.out⟩
end Go.Proofs.Ytooggheoaglbeaa

