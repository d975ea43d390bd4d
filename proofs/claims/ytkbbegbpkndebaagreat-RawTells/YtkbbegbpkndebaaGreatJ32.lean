/- Texts of this claim, joined: HP2. -/
import Derived.Test.YtkbbegbpkndebaaGreatJ17
import Derived.Test.YtkbbegbpkndebaaGreatJ31
/- slices.Clone and copyLists of raw's four kinds of lists (layer 13, the program). -/
namespace Go.Proofs.YtkbbegbpkndebaaGreat
open Go.RowKit Go.Lib
set_option linter.unusedVariables false
def NB (T : TypeId) (N : Nat) (w : World) (p : Option Addr) (n : Nat) : Prop := 0 < n → ∃ g C, p = some ⟨g, 0, none⟩ ∧ N ≤ g ∧ BX w g C T
theorem NB.below {T : TypeId} {N : Nat} {w w' : World} {p : Option Addr} {n : Nat} (h : NB T N w p n) (hb : Below w.heap.size w w') : NB T N w' p n := fun hn => by
 obtain ⟨g, C, h1, h2, h3⟩ := h hn
 exact ⟨g, C, h1, h2, h3.below hb⟩
theorem NB.mono {T : TypeId} {N N' : Nat} {w : World} {p : Option Addr} {n : Nat} (h : NB T N w p n) (hN : N' ≤ N) : NB T N' w p n := fun hn => by
 obtain ⟨g, C, h1, h2, h3⟩ := h hn
 exact ⟨g, C, h1, Nat.le_trans hN h2, h3⟩
theorem NB.set {T : TypeId} {N : Nat} {w : World} {p : Option Addr} {n : Nat} (h : NB T N w p n) (g i : Nat) (v : Value) : NB T N (w.setCell ⟨g, i, none⟩ v) p n := fun hn => by
 obtain ⟨g', C, h1, h2, h3⟩ := h hn
 by_cases e : g = g'
 ·subst e
  exact ⟨g, _, h1, h2, h3.set i v⟩
 ·exact ⟨g', C, h1, h2, h3.other e i v⟩
theorem NB.own {α : Type} {enc : α → List Value} {k : Nat} {T : TypeId} {N : Nat} {w : World} {p : Option Addr} {n c : Nat} {l : List α} (h : OwnR enc k T N w (.slice p n c) l) (hl : l.length = n) : NB T N w p n := fun hn => by
 rcases h.2 with ⟨h0, h1⟩ | ⟨g, cap, cur, h0, h1, hg, _⟩
 ·omega
 ·simp only [Value.slice.injEq] at h0
  exact ⟨g, cur, h0.1, h1, hg⟩
theorem own_in {α : Type} {enc : α → List Value} {k : Nat} {T : TypeId} (hk : ∀ x, (enc x).length = k) {N : Nat} {w : World} {v : Value} {n : Nat} {l : List α} (h : OwnR enc k T N w v l) (hl : l.length = n) : ∃ p c, v = .slice p n c ∧ RS enc k w p n l ∧ CP p n c ∧ NB T N w p n := by
 obtain ⟨p, c, rfl, h1, h2⟩ := h.open hk
 rw [hl] at h h1 h2 ⊢
 exact ⟨p, c, rfl, h1, h2, NB.own h hl⟩
def NBs (T : TypeId) (N : Nat) (w : World) (hs : List Hd) : Prop := ∀ x ∈ hs, NB T N w x.1 x.2.1
theorem NBs.below {T : TypeId} {N : Nat} {w w' : World} {hs : List Hd} (h : NBs T N w hs) (hb : Below w.heap.size w w') : NBs T N w' hs := fun x hx => (h x hx).below hb
theorem NBs.set {T : TypeId} {N : Nat} {w : World} {hs : List Hd} (h : NBs T N w hs) (g i : Nat) (v : Value) : NBs T N (w.setCell ⟨g, i, none⟩ v) hs := fun x hx => (h x hx).set g i v
theorem NBs.put {T : TypeId} {N : Nat} {w : World} {hs : List Hd} (h : NBs T N w hs) (j : Nat) {x : Hd} (hx : NB T N w x.1 x.2.1) : NBs T N w (hs.set j x) := fun y hy => by
 rcases List.mem_or_eq_of_mem_set hy with q | rfl
 ·exact h y q
 ·exact hx
theorem NBs.repl (T : TypeId) (N : Nat) (w : World) (n : Nat) : NBs T N w (List.replicate n (none, 0, 0)) := fun x hx => by
 obtain ⟨_, rfl⟩ := List.mem_replicate.1 hx
 exact fun h => absurd h (Nat.lt_irrefl 0)
theorem repl_step {α : Type} {ls : List α} {n i : Nat} {x : α} (d : α) (hl : ls.length = n) (hx : ls[i]? = some x) : (ls.take i ++ List.replicate (n - i) d).set i x = ls.take (i + 1) ++ List.replicate (n - (i + 1)) d := by
 have hi := (List.getElem?_eq_some_iff.1 hx).1
 apply List.ext_getElem?
 intro j
 rw [List.getElem?_set]
 by_cases e : i = j
 ·subst e
  rw [if_pos rfl, if_pos (by rw [List.length_append, List.length_take, List.length_replicate]; omega), List.getElem?_append_left (by rw [List.length_take]; omega), List.getElem?_take, if_pos (by omega), hx]
 ·rw [if_neg e]
  rcases Nat.lt_or_ge j i with h | h
  ·rw [List.getElem?_append_left (by rw [List.length_take]; omega), List.getElem?_append_left (by rw [List.length_take]; omega), List.getElem?_take, List.getElem?_take, if_pos h, if_pos (by omega)]
  ·rw [List.getElem?_append_right (by rw [List.length_take]; omega), List.getElem?_append_right (by rw [List.length_take]; omega), List.length_take, List.length_take, List.getElem?_replicate, List.getElem?_replicate]
   by_cases hj : j < n
   ·rw [if_pos (by omega), if_pos (by omega)]
   ·rw [if_neg (by omega), if_neg (by omega)]
set_option maxHeartbeats 2000000 in
theorem clone13E (a : Option Addr) (n cap : Nat) (l : List En) (w : World) (hD : NSS w a n l) (hcp : CP a n cap) (hn : n ≤ 100000) : Calls Tryz.prog 187 #[.slice a n cap] w fun e w' => ∃ p c, e = .returned (.slice p n c) ∧ NSS w' p n l ∧ CP p n c ∧ NB 125 w.heap.size w' p n ∧ Below w.heap.size w w' := by
 have q22 : ∀ (w : World) (a : Option Addr) (n c n' c' : Nat), (binOp .eql 74 (.slice a n c) (.slice none n' c')).run Tryz.prog w = .ok (.bool a.isNone) w := fun w a n c n' c' => Lib.run_eql_slice_nil w _ _ a n c n' c' Tryz.underlying74
 have hlen := kept_ent.len hD
 rcases a with _ | p
 ·have hn0 : n = 0 := by
   rcases Nat.eq_zero_or_pos n with h | h
   ·exact h
   ·obtain ⟨b, off, q⟩ := hD.addr h
    cases q
  subst hn0
  obtain rfl : l = [] := List.eq_nil_of_length_eq_zero hlen
  clear hD
  go_enter Tryz.func187, Tryz.ntmps187
  go_wp2
  go_ret
  exact ⟨none, 0, rfl, kept_ent.nil _ _, ⟨Nat.le_refl _, by decide, fun _ => rfl⟩, fun h => absurd h (Nat.lt_irrefl 0), Below.refl _ _⟩
 ·obtain ⟨xs, hX, hRl⟩ := hD
  have HRL := hide hRl
  have HD0 := hide hX
  have HLEN := hide hX.1
  clear hRl hX hlen
  have BQ := hide (bel1 w (.cells #[] 125))
  go_enter Tryz.func187, Tryz.ntmps187
  go_wp2_with (at_builtin; refine Stop.at ?_)
  unfold Stop
  refine append_rows rfl _ _ 74 rfl Tryz.underlying74 Tryz.infoEnt rfl (by decide) (by decide) encN_len encN_one w.heap.size _ [] xs rfl (OwnR.made w w.heap.size w.heap.size rfl (Nat.le_refl _)) (some p) n cap rfl (fun h => by cases h) (HD0.out.below BQ.out) (by rw [HLEN.out, List.length_nil]; omega) BQ.out.size ?_
  intro v3 w3 ho3 hg3 hbel3
  have BQ2 := hide (hbel3 w BQ.out)
  have HO := hide ho3
  clear ho3 hg3 hbel3
  go_wp2
  go_ret
  obtain ⟨p9, c9, rfl, q1, q2, q3⟩ := own_in encN_len HO.out (n := n) (by rw [List.nil_append]; exact HLEN.out)
  rw [List.nil_append] at q1
  exact ⟨p9, c9, rfl, ⟨xs, q1, (HRL.out.below BQ2.out)⟩, q2, q3, BQ2.out⟩
set_option maxHeartbeats 4000000 in
theorem copyLE (a : Option Addr) (n cap : Nat) (ls : List (List En)) (w : World) (hD : LS NSS w a n ls) (hn : n ≤ 1000) (hbd : ∀ l ∈ ls, l.length ≤ 100000) : Calls Tryz.prog 164 #[.slice a n cap] w fun e w' => ∃ p c hs, e = .returned (.slice p n c) ∧ OH 74 w.heap.size w' (.slice p n c) hs ∧ RelH NSS w' hs ls ∧ NBs 125 w.heap.size w' hs ∧ Below w.heap.size w w' := by
 obtain ⟨C, hmk, hoh⟩ := make_heads Tryz.underlying26 Tryz.infoH1 n hn
 have hmk1 := hmk w
 have hn0 : (0 : Int) ≤ (n : Int) := by omega
 have HLEN := hide hD.len
 have HB0 := hide (bel1 w (.cells C 74))
 have HD0 := hide hD
 have HO0 : Hid (OH 74 w.heap.size (w.alloc (.cells C 74)) (.slice (some ⟨w.heap.size, 0, none⟩) n n) (List.replicate n (none, 0, 0))) := hoh w (Nat.le_refl _)
 have HR0 : Hid (RelH NSS (w.alloc (.cells C 74)) (List.replicate n (none, 0, 0)) (List.replicate n [])) := RelH.repl kept_ent _ n
 have HBD := hide hbd
 clear hD hmk hoh hbd
 go_enter Tryz.func164, Tryz.ntmps164
 go_wp2
 generalize w.alloc (.cells C 74) = u at *
 clear hmk1
 go_loopw [11] (fun v wr => ∃ (i : Nat) (hs : List Hd), i ≤ n ∧ v = .int .i64 i ∧ Hid (OH 74 w.heap.size wr (.slice (some ⟨w.heap.size, 0, none⟩) n n) hs) ∧ Hid (RelH NSS wr hs (ls.take i ++ List.replicate (n - i) [])) ∧ Hid (NBs 125 w.heap.size wr hs) ∧ Hid (Below w.heap.size w wr)) (fun v _ => n - (intOf v).toNat)
 case atStart => exact ⟨0, _, by omega, rfl, HO0, (show RelH _ _ _ _ by simpa using HR0.out), (show NBs _ _ _ _ from NBs.repl _ _ _ _), HB0⟩
 case round =>
  clear HO0 HR0 HB0
  obtain ⟨i, hs, hi, rfl, HO, HR, HNB, HB⟩ := hrel
  by_cases hlt : i < n
  ·obtain ⟨bb, ob, rfl⟩ := LS.addr HD0.out (by omega)
   obtain ⟨px, nx, cx, lx, hx, x0, hX, hcx⟩ := LS.at (HD0.out.below kept_ent HB.out) i hlt
   have hi0 : (0 : Int) ≤ (i : Int) := by omega
   have hi1 : (i : Int) < (n : Int) := by omega
   have HX1 := hide hX
   have HCX := hide hcx
   have HRS := hide (repl_step [] HLEN.out hx)
   have hnx : nx ≤ 100000 := by have := kept_ent.len hX; have := HBD.out lx (List.mem_of_getElem? hx); omega
   clear hX hcx hx
   go_upto_region 5 with fail
   clear x0
   go_wp2_with (go_at_call 187; refine (clone13E px nx cx lx _ HX1.out HCX.out hnx).mono ?_; rintro e wn ⟨p9, c9, rfl, hn9, hc9, hb9, hb⟩; have HN9 := hide hn9; have HC9 := hide hc9; have HB9 := hide (hb9.mono HB.out.size); replace HO := hide (HO.out.below hb); replace HR := hide (HR.out.below kept_ent hb); replace HNB := hide (HNB.out.below hb); replace HB := hide (bel_next HB.out hb); clear hn9 hc9 hb9 hb; refine Stop.at ?_)
   unfold Stop
   obtain ⟨Cg, hbg, _⟩ := HO.out.2 w.heap.size (by simp [Value.ownBlock])
   have hlh : hs.length = n := (HO.out.1.rs encH_len).1.1
   obtain ⟨hx9, hxe⟩ : ∃ x, hs[i]? = some x := ⟨_, List.getElem?_eq_getElem (by omega)⟩
   obtain ⟨b9, o9, hq9, hcc⟩ := (HO.out.1.rs encH_len).1.2.2.resolve_left (by omega)
   cases hq9
   have y1 := hcc i hx9 hxe 0 _ rfl
   rw [Nat.mul_one, Nat.add_zero, Nat.zero_add] at y1
   have z1 := hbg.free i
   have hsl : SlB w.heap.size wn := HO.out.slb (by simp [Value.ownBlock])
   have kp := (KP.refl w.heap.size wn).set i (.slice p9 nx c9)
   have HO2 := hide (HO.out.set hlh i (p9, nx, c9))
   have HR2 : Hid (RelH NSS (wn.setCell ⟨w.heap.size, i, none⟩ (.slice p9 nx c9)) (hs.set i (p9, nx, c9)) (ls.take (i + 1) ++ List.replicate (n - (i + 1)) [])) := by
    unfold Hid
    rw [← HRS.out]
    exact (HR.out.kp kept_ent kp hsl).set kept_ent i (x := (p9, nx, c9)) (kept_ent.kp HN9.out kp hsl) HC9.out
   have HNB2 := hide ((HNB.out.put i (x := (p9, nx, c9)) HB9.out).set w.heap.size i (.slice p9 nx c9))
   have HB2 := hide (HB.out.setCell (p := ⟨w.heap.size, i, none⟩) (Nat.le_refl _) (.slice p9 nx c9))
   clear HO HR HNB HB hcc hxe hbg hsl kp hlh HRS HX1 HN9 HB9
   go_wp2
   go_roundw
   case rel => exact ⟨i + 1, _, by omega, by go_num, HO2, HR2, HNB2, HB2⟩
   case measure => simp [intOf]; omega
  ·obtain rfl : i = n := by omega
   have HR2 : Hid (RelH NSS wr hs ls) := by
    have q := HR.out
    rw [List.take_of_length_le (by rw [HLEN.out]; exact Nat.le_refl _), Nat.sub_self, List.replicate_zero, List.append_nil] at q
    exact q
   clear HR
   go_wp2
   go_ret
   exact ⟨_, _, _, rfl, HO.out, HR2.out, HNB.out, HB.out⟩
set_option maxHeartbeats 2000000 in
theorem clone13C (a : Option Addr) (n cap : Nat) (l : List Ce) (w : World) (hD : TS w a n l) (hcp : CP a n cap) (hn : n ≤ 100000) : Calls Tryz.prog 166 #[.slice a n cap] w fun e w' => ∃ p c, e = .returned (.slice p n c) ∧ TS w' p n l ∧ CP p n c ∧ NB 129 w.heap.size w' p n ∧ Below w.heap.size w w' := by
 have q22 : ∀ (w : World) (a : Option Addr) (n c n' c' : Nat), (binOp .eql 76 (.slice a n c) (.slice none n' c')).run Tryz.prog w = .ok (.bool a.isNone) w := fun w a n c n' c' => Lib.run_eql_slice_nil w _ _ a n c n' c' Tryz.underlying76
 have hlen := kept_cel.len hD
 rcases a with _ | p
 ·have hn0 : n = 0 := by
   rcases Nat.eq_zero_or_pos n with h | h
   ·exact h
   ·obtain ⟨b, off, q⟩ := rs_addr hD h
    cases q
  subst hn0
  obtain rfl : l = [] := List.eq_nil_of_length_eq_zero hlen
  clear hD
  go_enter Tryz.func166, Tryz.ntmps166
  go_wp2
  go_ret
  exact ⟨none, 0, rfl, kept_cel.nil _ _, ⟨Nat.le_refl _, by decide, fun _ => rfl⟩, fun h => absurd h (Nat.lt_irrefl 0), Below.refl _ _⟩
 ·have hX := hD
  skip
  have HD0 := hide hX
  have HLEN := hide hX.1
  clear hD hX hlen
  have BQ := hide (bel1 w (.cells #[] 129))
  go_enter Tryz.func166, Tryz.ntmps166
  go_wp2_with (at_builtin; refine Stop.at ?_)
  unfold Stop
  refine append_rows rfl _ _ 76 rfl Tryz.underlying76 Tryz.infoCel rfl (by decide) (by decide) encC_len encC_one w.heap.size _ [] l rfl (OwnR.made w w.heap.size w.heap.size rfl (Nat.le_refl _)) (some p) n cap rfl (fun h => by cases h) (HD0.out.below BQ.out) (by rw [HLEN.out, List.length_nil]; omega) BQ.out.size ?_
  intro v3 w3 ho3 hg3 hbel3
  have BQ2 := hide (hbel3 w BQ.out)
  have HO := hide ho3
  clear ho3 hg3 hbel3
  go_wp2
  go_ret
  obtain ⟨p9, c9, rfl, q1, q2, q3⟩ := own_in encC_len HO.out (n := n) (by rw [List.nil_append]; exact HLEN.out)
  rw [List.nil_append] at q1
  exact ⟨p9, c9, rfl, q1, q2, q3, BQ2.out⟩
set_option maxHeartbeats 4000000 in
theorem copyLC (a : Option Addr) (n cap : Nat) (ls : List (List Ce)) (w : World) (hD : LS TS w a n ls) (hn : n ≤ 1000) (hbd : ∀ l ∈ ls, l.length ≤ 100000) : Calls Tryz.prog 118 #[.slice a n cap] w fun e w' => ∃ p c hs, e = .returned (.slice p n c) ∧ OH 76 w.heap.size w' (.slice p n c) hs ∧ RelH TS w' hs ls ∧ NBs 129 w.heap.size w' hs ∧ Below w.heap.size w w' := by
 obtain ⟨C, hmk, hoh⟩ := make_heads Tryz.underlying27 Tryz.infoH2 n hn
 have hmk1 := hmk w
 have hn0 : (0 : Int) ≤ (n : Int) := by omega
 have HLEN := hide hD.len
 have HB0 := hide (bel1 w (.cells C 76))
 have HD0 := hide hD
 have HO0 : Hid (OH 76 w.heap.size (w.alloc (.cells C 76)) (.slice (some ⟨w.heap.size, 0, none⟩) n n) (List.replicate n (none, 0, 0))) := hoh w (Nat.le_refl _)
 have HR0 : Hid (RelH TS (w.alloc (.cells C 76)) (List.replicate n (none, 0, 0)) (List.replicate n [])) := RelH.repl kept_cel _ n
 have HBD := hide hbd
 clear hD hmk hoh hbd
 go_enter Tryz.func118, Tryz.ntmps118
 go_wp2
 generalize w.alloc (.cells C 76) = u at *
 clear hmk1
 go_loopw [11] (fun v wr => ∃ (i : Nat) (hs : List Hd), i ≤ n ∧ v = .int .i64 i ∧ Hid (OH 76 w.heap.size wr (.slice (some ⟨w.heap.size, 0, none⟩) n n) hs) ∧ Hid (RelH TS wr hs (ls.take i ++ List.replicate (n - i) [])) ∧ Hid (NBs 129 w.heap.size wr hs) ∧ Hid (Below w.heap.size w wr)) (fun v _ => n - (intOf v).toNat)
 case atStart => exact ⟨0, _, by omega, rfl, HO0, (show RelH _ _ _ _ by simpa using HR0.out), (show NBs _ _ _ _ from NBs.repl _ _ _ _), HB0⟩
 case round =>
  clear HO0 HR0 HB0
  obtain ⟨i, hs, hi, rfl, HO, HR, HNB, HB⟩ := hrel
  by_cases hlt : i < n
  ·obtain ⟨bb, ob, rfl⟩ := LS.addr HD0.out (by omega)
   obtain ⟨px, nx, cx, lx, hx, x0, hX, hcx⟩ := LS.at (HD0.out.below kept_cel HB.out) i hlt
   have hi0 : (0 : Int) ≤ (i : Int) := by omega
   have hi1 : (i : Int) < (n : Int) := by omega
   have HX1 := hide hX
   have HCX := hide hcx
   have HRS := hide (repl_step [] HLEN.out hx)
   have hnx : nx ≤ 100000 := by have := kept_cel.len hX; have := HBD.out lx (List.mem_of_getElem? hx); omega
   clear hX hcx hx
   go_upto_region 5 with fail
   clear x0
   go_wp2_with (go_at_call 166; refine (clone13C px nx cx lx _ HX1.out HCX.out hnx).mono ?_; rintro e wn ⟨p9, c9, rfl, hn9, hc9, hb9, hb⟩; have HN9 := hide hn9; have HC9 := hide hc9; have HB9 := hide (hb9.mono HB.out.size); replace HO := hide (HO.out.below hb); replace HR := hide (HR.out.below kept_cel hb); replace HNB := hide (HNB.out.below hb); replace HB := hide (bel_next HB.out hb); clear hn9 hc9 hb9 hb; refine Stop.at ?_)
   unfold Stop
   obtain ⟨Cg, hbg, _⟩ := HO.out.2 w.heap.size (by simp [Value.ownBlock])
   have hlh : hs.length = n := (HO.out.1.rs encH_len).1.1
   obtain ⟨hx9, hxe⟩ : ∃ x, hs[i]? = some x := ⟨_, List.getElem?_eq_getElem (by omega)⟩
   obtain ⟨b9, o9, hq9, hcc⟩ := (HO.out.1.rs encH_len).1.2.2.resolve_left (by omega)
   cases hq9
   have y1 := hcc i hx9 hxe 0 _ rfl
   rw [Nat.mul_one, Nat.add_zero, Nat.zero_add] at y1
   have z1 := hbg.free i
   have hsl : SlB w.heap.size wn := HO.out.slb (by simp [Value.ownBlock])
   have kp := (KP.refl w.heap.size wn).set i (.slice p9 nx c9)
   have HO2 := hide (HO.out.set hlh i (p9, nx, c9))
   have HR2 : Hid (RelH TS (wn.setCell ⟨w.heap.size, i, none⟩ (.slice p9 nx c9)) (hs.set i (p9, nx, c9)) (ls.take (i + 1) ++ List.replicate (n - (i + 1)) [])) := by
    unfold Hid
    rw [← HRS.out]
    exact (HR.out.kp kept_cel kp hsl).set kept_cel i (x := (p9, nx, c9)) (kept_cel.kp HN9.out kp hsl) HC9.out
   have HNB2 := hide ((HNB.out.put i (x := (p9, nx, c9)) HB9.out).set w.heap.size i (.slice p9 nx c9))
   have HB2 := hide (HB.out.setCell (p := ⟨w.heap.size, i, none⟩) (Nat.le_refl _) (.slice p9 nx c9))
   clear HO HR HNB HB hcc hxe hbg hsl kp hlh HRS HX1 HN9 HB9
   go_wp2
   go_roundw
   case rel => exact ⟨i + 1, _, by omega, by go_num, HO2, HR2, HNB2, HB2⟩
   case measure => simp [intOf]; omega
  ·obtain rfl : i = n := by omega
   have HR2 : Hid (RelH TS wr hs ls) := by
    have q := HR.out
    rw [List.take_of_length_le (by rw [HLEN.out]; exact Nat.le_refl _), Nat.sub_self, List.replicate_zero, List.append_nil] at q
    exact q
   clear HR
   go_wp2
   go_ret
   exact ⟨_, _, _, rfl, HO.out, HR2.out, HNB.out, HB.out⟩
set_option maxHeartbeats 2000000 in
theorem clone13A (a : Option Addr) (n cap : Nat) (l : List Ac) (w : World) (hD : AC w a n l) (hcp : CP a n cap) (hn : n ≤ 100000) : Calls Tryz.prog 167 #[.slice a n cap] w fun e w' => ∃ p c, e = .returned (.slice p n c) ∧ AC w' p n l ∧ CP p n c ∧ NB 134 w.heap.size w' p n ∧ Below w.heap.size w w' := by
 have q22 : ∀ (w : World) (a : Option Addr) (n c n' c' : Nat), (binOp .eql 78 (.slice a n c) (.slice none n' c')).run Tryz.prog w = .ok (.bool a.isNone) w := fun w a n c n' c' => Lib.run_eql_slice_nil w _ _ a n c n' c' Tryz.underlying78
 have hlen := kept_acc.len hD
 rcases a with _ | p
 ·have hn0 : n = 0 := by
   rcases Nat.eq_zero_or_pos n with h | h
   ·exact h
   ·obtain ⟨b, off, q⟩ := rs_addr hD.1 h
    cases q
  subst hn0
  obtain rfl : l = [] := List.eq_nil_of_length_eq_zero hlen
  clear hD
  go_enter Tryz.func167, Tryz.ntmps167
  go_wp2
  go_ret
  exact ⟨none, 0, rfl, kept_acc.nil _ _, ⟨Nat.le_refl _, by decide, fun _ => rfl⟩, fun h => absurd h (Nat.lt_irrefl 0), Below.refl _ _⟩
 ·have hX := hD.1
  have H5 := hide hD.2
  skip
  have HD0 := hide hX
  have HLEN := hide hX.1
  clear hD hX hlen
  have BQ := hide (bel1 w (.cells #[] 134))
  go_enter Tryz.func167, Tryz.ntmps167
  go_wp2_with (at_builtin; refine Stop.at ?_)
  unfold Stop
  refine append_rows rfl _ _ 78 rfl Tryz.underlying78 Tryz.infoAcc rfl (by decide) (by decide) encA_len encA_one w.heap.size _ [] l rfl (OwnR.made w w.heap.size w.heap.size rfl (Nat.le_refl _)) (some p) n cap rfl (fun h => by cases h) (HD0.out.below BQ.out) (by rw [HLEN.out, List.length_nil]; omega) BQ.out.size ?_
  intro v3 w3 ho3 hg3 hbel3
  have BQ2 := hide (hbel3 w BQ.out)
  have HO := hide ho3
  clear ho3 hg3 hbel3
  go_wp2
  go_ret
  obtain ⟨p9, c9, rfl, q1, q2, q3⟩ := own_in encA_len HO.out (n := n) (by rw [List.nil_append]; exact HLEN.out)
  rw [List.nil_append] at q1
  exact ⟨p9, c9, rfl, ⟨q1, H5.out⟩, q2, q3, BQ2.out⟩
set_option maxHeartbeats 4000000 in
theorem copyLA (a : Option Addr) (n cap : Nat) (ls : List (List Ac)) (w : World) (hD : LS AC w a n ls) (hn : n ≤ 1000) (hbd : ∀ l ∈ ls, l.length ≤ 100000) : Calls Tryz.prog 119 #[.slice a n cap] w fun e w' => ∃ p c hs, e = .returned (.slice p n c) ∧ OH 78 w.heap.size w' (.slice p n c) hs ∧ RelH AC w' hs ls ∧ NBs 134 w.heap.size w' hs ∧ Below w.heap.size w w' := by
 obtain ⟨C, hmk, hoh⟩ := make_heads Tryz.underlying28 Tryz.infoH3 n hn
 have hmk1 := hmk w
 have hn0 : (0 : Int) ≤ (n : Int) := by omega
 have HLEN := hide hD.len
 have HB0 := hide (bel1 w (.cells C 78))
 have HD0 := hide hD
 have HO0 : Hid (OH 78 w.heap.size (w.alloc (.cells C 78)) (.slice (some ⟨w.heap.size, 0, none⟩) n n) (List.replicate n (none, 0, 0))) := hoh w (Nat.le_refl _)
 have HR0 : Hid (RelH AC (w.alloc (.cells C 78)) (List.replicate n (none, 0, 0)) (List.replicate n [])) := RelH.repl kept_acc _ n
 have HBD := hide hbd
 clear hD hmk hoh hbd
 go_enter Tryz.func119, Tryz.ntmps119
 go_wp2
 generalize w.alloc (.cells C 78) = u at *
 clear hmk1
 go_loopw [11] (fun v wr => ∃ (i : Nat) (hs : List Hd), i ≤ n ∧ v = .int .i64 i ∧ Hid (OH 78 w.heap.size wr (.slice (some ⟨w.heap.size, 0, none⟩) n n) hs) ∧ Hid (RelH AC wr hs (ls.take i ++ List.replicate (n - i) [])) ∧ Hid (NBs 134 w.heap.size wr hs) ∧ Hid (Below w.heap.size w wr)) (fun v _ => n - (intOf v).toNat)
 case atStart => exact ⟨0, _, by omega, rfl, HO0, (show RelH _ _ _ _ by simpa using HR0.out), (show NBs _ _ _ _ from NBs.repl _ _ _ _), HB0⟩
 case round =>
  clear HO0 HR0 HB0
  obtain ⟨i, hs, hi, rfl, HO, HR, HNB, HB⟩ := hrel
  by_cases hlt : i < n
  ·obtain ⟨bb, ob, rfl⟩ := LS.addr HD0.out (by omega)
   obtain ⟨px, nx, cx, lx, hx, x0, hX, hcx⟩ := LS.at (HD0.out.below kept_acc HB.out) i hlt
   have hi0 : (0 : Int) ≤ (i : Int) := by omega
   have hi1 : (i : Int) < (n : Int) := by omega
   have HX1 := hide hX
   have HCX := hide hcx
   have HRS := hide (repl_step [] HLEN.out hx)
   have hnx : nx ≤ 100000 := by have := kept_acc.len hX; have := HBD.out lx (List.mem_of_getElem? hx); omega
   clear hX hcx hx
   go_upto_region 5 with fail
   clear x0
   go_wp2_with (go_at_call 167; refine (clone13A px nx cx lx _ HX1.out HCX.out hnx).mono ?_; rintro e wn ⟨p9, c9, rfl, hn9, hc9, hb9, hb⟩; have HN9 := hide hn9; have HC9 := hide hc9; have HB9 := hide (hb9.mono HB.out.size); replace HO := hide (HO.out.below hb); replace HR := hide (HR.out.below kept_acc hb); replace HNB := hide (HNB.out.below hb); replace HB := hide (bel_next HB.out hb); clear hn9 hc9 hb9 hb; refine Stop.at ?_)
   unfold Stop
   obtain ⟨Cg, hbg, _⟩ := HO.out.2 w.heap.size (by simp [Value.ownBlock])
   have hlh : hs.length = n := (HO.out.1.rs encH_len).1.1
   obtain ⟨hx9, hxe⟩ : ∃ x, hs[i]? = some x := ⟨_, List.getElem?_eq_getElem (by omega)⟩
   obtain ⟨b9, o9, hq9, hcc⟩ := (HO.out.1.rs encH_len).1.2.2.resolve_left (by omega)
   cases hq9
   have y1 := hcc i hx9 hxe 0 _ rfl
   rw [Nat.mul_one, Nat.add_zero, Nat.zero_add] at y1
   have z1 := hbg.free i
   have hsl : SlB w.heap.size wn := HO.out.slb (by simp [Value.ownBlock])
   have kp := (KP.refl w.heap.size wn).set i (.slice p9 nx c9)
   have HO2 := hide (HO.out.set hlh i (p9, nx, c9))
   have HR2 : Hid (RelH AC (wn.setCell ⟨w.heap.size, i, none⟩ (.slice p9 nx c9)) (hs.set i (p9, nx, c9)) (ls.take (i + 1) ++ List.replicate (n - (i + 1)) [])) := by
    unfold Hid
    rw [← HRS.out]
    exact (HR.out.kp kept_acc kp hsl).set kept_acc i (x := (p9, nx, c9)) (kept_acc.kp HN9.out kp hsl) HC9.out
   have HNB2 := hide ((HNB.out.put i (x := (p9, nx, c9)) HB9.out).set w.heap.size i (.slice p9 nx c9))
   have HB2 := hide (HB.out.setCell (p := ⟨w.heap.size, i, none⟩) (Nat.le_refl _) (.slice p9 nx c9))
   clear HO HR HNB HB hcc hxe hbg hsl kp hlh HRS HX1 HN9 HB9
   go_wp2
   go_roundw
   case rel => exact ⟨i + 1, _, by omega, by go_num, HO2, HR2, HNB2, HB2⟩
   case measure => simp [intOf]; omega
  ·obtain rfl : i = n := by omega
   have HR2 : Hid (RelH AC wr hs ls) := by
    have q := HR.out
    rw [List.take_of_length_le (by rw [HLEN.out]; exact Nat.le_refl _), Nat.sub_self, List.replicate_zero, List.append_nil] at q
    exact q
   clear HR
   go_wp2
   go_ret
   exact ⟨_, _, _, rfl, HO.out, HR2.out, HNB.out, HB.out⟩
set_option maxHeartbeats 2000000 in
theorem clone13N (a : Option Addr) (n cap : Nat) (l : List Nt) (w : World) (hD : NN w a n l) (hcp : CP a n cap) (hn : n ≤ 100000) : Calls Tryz.prog 168 #[.slice a n cap] w fun e w' => ∃ p c, e = .returned (.slice p n c) ∧ NN w' p n l ∧ CP p n c ∧ NB 111 w.heap.size w' p n ∧ Below w.heap.size w w' := by
 have q22 : ∀ (w : World) (a : Option Addr) (n c n' c' : Nat), (binOp .eql 80 (.slice a n c) (.slice none n' c')).run Tryz.prog w = .ok (.bool a.isNone) w := fun w a n c n' c' => Lib.run_eql_slice_nil w _ _ a n c n' c' Tryz.underlying80
 have hlen := kept_not.len hD
 rcases a with _ | p
 ·have hn0 : n = 0 := by
   rcases Nat.eq_zero_or_pos n with h | h
   ·exact h
   ·obtain ⟨b, off, q⟩ := rs_addr hD h
    cases q
  subst hn0
  obtain rfl : l = [] := List.eq_nil_of_length_eq_zero hlen
  clear hD
  go_enter Tryz.func168, Tryz.ntmps168
  go_wp2
  go_ret
  exact ⟨none, 0, rfl, kept_not.nil _ _, ⟨Nat.le_refl _, by decide, fun _ => rfl⟩, fun h => absurd h (Nat.lt_irrefl 0), Below.refl _ _⟩
 ·have hX := hD
  skip
  have HD0 := hide hX
  have HLEN := hide hX.1
  clear hD hX hlen
  have BQ := hide (bel1 w (.cells #[] 111))
  go_enter Tryz.func168, Tryz.ntmps168
  go_wp2_with (at_builtin; refine Stop.at ?_)
  unfold Stop
  refine append_rows rfl _ _ 80 rfl Tryz.underlying80 Tryz.infoNot rfl (by decide) (by decide) encNt_len encNt_one w.heap.size _ [] l rfl (OwnR.made w w.heap.size w.heap.size rfl (Nat.le_refl _)) (some p) n cap rfl (fun h => by cases h) (HD0.out.below BQ.out) (by rw [HLEN.out, List.length_nil]; omega) BQ.out.size ?_
  intro v3 w3 ho3 hg3 hbel3
  have BQ2 := hide (hbel3 w BQ.out)
  have HO := hide ho3
  clear ho3 hg3 hbel3
  go_wp2
  go_ret
  obtain ⟨p9, c9, rfl, q1, q2, q3⟩ := own_in encNt_len HO.out (n := n) (by rw [List.nil_append]; exact HLEN.out)
  rw [List.nil_append] at q1
  exact ⟨p9, c9, rfl, q1, q2, q3, BQ2.out⟩
set_option maxHeartbeats 4000000 in
theorem copyLN (a : Option Addr) (n cap : Nat) (ls : List (List Nt)) (w : World) (hD : LS NN w a n ls) (hn : n ≤ 1000) (hbd : ∀ l ∈ ls, l.length ≤ 100000) : Calls Tryz.prog 120 #[.slice a n cap] w fun e w' => ∃ p c hs, e = .returned (.slice p n c) ∧ OH 80 w.heap.size w' (.slice p n c) hs ∧ RelH NN w' hs ls ∧ NBs 111 w.heap.size w' hs ∧ Below w.heap.size w w' := by
 obtain ⟨C, hmk, hoh⟩ := make_heads Tryz.underlying29 Tryz.infoH4 n hn
 have hmk1 := hmk w
 have hn0 : (0 : Int) ≤ (n : Int) := by omega
 have HLEN := hide hD.len
 have HB0 := hide (bel1 w (.cells C 80))
 have HD0 := hide hD
 have HO0 : Hid (OH 80 w.heap.size (w.alloc (.cells C 80)) (.slice (some ⟨w.heap.size, 0, none⟩) n n) (List.replicate n (none, 0, 0))) := hoh w (Nat.le_refl _)
 have HR0 : Hid (RelH NN (w.alloc (.cells C 80)) (List.replicate n (none, 0, 0)) (List.replicate n [])) := RelH.repl kept_not _ n
 have HBD := hide hbd
 clear hD hmk hoh hbd
 go_enter Tryz.func120, Tryz.ntmps120
 go_wp2
 generalize w.alloc (.cells C 80) = u at *
 clear hmk1
 go_loopw [11] (fun v wr => ∃ (i : Nat) (hs : List Hd), i ≤ n ∧ v = .int .i64 i ∧ Hid (OH 80 w.heap.size wr (.slice (some ⟨w.heap.size, 0, none⟩) n n) hs) ∧ Hid (RelH NN wr hs (ls.take i ++ List.replicate (n - i) [])) ∧ Hid (NBs 111 w.heap.size wr hs) ∧ Hid (Below w.heap.size w wr)) (fun v _ => n - (intOf v).toNat)
 case atStart => exact ⟨0, _, by omega, rfl, HO0, (show RelH _ _ _ _ by simpa using HR0.out), (show NBs _ _ _ _ from NBs.repl _ _ _ _), HB0⟩
 case round =>
  clear HO0 HR0 HB0
  obtain ⟨i, hs, hi, rfl, HO, HR, HNB, HB⟩ := hrel
  by_cases hlt : i < n
  ·obtain ⟨bb, ob, rfl⟩ := LS.addr HD0.out (by omega)
   obtain ⟨px, nx, cx, lx, hx, x0, hX, hcx⟩ := LS.at (HD0.out.below kept_not HB.out) i hlt
   have hi0 : (0 : Int) ≤ (i : Int) := by omega
   have hi1 : (i : Int) < (n : Int) := by omega
   have HX1 := hide hX
   have HCX := hide hcx
   have HRS := hide (repl_step [] HLEN.out hx)
   have hnx : nx ≤ 100000 := by have := kept_not.len hX; have := HBD.out lx (List.mem_of_getElem? hx); omega
   clear hX hcx hx
   go_upto_region 5 with fail
   clear x0
   go_wp2_with (go_at_call 168; refine (clone13N px nx cx lx _ HX1.out HCX.out hnx).mono ?_; rintro e wn ⟨p9, c9, rfl, hn9, hc9, hb9, hb⟩; have HN9 := hide hn9; have HC9 := hide hc9; have HB9 := hide (hb9.mono HB.out.size); replace HO := hide (HO.out.below hb); replace HR := hide (HR.out.below kept_not hb); replace HNB := hide (HNB.out.below hb); replace HB := hide (bel_next HB.out hb); clear hn9 hc9 hb9 hb; refine Stop.at ?_)
   unfold Stop
   obtain ⟨Cg, hbg, _⟩ := HO.out.2 w.heap.size (by simp [Value.ownBlock])
   have hlh : hs.length = n := (HO.out.1.rs encH_len).1.1
   obtain ⟨hx9, hxe⟩ : ∃ x, hs[i]? = some x := ⟨_, List.getElem?_eq_getElem (by omega)⟩
   obtain ⟨b9, o9, hq9, hcc⟩ := (HO.out.1.rs encH_len).1.2.2.resolve_left (by omega)
   cases hq9
   have y1 := hcc i hx9 hxe 0 _ rfl
   rw [Nat.mul_one, Nat.add_zero, Nat.zero_add] at y1
   have z1 := hbg.free i
   have hsl : SlB w.heap.size wn := HO.out.slb (by simp [Value.ownBlock])
   have kp := (KP.refl w.heap.size wn).set i (.slice p9 nx c9)
   have HO2 := hide (HO.out.set hlh i (p9, nx, c9))
   have HR2 : Hid (RelH NN (wn.setCell ⟨w.heap.size, i, none⟩ (.slice p9 nx c9)) (hs.set i (p9, nx, c9)) (ls.take (i + 1) ++ List.replicate (n - (i + 1)) [])) := by
    unfold Hid
    rw [← HRS.out]
    exact (HR.out.kp kept_not kp hsl).set kept_not i (x := (p9, nx, c9)) (kept_not.kp HN9.out kp hsl) HC9.out
   have HNB2 := hide ((HNB.out.put i (x := (p9, nx, c9)) HB9.out).set w.heap.size i (.slice p9 nx c9))
   have HB2 := hide (HB.out.setCell (p := ⟨w.heap.size, i, none⟩) (Nat.le_refl _) (.slice p9 nx c9))
   clear HO HR HNB HB hcc hxe hbg hsl kp hlh HRS HX1 HN9 HB9
   go_wp2
   go_roundw
   case rel => exact ⟨i + 1, _, by omega, by go_num, HO2, HR2, HNB2, HB2⟩
   case measure => simp [intOf]; omega
  ·obtain rfl : i = n := by omega
   have HR2 : Hid (RelH NN wr hs ls) := by
    have q := HR.out
    rw [List.take_of_length_le (by rw [HLEN.out]; exact Nat.le_refl _), Nat.sub_self, List.replicate_zero, List.append_nil] at q
    exact q
   clear HR
   go_wp2
   go_ret
   exact ⟨_, _, _, rfl, HO.out, HR2.out, HNB.out, HB.out⟩
end Go.Proofs.YtkbbegbpkndebaaGreat

