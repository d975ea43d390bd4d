/- What 'Pack' does, the program's and the document's; texts in memory. -/
import Derived.Test.YtbeknlpoialgiaaWGetText
namespace Go.Proofs.Ytbeknlpoialgiaa
open Go.RowKit
set_option linter.unusedVariables false

/-- A slice of slices of bytes: the texts 'ps', each with its room. -/
def PC (w : World) (a : Option Addr) (n : Nat) (ps : List (List Int)) : Prop :=
  ps.length = n ∧ n ≤ maxLen ∧ (n = 0 ∨ ∃ b off, a = some ⟨b, off, none⟩ ∧ ∀ i, i < n → ∃ x len cap, w.cell? ⟨b, off + i, none⟩ = some (.slice x len cap) ∧ BS w x len (ps.getD i []) ∧ CP x len cap)
theorem PC.ext {w w' : World} {a : Option Addr} {n : Nat} {ps : List (List Int)} (h : PC w a n ps) (hx : Ext w w') : PC w' a n ps := by
  obtain ⟨h1, h2, h3⟩ := h
  refine ⟨h1, h2, ?_⟩
  rcases h3 with h0 | ⟨b, off, ha, hc⟩
  · exact .inl h0
  · refine .inr ⟨b, off, ha, fun i hi => ?_⟩
    obtain ⟨x, len, cap, q1, q2, q3⟩ := hc i hi
    exact ⟨x, len, cap, hx _ _ q1, q2.ext hx, q3⟩
theorem PC.below {w w' : World} {a : Option Addr} {n : Nat} {ps : List (List Int)} (h : PC w a n ps) (hb : Below w.heap.size w w') : PC w' a n ps := h.ext ((Ext.refl w).below hb)
theorem PC.drew {w : World} {a : Option Addr} {n : Nat} {ps : List (List Int)} (h : PC w a n ps) : PC w.drew a n ps := h
theorem PC.alloc {w : World} {a : Option Addr} {n : Nat} {ps : List (List Int)} (h : PC w a n ps) (o : Obj) : PC (w.alloc o) a n ps := h.ext ((Ext.refl w).alloc o)
theorem PC.at {w : World} {a : Option Addr} {n : Nat} {ps : List (List Int)} (h : PC w a n ps) (i : Nat) (hi : i < n) : ∃ b off x len cap, a = some ⟨b, off, none⟩ ∧ w.cell? ⟨b, off + i, none⟩ = some (.slice x len cap) ∧ BS w x len (ps.getD i []) ∧ CP x len cap := by
  rcases h.2.2 with h0 | ⟨b, off, rfl, hc⟩
  · omega
  · obtain ⟨x, len, cap, q⟩ := hc i hi
    exact ⟨b, off, x, len, cap, rfl, q⟩
theorem getD_mem {ps : List (List Int)} {i : Nat} (h : i < ps.length) : ps.getD i [] ∈ ps := by
  have : ps.getD i [] = ps[i] := by simp [List.getD_eq_getElem?_getD, h]
  rw [this]; exact List.getElem_mem h
theorem PC.by {w : World} {a : Option Addr} {n : Nat} {ps : List (List Int)} (h : PC w a n ps) : ∀ p ∈ ps, By p := by
  intro p hp
  obtain ⟨i, hi, rfl⟩ := List.getElem_of_mem hp
  obtain ⟨b, off, x, len, cap, _, _, hb, _⟩ := h.at i (by rw [← h.1]; exact hi)
  have : ps.getD i [] = ps[i] := by simp [List.getD_eq_getElem?_getD, hi]
  rw [← this]
  exact hb.2.2.1
theorem drop_flat (ps : List (List Int)) (k : Nat) (h : k < ps.length) : (ps.drop k).flatMap text = text (ps.getD k []) ++ (ps.drop (k + 1)).flatMap text := by
  rw [List.drop_eq_getElem_cons h, List.flatMap_cons]
  simp [List.getD_eq_getElem?_getD, h]
theorem text_len (t : List Int) : (text t).length ≤ t.length + 9 := by
  unfold text
  rw [List.length_append, num_len]
  have := nb_le t.length
  omega

set_option maxHeartbeats 1000000 in
set_option maxRecDepth 100000 in
theorem pack_any (a : Option Addr) (n c : Nat) (ps : List (List Int)) (w : World) (hA : PC w a n ps) (hn : n ≤ 1000) (hps : ∀ p ∈ ps, p.length ≤ 100000) :
    Calls Try.prog 42 #[.slice a n c] w fun e w' => ∃ v, e = .returned v ∧ Own w.heap.size w' v (pack ps) ∧ Below w.heap.size w w' := by
  have hl := hide hA.1
  have HA := hide hA
  have Hps := hide hps
  clear hA hps
  have hnb := num_len (n : Int)
  have hnb8 := nb_le (n : Int)
  have hnI : (n : Int) ≤ 1000 := by omega
  have Hn := hide hn
  have Hnb := hide hnb
  clear hn hnb
  go_enter Try.func42, Try.ntmps42
  go_wp2_with fail
  refine (num_any (n : Int) w (by omega) (by omega)).mono ?_
  rintro e w1 ⟨v, rfl, hown, hb⟩
  have Hown := hide hown
  have Hb := hide hb
  clear hown hb
  go_wp2
  go_loopw [3, 12] (fun v i wr => ∃ (k : Nat) (acc : List Int), k ≤ n ∧ i = .int .i64 k ∧ Hid (acc ++ (ps.drop k).flatMap text = pack ps) ∧ Hid (acc.length ≤ 9 + k * 100009) ∧ Hid (Own w.heap.size wr v acc) ∧ Hid (Below w.heap.size w wr)) (fun _ i _ => n - (intOf i).toNat)
  case atStart => exact ⟨0, num n, by omega, rfl, by unfold pack; rw [hl.out]; rfl, by have := Hnb.out; show _ ≤ _; omega, Hown.out, Hb.out⟩
  case round =>
    obtain ⟨k, acc, hk, rfl, hacc, hal, hown, hbel⟩ := hrel
    have hsz := hbel.out.size
    by_cases hlt : k < n
    · have hkl : k < ps.length := by rw [hl.out]; exact hlt
      obtain ⟨b, off, x, len, cap, rfl, q, hbs, hcp⟩ := (HA.out.below hbel.out).at k hlt
      have Hbs := hide hbs
      have Hcp := hide hcp
      have hp := hide (Hps.out _ (getD_mem hkl))
      have hlen : Hid (len ≤ 100000) := by have := hbs.1; have := hp.out; show _ ≤ _; omega
      have hdf := hide (drop_flat ps k hkl)
      clear hbs hcp hkl
      have hltI : (k : Int) < (n : Int) := by omega
      go_wp2_with fail
      refine (text_any _ _ _ _ wr Hbs.out Hcp.out.2.2 (by have := hlen.out; omega)).mono ?_
      rintro e w2 ⟨v2, rfl, hown2, hb2⟩
      obtain ⟨p2, cap2, rfl, hbs2, hcp2⟩ := hown2.open (text_by Hbs.out.2.2.1)
      have Hbs2 := hide hbs2
      have Hcp2 := hide hcp2
      have Hb2 := hide hb2
      have Hown2 := hide (hown.out.below hb2)
      have hsz2 := hb2.size
      have hbel2 := hide (hbel.out.trans (hb2.mono hsz))
      clear hown2 hbs2 hcp2 hb2 hown hbel
      go_wp2_with (at_builtin; refine Stop.at ?_)
      unfold Stop
      have htl := hide (text_len (ps.getD k []))
      refine append_bytes rfl _ _ rfl w.heap.size _ _ _ rfl Hown2.out p2 _ cap2 rfl Hcp2.out.2.2 Hbs2.out (by have := hal.out; have := htl.out; have := hp.out; have := Hn.out; omega) (by omega) ?_
      intro v3 w3 hown3 hgrow hbel3
      have Hown3 := hide hown3
      have Hbel3 := hide (hbel3 w hbel2.out)
      have hacc2 : Hid ((acc ++ text (ps.getD k [])) ++ (ps.drop (k + 1)).flatMap text = pack ps) := by rw [← hacc.out, hdf.out, List.append_assoc]; rfl
      have hal2 : Hid ((acc ++ text (ps.getD k [])).length ≤ 9 + (k + 1) * 100009) := by
        have := hal.out; have := htl.out; have := hp.out
        show _ ≤ _
        rw [List.length_append]; omega
      clear hown3 hgrow hbel3 hacc hal htl
      go_wp2
      go_roundw
      case rel => exact ⟨k + 1, _, by omega, by go_num, hacc2, hal2, Hown3, Hbel3⟩
      case measure => simp [intOf]; omega
    · have hkl : k = n := by omega
      subst hkl
      have hE : Hid (acc = pack ps) := by have h2 := hacc.out; rw [List.drop_of_length_le (by rw [hl.out]; exact Nat.le_refl _)] at h2; refine hide ?_; simpa using h2
      have hown2 : Hid (Own w.heap.size wr u3 (pack ps)) := by rw [← hE.out]; exact hown
      clear hown
      go_wp2
      go_ret
      exact ⟨_, rfl, hown2.out, hbel.out⟩

set_option maxHeartbeats 1000000 in
set_option maxRecDepth 100000 in
theorem refPack_any (a : Option Addr) (n c : Nat) (ps : List (List Int)) (w : World) (hA : PC w a n ps) (hn : n ≤ 1000) (hps : ∀ p ∈ ps, p.length ≤ 100000) :
    Calls Try.prog 48 #[.slice a n c] w fun e w' => ∃ v, e = .returned v ∧ Own w.heap.size w' v (pack ps) ∧ Below w.heap.size w w' := by
  have hl := hide hA.1
  have HA := hide hA
  have Hps := hide hps
  clear hA hps
  have hnb := num_len (n : Int)
  have hnb8 := nb_le (n : Int)
  have hnI : (n : Int) ≤ 1000 := by omega
  have Hn := hide hn
  have Hnb := hide hnb
  clear hn hnb
  go_enter Try.func48, Try.ntmps48
  go_wp2_with fail
  refine (refNum_any (n : Int) w (by omega) (by omega)).mono ?_
  rintro e w1 ⟨v, rfl, hown, hb⟩
  have Hown := hide hown
  have Hb := hide hb
  clear hown hb
  go_wp2
  go_loopw [3, 4] (fun v i wr => ∃ (k : Nat) (acc : List Int), k ≤ n ∧ i = .int .i64 k ∧ Hid (acc ++ (ps.drop k).flatMap text = pack ps) ∧ Hid (acc.length ≤ 9 + k * 100009) ∧ Hid (Own w.heap.size wr v acc) ∧ Hid (Below w.heap.size w wr)) (fun _ i _ => n - (intOf i).toNat)
  case atStart => exact ⟨0, num n, by omega, rfl, by unfold pack; rw [hl.out]; rfl, by have := Hnb.out; show _ ≤ _; omega, Hown.out, Hb.out⟩
  case round =>
    obtain ⟨k, acc, hk, rfl, hacc, hal, hown, hbel⟩ := hrel
    have hsz := hbel.out.size
    by_cases hlt : k < n
    · have hkl : k < ps.length := by rw [hl.out]; exact hlt
      obtain ⟨b, off, x, len, cap, rfl, q, hbs, hcp⟩ := (HA.out.below hbel.out).at k hlt
      have Hbs := hide hbs
      have Hcp := hide hcp
      have hp := hide (Hps.out _ (getD_mem hkl))
      have hlen : Hid (len ≤ 100000) := by have := hbs.1; have := hp.out; show _ ≤ _; omega
      have hdf := hide (drop_flat ps k hkl)
      clear hbs hcp hkl
      have hltI : (k : Int) < (n : Int) := by omega
      go_wp2_with fail
      refine (refText_any _ _ _ _ wr Hbs.out Hcp.out.2.2 (by have := hlen.out; omega)).mono ?_
      rintro e w2 ⟨v2, rfl, hown2, hb2⟩
      obtain ⟨p2, cap2, rfl, hbs2, hcp2⟩ := hown2.open (text_by Hbs.out.2.2.1)
      have Hbs2 := hide hbs2
      have Hcp2 := hide hcp2
      have Hb2 := hide hb2
      have Hown2 := hide (hown.out.below hb2)
      have hsz2 := hb2.size
      have hbel2 := hide (hbel.out.trans (hb2.mono hsz))
      clear hown2 hbs2 hcp2 hb2 hown hbel
      go_wp2_with (at_builtin; refine Stop.at ?_)
      unfold Stop
      have htl := hide (text_len (ps.getD k []))
      refine append_bytes rfl _ _ rfl w.heap.size _ _ _ rfl Hown2.out p2 _ cap2 rfl Hcp2.out.2.2 Hbs2.out (by have := hal.out; have := htl.out; have := hp.out; have := Hn.out; omega) (by omega) ?_
      intro v3 w3 hown3 hgrow hbel3
      have Hown3 := hide hown3
      have Hbel3 := hide (hbel3 w hbel2.out)
      have hacc2 : Hid ((acc ++ text (ps.getD k [])) ++ (ps.drop (k + 1)).flatMap text = pack ps) := by rw [← hacc.out, hdf.out, List.append_assoc]; rfl
      have hal2 : Hid ((acc ++ text (ps.getD k [])).length ≤ 9 + (k + 1) * 100009) := by
        have := hal.out; have := htl.out; have := hp.out
        show _ ≤ _
        rw [List.length_append]; omega
      clear hown3 hgrow hbel3 hacc hal htl
      go_wp2
      go_roundw
      case rel => exact ⟨k + 1, _, by omega, by go_num, hacc2, hal2, Hown3, Hbel3⟩
      case measure => simp [intOf]; omega
    · have hkl : k = n := by omega
      subst hkl
      have hE : Hid (acc = pack ps) := by have h2 := hacc.out; rw [List.drop_of_length_le (by rw [hl.out]; exact Nat.le_refl _)] at h2; refine hide ?_; simpa using h2
      have hown2 : Hid (Own w.heap.size wr u3 (pack ps)) := by rw [← hE.out]; exact hown
      clear hown
      go_wp2
      go_ret
      exact ⟨_, rfl, hown2.out, hbel.out⟩
end Go.Proofs.Ytbeknlpoialgiaa
