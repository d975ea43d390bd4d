/- The program's Keys and Same (layer 8). -/
import Derived.Test.YtoogahfmjgajpaaA7
namespace Go.Proofs.Ytoogahfmjgajpaa
open Go.RowKit Go.Lib
set_option linter.unusedVariables false
/-- Texts of a slice. -/
def encS (k : ByteArray) : List Value := [.string k]
theorem encS_len (x : ByteArray) : (encS x).length = 1 := rfl
theorem encS_one (x : ByteArray) : ∀ v ∈ encS x, v.oneCell' = true := by
  intro v hv
  simp only [encS, List.mem_cons, List.not_mem_nil, or_false] at hv
  subst hv
  rfl
theorem Try.infoStr : (Try.prog.info? 9).map (fun i => (i.zero, i.size, i.bytes)) = some (some (.string ⟨#[]⟩), 1, 16) := by kernel_rfl
set_option maxHeartbeats 1000000 in
set_option maxRecDepth 2000 in
theorem Keys_any (a : Option Addr) (n cap : Nat) (s : List En) (w : World) (hA : NSS w a n s) : Calls Try.prog 19 #[.slice a n cap] w fun e w' => (∃ p cp, e = .returned (.slice p (if mayS s = true then n else 0) cp) ∧ RS encS 1 w' p (if mayS s = true then n else 0) (if mayS s = true then s.map (·.1) else []) ∧ CP p (if mayS s = true then n else 0) cp) ∧ Below w.heap.size w w' := by
  have HV := hide hA
  have HLEN := hide hA.len
  clear hA
  rcases hx : mayS s with _ | _
  · have HC1 : Hid (chkS s = 1) := by unfold Hid chkS; rw [hx]; rfl
    clear hx
    go_enter Try.func19, Try.ntmps19
    go_wp2_with (go_at_call 14; refine (Check_any a n cap s _ HV.out).mono ?_; rintro e w1 ⟨rfl, hb⟩; rw [HC1.out])
    go_ret
    exact ⟨⟨none, 0, rfl, RS.nil _ _, ⟨Nat.le_refl _, by decide, fun _ => rfl⟩⟩, hb⟩
  · have HC1 : Hid (chkS s = 0) := by unfold Hid chkS; rw [hx]; rfl
    have hn : n ≤ 4000 := by rw [← HLEN.out]; exact (mayS_iff.1 hx).2.2
    clear hx
    go_enter Try.func19, Try.ntmps19
    go_wp2_with (go_at_call 14; refine (Check_any a n cap s _ HV.out).mono ?_; rintro e w1 ⟨rfl, hb⟩; rw [HC1.out])
    have HB0 := hide hb
    clear hb
    go_loopw [3, 11] (fun V i wr => ∃ k : Nat, k ≤ n ∧ i = .int .i64 k ∧ Hid (OwnR encS 1 9 w.heap.size wr V ((s.take k).map (·.1))) ∧ Hid (Below w.heap.size w wr)) (fun _ i _ => n - (intOf i).toNat)
    case atStart => exact ⟨0, by omega, rfl, OwnR.nil _ _, HB0⟩
    case round =>
      clear HB0
      obtain ⟨k0, hk, rfl, HO, HB⟩ := hrel
      by_cases hlt : k0 < n
      · obtain ⟨b, off, rfl⟩ := HV.out.addr (by omega)
        obtain ⟨k, pl, nl, cl, pd, nd, cd, ll, mm, hx, c0, c1, c2, _, _, _, _⟩ := (HV.out.below HB.out).at k0 hlt
        have HX := hide hx
        have hk0 : (0 : Int) ≤ (k0 : Int) := by omega
        have hk1 : (k0 : Int) < (n : Int) := by omega
        clear hx
        go_wp2_with (at_builtin; refine Stop.at ?_)
        unfold Stop
        have HB2 := hide (bel2 wr (.cells #[.string k, .slice pl nl cl, .slice pd nd cd] 48) (.cells #[.string k] 9))
        have HB3 := hide (bel_next HB.out HB2.out)
        refine append_rows rfl _ _ 43 rfl Try.underlying43 Try.infoStr rfl (by decide) (by decide) encS_len encS_one w.heap.size u3 ((s.take k0).map (·.1)) [k] rfl (HO.out.below HB2.out) (some ⟨wr.heap.size + 1, 0, none⟩) 1 1 rfl (fun h => by cases h) (RS.new encS_len _ _ (by simp) [k] _ (by simp [encS]) _ _ 1 rfl (by decide)) (by simp; omega) HB3.out.size ?_
        intro v3 w3 ho3 _ hbel3
        have HO3 : Hid (OwnR encS 1 9 w.heap.size w3 v3 ((s.take (k0 + 1)).map (·.1))) := by
          unfold Hid
          rw [take_snocL HX.out, List.map_append]
          exact ho3
        have HB4 := hide (hbel3 _ HB3.out)
        clear ho3 hbel3 HB2 HB3 HO HB
        go_wp2
        go_roundw
        case rel => exact ⟨k0 + 1, by omega, by go_num, HO3, HB4⟩
        case measure => simp [intOf]; omega
      · obtain rfl : k0 = n := by omega
        have HE : Hid (OwnR encS 1 9 w.heap.size wr u3 (s.map (·.1))) := by have := HO.out; rwa [← HLEN.out, List.take_length] at this
        obtain ⟨p, c, rfl, h1, h2⟩ := HE.out.open encS_len
        rw [List.length_map, HLEN.out] at h1 h2 ⊢
        have H1 := hide h1
        have H2 := hide h2
        clear HO HE h1 h2
        go_wp2
        go_ret
        exact ⟨⟨p, c, rfl, H1.out, H2.out⟩, HB.out⟩
theorem en_dec (k k' : ByteArray) (l l' m m' : List Dot) : decide (((k, l, m) : En) = (k', l', m')) = (decide (k = k') && decide (l = l') && decide (m = m')) := by
  rw [Bool.eq_iff_iff]; simp [and_assoc]
set_option maxHeartbeats 1000000 in
theorem same1_any (k : ByteArray) (pl : Option Addr) (nl cl : Nat) (pd : Option Addr) (nd cd : Nat) (l m : List Dot) (k' : ByteArray) (pl' : Option Addr) (nl' cl' : Nat) (pd' : Option Addr) (nd' cd' : Nat) (l' m' : List Dot) (w : World) (hl : DS w pl nl l) (hm : DS w pd nd m) (hl' : DS w pl' nl' l') (hm' : DS w pd' nd' m') :
    Calls Try.prog 41 #[.agg #[.string k, .slice pl nl cl, .slice pd nd cd], .agg #[.string k', .slice pl' nl' cl', .slice pd' nd' cd']] w fun e w' => e = .returned (.bool (decide (((k, l, m) : En) = (k', l', m')))) ∧ Below w.heap.size w w' := by
  have HR := hide (en_dec k k' l l' m m')
  have BB := hide (bel2 w (.cells #[.string k, .slice pl nl cl, .slice pd nd cd] 48) (.cells #[.string k', .slice pl' nl' cl', .slice pd' nd' cd'] 48))
  have HL := hide hl
  have HM := hide hm
  have HL' := hide hl'
  have HM' := hide hm'
  have hk := eqK k k'
  have c2 := cell_old (.cells #[.string k', .slice pl' nl' cl', .slice pd' nd' cd'] 48) (cell_new w #[.string k, .slice pl nl cl, .slice pd nd cd] 48 _ rfl 2 _ rfl)
  have d2 := cell_new (w.alloc (.cells #[.string k, .slice pl nl cl, .slice pd nd cd] 48)) #[.string k', .slice pl' nl' cl', .slice pd' nd' cd'] 48 (w.heap.size + 1) (by simp) 2 _ rfl
  clear hl hm hl' hm'
  rcases h1 : decide (k = k') with _ | _
  · rw [h1] at hk HR
    clear h1 c2 d2
    go_enter Try.func41, Try.ntmps41
    go_wp2
    go_ret
    exact ⟨by rw [HR.out]; rfl, BB.out⟩
  · rw [h1] at hk HR
    clear h1
    rcases h2 : decide (l = l') with _ | _
    · rw [h2] at HR
      have H2 := hide h2
      clear h2 c2 d2
      go_enter Try.func41, Try.ntmps41
      go_wp2_with (go_at_call 42; refine (equalD_any pl pl' nl cl nl' cl' l l' _ (HL.out.below BB.out) (HL'.out.below BB.out)).mono ?_; rintro e w1 ⟨rfl, hb⟩; rw [H2.out])
      go_ret
      exact ⟨by rw [HR.out]; rfl, bel_next BB.out hb⟩
    · rw [h2] at HR
      have H2 := hide h2
      clear h2
      have HEQ : Hid (∀ W, DS W pd nd m → DS W pd' nd' m' → Calls Try.prog 42 #[.slice pd nd cd, .slice pd' nd' cd'] W fun e w' => e = .returned (.bool (decide (m = m'))) ∧ Below W.heap.size W w') := fun W h h' => equalD_any pd pd' nd cd nd' cd' m m' W h h'
      generalize decide (m = m') = b at HR HEQ
      go_enter Try.func41, Try.ntmps41
      go_wp2_with (go_at_call 42; refine (equalD_any pl pl' nl cl nl' cl' l l' _ (HL.out.below BB.out) (HL'.out.below BB.out)).mono ?_; rintro e w1 ⟨rfl, hb⟩; rw [H2.out]; replace c2 := bcell hb c2; replace d2 := bcell hb d2; replace BB := hide (bel_next BB.out hb); clear hb; refine Stop.at ?_)
      unfold Stop
      go_wp2_with (go_at_call 42; refine (HEQ.out _ (HM.out.below BB.out) (HM'.out.below BB.out)).mono ?_; rintro e w2 ⟨rfl, hb⟩)
      go_ret
      exact ⟨by rw [HR.out]; simp, bel_next BB.out hb⟩
end Go.Proofs.Ytoogahfmjgajpaa
