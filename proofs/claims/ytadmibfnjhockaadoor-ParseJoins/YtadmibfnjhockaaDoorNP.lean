/- What the program tells of a text's lines (layer 15). -/
import Derived.Test.YtadmibfnjhockaaDoorNR7
import Derived.Test.YtadmibfnjhockaaDoorLP
import Derived.Test.YtadmibfnjhockaaDoorN8
namespace Go.Proofs.YtadmibfnjhockaaDoor
open Go.RowKit Go.Lib
set_option linter.unusedVariables false
/-- What Lines tells: the program's. -/
def GiP (s : ByteArray) (w : World) (e : Ending) (w' : World) : Prop := ∃ v ds x e0, e = .returned (.tuple #[v, .int .i64 x, .int .i64 e0]) ∧ linG (bytesL s) = (ds, x, e0) ∧ OwnF 7 RDc 32 w.heap.size w' v ds ∧ Below w.heap.size w w'
theorem lexB_ne {l : List Int} {ts : List Tk} {x : Int} (h : lexB l = (ts, x, 0)) : ts ≠ [] := by
  unfold lexB at h
  split at h
  · cases h
  · have hc := lexP_err l.length l 1 []
    rcases hr : lexP l.length l 1 [] with ⟨y, e⟩ | ⟨ln, A⟩
    · rw [hr] at h hc
      cases h
      exact absurd rfl hc
    · rw [hr] at h
      unfold finL at h
      simp only at h
      split at h
      · cases h
      · cases h
        simp
theorem ks_lt {w : World} {a : Option Addr} {l : List Tk} (h : KS w a l.length l) (h0 : l ≠ []) : ∀ b, a = some b → b.block < w.heap.size := fun b hb => by
  obtain ⟨t, r, rfl⟩ := List.exists_cons_of_ne_nil h0
  rcases h.2.2 with hz | ⟨b', off, rfl, hc⟩
  · simp at hz
  · cases hb
    exact World.block_lt_of_cell? w _ (hc 0 t rfl 0 _ rfl)
theorem gQ_is {l : List Int} {ts : List Tk} {x : Int} (h : lexB l = (ts, x, 0)) : linG l = gQ (linX ts []) := by
  unfold linG
  rw [h]
  exact if_neg (by simp)
theorem KeptQ15 (s : ByteArray) (w : World) : Calls Tryd.prog 10 #[.string s] w fun e w' => e = .returned (.bool (keptB s)) ∧ Below w.heap.size w w' := by
  refine (KeptP15 s w).mono ?_
  rintro e w' ⟨rfl, rfl⟩
  exact ⟨rfl, Below.refl _ _⟩
theorem lexB_bad {l : List Int} {ts : List Tk} {x e : Int} (h : lexB l = (ts, x, e)) (he : e ≠ 0) : ts = [] := by
  unfold lexB at h
  split at h
  · cases h; rfl
  · rcases hr : lexP l.length l 1 [] with ⟨y, e'⟩ | ⟨ln, A⟩
    · rw [hr] at h
      cases h
      rfl
    · rw [hr] at h
      unfold finL at h
      simp only at h
      split at h
      · cases h; rfl
      · cases h
        exact absurd rfl he
set_option maxRecDepth 2000 in
set_option maxHeartbeats 4000000 in
theorem LinesP15 (s : ByteArray) (w : World) (hm : s.size ≤ maxLen) (hv : LV w) : Calls Tryd.prog 7 #[.string s] w (GiP s w) := by
  have HRD := hide (fun W hW => ReadP14 s W hm hW)
  clear hm
  go_enter Tryd.func7, Tryd.ntmps7
  go_upto_region 2 with (go_at_call 14; refine (HRD.out _ hv).mono ?_; rintro e w1 ⟨p, c, ts, x, e0, rfl, hl, hk, hc, hb⟩; have HL := hide hl; have HK := hide hk; have HC := hide hc; have HB := hide hb; clear hl hk hc hb)
  clear HRD
  by_cases he : e0 = 0
  · subst he
    have hne := lexB_ne HL.out
    have hA := ks_lt HK.out hne
    have hen := lexB_ends HL.out
    have h8 : ts.length ≤ 800 := by have q := lexB_l15 (bytesL s); rw [HL.out] at q; exact q
    have HGQ := hide (gQ_is HL.out)
    rcases hR : linX ts [] with y | ds
    · have HTL : Hid (∀ W, Below w1.heap.size w1 W → Calls Tryd.prog 15 #[.slice p ts.length c] W fun e w' => e = .returned (.tuple #[.slice none 0 0, .int .i64 y, .int .i64 2]) ∧ Below W.heap.size W w') := fun W hW => (tell15 p c ts W (HK.out.below hW) HC.out (fun b hb => Nat.lt_of_lt_of_le (hA b hb) hW.size) hen.1 hen.2 (lexB_num0 HL.out) (lexB_endz HL.out) h8 hR).mono (by
        rintro e w' (⟨_, v, h, _⟩ | ⟨y', h, rfl, hb⟩)
        · cases h
        · cases h; exact ⟨rfl, hb⟩)
      rw [hR] at HGQ
      clear hne hA hen h8 hR HL HC
      have hb0 := Below.refl w1.heap.size w1
      go_wp2_with (go_at_call 15; refine (HTL.out _ hb0).mono ?_; rintro e w2 ⟨rfl, hb⟩; have HB2 := hide (bel_next HB.out hb); clear hb)
      go_ret3
      exact ⟨_, [], y, 2, rfl, HGQ.out, OwnF.nil _ _, HB2.out⟩
    · have HTL : Hid (∀ W, Below w1.heap.size w1 W → Calls Tryd.prog 15 #[.slice p ts.length c] W fun e w' => ∃ v, e = .returned (.tuple #[v, .int .i64 0, .int .i64 0]) ∧ OwnF 7 RDc 32 W.heap.size w' v ds ∧ ds.length ≤ 800 ∧ Below W.heap.size W w') := fun W hW => (tell15 p c ts W (HK.out.below hW) HC.out (fun b hb => Nat.lt_of_lt_of_le (hA b hb) hW.size) hen.1 hen.2 (lexB_num0 HL.out) (lexB_endz HL.out) h8 hR).mono (by
        rintro e w' (⟨_, v, h, rfl, h2⟩ | ⟨y', h, _⟩)
        · cases h; exact ⟨v, rfl, h2⟩
        · cases h)
      rw [hR] at HGQ
      clear hne hA hen h8 hR HL HC
      have hb0 := Below.refl w1.heap.size w1
      go_upto_region 5 with (go_at_call 15; refine (HTL.out _ hb0).mono ?_; rintro e w2 ⟨v, rfl, ho, h8, hb⟩; have HB2 := hide (bel_next HB.out hb); have HO := hide (OwnF.mono ho HB.out.size); clear ho hb)
      clear hb0 HTL HK
      obtain ⟨pv, cv, hv2, hsf, hcp⟩ := HO.out.open
      subst hv2
      by_cases h60 : 60 < ds.length
      · have h60i : (ds.length : Int) > 60 := by omega
        obtain ⟨b, off, rfl⟩ := hsf.addr (by omega)
        obtain ⟨r, d, F, hd, hrd, hcl⟩ := hsf.at 60 h60
        obtain ⟨p6, n6, c6, hr6, _⟩ := hrd
        have z6 := hcl 6 (.int .i64 d.2.2.2.2.2.2) (by rw [hr6]; rfl)
        have HGQ2 : Hid (linG (bytesL s) = ([], d.2.2.2.2.2.2, 7)) := by
          unfold Hid
          rw [HGQ.out]
          show (if 60 < ds.length then _ else _) = _
          rw [if_pos h60, hd]
          rfl
        obtain ⟨m, hm⟩ : ∃ m, ds.length = m := ⟨_, rfl⟩
        rw [hm] at h60i
        have hm0 : (60 : Int) < (m : Int) := h60i
        rw [hm]
        clear hsf hcp hd hr6 hcl HGQ HO hm h60 h8
        go_upto_region 8 with fail
        go_region
        go_wp2
        go_ret3
        exact ⟨_, [], _, 7, rfl, HGQ2.out, OwnF.nil _ _, HB2.out.drew⟩
      · have h60i : ¬ (ds.length : Int) > 60 := by omega
        have HGQ2 : Hid (linG (bytesL s) = (ds, 0, 0)) := by
          unfold Hid
          rw [HGQ.out]
          exact if_neg h60
        obtain ⟨m, hm⟩ : ∃ m, ds.length = m := ⟨_, rfl⟩
        rw [hm] at h60i HO
        rw [hm]
        clear hsf hcp HGQ hm h60 h8
        go_wp2
        go_ret3
        exact ⟨_, ds, 0, 0, rfl, HGQ2.out, HO.out, HB2.out⟩
  · have HGL : Hid (ts = [] ∧ linG (bytesL s) = ([], x, e0)) := by
      have q := lexB_bad HL.out he
      subst q
      exact ⟨rfl, linG_lex HL.out he⟩
    have he2 : (e0 == 0) = false := by simpa using he
    clear HL HK HC
    go_wp2
    go_ret3
    exact ⟨_, [], x, e0, rfl, HGL.out.2, OwnF.nil _ _, HB.out⟩
end Go.Proofs.YtadmibfnjhockaaDoor
