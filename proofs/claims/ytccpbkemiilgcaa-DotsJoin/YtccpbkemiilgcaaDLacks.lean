/- What 'Lacks' does. -/
import Derived.Test.YtccpbkemiilgcaaDFun5
import Derived.Test.YtccpbkemiilgcaaDMath
namespace Go.Proofs.Ytccpbkemiilgcaa
open Go.RowKit
set_option linter.unusedVariables false

/-- Does one lack what another one has? -/
def lacksB (c : List Int) (m : List Dot) (c' : List Int) (m' : List Dot) : Bool := !decide (wth c' c) || m'.any (fun d => !hasB c m d)
theorem lacks_iff {c c' : List Int} {m m' : List Dot} (h1 : GoodX (vec c, m)) (h2 : GoodX (vec c', m')) : lacksB c m c' m' = false ↔ ∀ d, mayD d = true → hasX (vec c', m') d → hasX (vec c, m) d := by
  have e5 : ∀ (c : List Int) (k : Nat) (n : Int), k < 5 → numX (vec c) ((k : Int) + 1, n) = at5 c k := fun c k n hk => by
    unfold numX
    rw [show (((k : Int) + 1, n) : Dot).1 = (k : Int) + 1 from rfl, show ((k : Int) + 1 - 1).toNat = k by omega]
    exact vec_getD c k hk
  unfold lacksB
  rw [Bool.or_eq_false_iff, Bool.not_eq_false', decide_eq_true_iff, List.any_eq_false]
  constructor
  · rintro ⟨hw, hm⟩ d hd hh
    rcases hh with q | q
    · left
      have hr := mayD_iff.1 hd
      obtain ⟨r, s⟩ := d
      simp only at hr
      obtain ⟨k, hk⟩ : ∃ k : Nat, r = k + 1 := ⟨(r - 1).toNat, by omega⟩
      subst hk
      have hk5 : k < 5 := by omega
      have q' : s ≤ numX (vec c') ((k : Int) + 1, s) := q
      show s ≤ numX (vec c) ((k : Int) + 1, s)
      rw [e5 c' k s hk5] at q'
      rw [e5 c k s hk5]
      have := (wth_all c' c).1 hw k hk5
      omega
    · have := hm d q
      simp only [Bool.not_eq_true', Bool.not_eq_false] at this
      exact (hasB_iff.1 this).2
  · intro h
    refine ⟨(wth_all c' c).2 fun k hk => ?_, fun d hd => ?_⟩
    · refine Int.not_lt.1 fun hlt => ?_
      have b1 := at5_bd c k
      have b2 := at5_bd c' k
      have hmay : mayD ((k : Int) + 1, at5 c k + 1) = true := mayD_iff.2 ⟨by show 1 ≤ (k : Int) + 1; omega, by show (k : Int) + 1 ≤ 5; omega, by show 1 ≤ at5 c k + 1; omega, by show at5 c k + 1 ≤ 1048576; omega⟩
      have hx := h _ hmay (.inl (by show at5 c k + 1 ≤ numX (vec c') ((k : Int) + 1, at5 c k + 1); rw [e5 c' k _ hk]; omega))
      rcases hx with q | q
      · have q' : at5 c k + 1 ≤ numX (vec c) ((k : Int) + 1, at5 c k + 1) := q
        rw [e5 c k _ hk] at q'
        omega
      · have q2 := (h1.2.2 _ q).2
        have q' : numX (vec c) ((k : Int) + 1, at5 c k + 1) + 1 < at5 c k + 1 := q2
        rw [e5 c k _ hk] at q'
        omega
    · have hmd := (h2.2.2 d hd).1
      have := hasB_iff.2 ⟨hmd, h d hmd (.inr hd)⟩
      rw [this]
      simp

set_option maxHeartbeats 400000 in
theorem lack1_any (G : Nat) (pa pm : Option Addr) (na ca nm cm : Nat) (c : List Int) (m : List Dot) (d : Dot) (w : World) (c0 : w.cell? ⟨G, 0, none⟩ = some (.slice pa na ca)) (c1 : w.cell? ⟨G, 1, none⟩ = some (.slice pm nm cm)) (hN : NS w pa na c) (hD : DS w pm nm m) (hS : SrtD m) (hn : nm ≤ 1000) :
    Calls Try.prog 50 #[.agg #[.int .i64 d.1, .int .i64 d.2], .pointer (some ⟨G, 0, none⟩)] w fun e w' => e = .returned (.bool (!hasB c m d)) ∧ Below w.heap.size w w' := by
  have HH := hide (has_any pa pm na ca nm cm c m d (w.alloc (bxD d.1 d.2)) (hN.alloc _) (hD.alloc _) hS hn)
  obtain ⟨r, s⟩ := d
  generalize hasB c m (r, s) = bb at *
  have e0 := cell_old (bxD r s) c0
  have e1 := cell_old (bxD r s) c1
  clear hN hD hS
  go_enter Try.func50, Try.ntmps50
  go_wp2_with (go_at_call 42; refine HH.out.mono ?_; rintro e w' ⟨rfl, hb⟩)
  go_ret
  exact ⟨rfl, bel_next (bel1 _ _) hb⟩

set_option maxHeartbeats 1000000 in
theorem index_any (G : Nat) (pa pm : Option Addr) (na ca nm cm : Nat) (c : List Int) (m : List Dot) (a : Option Addr) (n cap : Nat) (l : List Dot) (w : World) (c0 : w.cell? ⟨G, 0, none⟩ = some (.slice pa na ca)) (c1 : w.cell? ⟨G, 1, none⟩ = some (.slice pm nm cm)) (hN : NS w pa na c) (hD : DS w pm nm m) (hS : SrtD m) (hn : nm ≤ 1000) (hL : DS w a n l) :
    Calls Try.prog 64 #[.slice a n cap, .func (.func 50) #[] #[.pointer (some ⟨G, 0, none⟩)]] w fun e w' => (∃ i : Int, e = .returned (.int .i64 i) ∧ decide (i ≥ 0) = l.any (fun d => !hasB c m d)) ∧ Below w.heap.size w w' := by
  have HL1 := hide (fun d W e0 e1 h1 h2 => lack1_any G pa pm na ca nm cm c m d W e0 e1 h1 h2 hS hn)
  have HN := hide hN
  have HD := hide hD
  have HC0 := hide c0
  have HC1 := hide c1
  obtain ⟨hlen, hmax, hcells⟩ := hL
  unfold maxLen at hmax
  have HL := hide hlen
  have HC := hide hcells
  clear hlen hcells hN hD hS c0 c1
  go_enter Try.func64, Try.ntmps64
  go_wp2
  go_loopw [8] (fun i wr => ∃ k : Nat, k ≤ n ∧ i = .int .i64 k ∧ Below w.heap.size w wr ∧ Hid (l.any (fun d => !hasB c m d) = (l.drop k).any (fun d => !hasB c m d))) (fun i _ => n - (intOf i).toNat)
  case atStart => exact ⟨0, by omega, rfl, Below.refl _ _, by unfold Hid; simp⟩
  case round =>
    obtain ⟨k, hk, rfl, hbel, hH⟩ := hrel
    by_cases hlt : k < n
    · rcases HC.out with h0 | ⟨b, off, rfl, hc⟩
      · omega
      · have x0 := bcell hbel (hc k hlt).1
        have x1 := bcell hbel (hc k hlt).2
        have hst : Hid (l.any (fun d => !hasB c m d) = ((!hasB c m (l.getD k (0, 0))) || (l.drop (k + 1)).any (fun d => !hasB c m d))) := by
          have h2 := hH.out
          have hk2 : k < l.length := by rw [HL.out]; exact hlt
          rw [List.drop_eq_getElem_cons hk2, List.any_cons] at h2
          unfold Hid
          rw [h2]
          simp [List.getD_eq_getElem?_getD, hk2]
        have HLk := hide (HL1.out (l.getD k (0, 0)) wr (bcell hbel HC0.out) (bcell hbel HC1.out) (HN.out.below hbel) (HD.out.below hbel))
        have HBl := hide hbel
        clear hc hH hbel
        generalize l.getD k (0, 0) = x at x0 x1 hst HLk
        obtain ⟨r, s⟩ := x
        rcases hb : hasB c m (r, s) with _ | _
        · have HE : Hid (true = l.any (fun d => !hasB c m d)) := by have h2 := hst.out; rw [hb] at h2; unfold Hid; rw [h2]; rfl
          rw [hb] at HLk
          clear hst hb
          go_wp2_with (go_at_call 50; refine HLk.out.mono ?_; rintro e w' ⟨rfl, hb2⟩)
          go_ret
          exact ⟨⟨k, rfl, by rw [← HE.out]; exact decide_eq_true (by omega)⟩, bel_next HBl.out hb2⟩
        · have hst2 : Hid (l.any (fun d => !hasB c m d) = (l.drop (k + 1)).any (fun d => !hasB c m d)) := by have h2 := hst.out; rw [hb] at h2; unfold Hid; simpa using h2
          rw [hb] at HLk
          clear hst hb
          go_wp2_with (go_at_call 50; refine HLk.out.mono ?_; rintro e w' ⟨rfl, hb2⟩)
          go_roundw
          case rel => exact ⟨k + 1, by omega, by go_num, bel_next HBl.out hb2, hst2⟩
          case measure => simp [intOf]; omega
    · have hkl : k = n := by omega
      subst hkl
      have HE : Hid (false = l.any (fun d => !hasB c m d)) := by
        have h2 := hH.out
        rw [List.drop_of_length_le (by rw [HL.out]; exact Nat.le_refl _)] at h2
        unfold Hid; rw [h2]; rfl
      have HBl := hide hbel
      clear hH hbel
      go_wp2
      go_ret
      exact ⟨⟨-1, rfl, by rw [← HE.out]; rfl⟩, HBl.out⟩
theorem contains_any (G : Nat) (pa pm : Option Addr) (na ca nm cm : Nat) (c : List Int) (m : List Dot) (a : Option Addr) (n cap : Nat) (l : List Dot) (w : World) (c0 : w.cell? ⟨G, 0, none⟩ = some (.slice pa na ca)) (c1 : w.cell? ⟨G, 1, none⟩ = some (.slice pm nm cm)) (hN : NS w pa na c) (hD : DS w pm nm m) (hS : SrtD m) (hn : nm ≤ 1000) (hL : DS w a n l) :
    Calls Try.prog 49 #[.slice a n cap, .func (.func 50) #[] #[.pointer (some ⟨G, 0, none⟩)]] w fun e w' => e = .returned (.bool (l.any (fun d => !hasB c m d))) ∧ Below w.heap.size w w' := by
  have HI := hide (index_any G pa pm na ca nm cm c m a n cap l w c0 c1 hN hD hS hn hL)
  clear hN hD hS hL c0 c1
  generalize l.any (fun d => !hasB c m d) = bb at *
  go_enter Try.func49, Try.ntmps49
  go_wp2_with (go_at_call 64; refine HI.out.mono ?_; rintro e w' ⟨⟨i, rfl, hi⟩, hb⟩; have Hi := hide hi; clear hi)
  go_ret
  exact ⟨retB Hi.out, hb⟩

set_option maxHeartbeats 1000000 in
theorem Lacks_any (pa pm : Option Addr) (na ca nm cm : Nat) (c : List Int) (m : List Dot) (qa qm : Option Addr) (ja ba jm bm : Nat) (c' : List Int) (m' : List Dot) (w : World) (hN : NS w pa na c) (hD : DS w pm nm m) (hN' : NS w qa ja c') (hD' : DS w qm jm m') :
    Calls Try.prog 25 #[.agg #[.slice pa na ca, .slice pm nm cm], .agg #[.slice qa ja ba, .slice qm jm bm]] w fun e w' => e = .returned (.bool (seenB c m && seenB c' m' && lacksB c m c' m')) ∧ Below w.heap.size w w' := by
  have HKa := hide (fun W (h : NS W pa na c) (k : DS W pm nm m) => Check_any pa pm na ca nm cm c m W h k)
  have HKb := hide (fun W (h : NS W qa ja c') (k : DS W qm jm m') => Check_any qa qm ja ba jm bm c' m' W h k)
  have HN := hide hN
  have HD := hide hD
  have HN' := hide hN'
  have HD' := hide hD'
  have c0 : ((w.alloc (bxS pa pm na ca nm cm)).alloc (bxS qa qm ja ba jm bm)).cell? ⟨w.heap.size, 0, none⟩ = some (.slice pa na ca) := cell_old _ (cell_new w _ _ _ rfl 0 _ rfl)
  have c1 : ((w.alloc (bxS pa pm na ca nm cm)).alloc (bxS qa qm ja ba jm bm)).cell? ⟨w.heap.size, 1, none⟩ = some (.slice pm nm cm) := cell_old _ (cell_new w _ _ _ rfl 1 _ rfl)
  have c2 : ((w.alloc (bxS pa pm na ca nm cm)).alloc (bxS qa qm ja ba jm bm)).cell? ⟨w.heap.size + 1, 0, none⟩ = some (.slice qa ja ba) := cell_new _ _ _ _ (by simp) 0 _ rfl
  have c3 : ((w.alloc (bxS pa pm na ca nm cm)).alloc (bxS qa qm ja ba jm bm)).cell? ⟨w.heap.size + 1, 1, none⟩ = some (.slice qm jm bm) := cell_new _ _ _ _ (by simp) 1 _ rfl
  have HU := hide (bel2 w (bxS pa pm na ca nm cm) (bxS qa qm ja ba jm bm))
  clear hN hD hN' hD'
  rcases hs : seenB c m with _ | _
  · have hk := chkS_bad hs
    rw [← hk] at HKa
    clear hk hs
    go_enter Try.func25, Try.ntmps25
    go_wp2_with fail
    refine Calls.mono (HKa.out _ (HN.out.below HU.out) (HD.out.below HU.out)) ?_
    rintro e u ⟨rfl, hb⟩
    go_wp2
    go_ret
    exact ⟨rfl, bel_next HU.out hb⟩
  · have hk := chkS_good hs
    rw [← hk] at HKa
    have hg := seen_good hs
    clear hk hs
    rcases hs' : seenB c' m' with _ | _
    · have hk := chkS_bad hs'
      rw [← hk] at HKb
      clear hk hs' hg
      go_enter Try.func25, Try.ntmps25
      go_wp2_with fail
      refine Calls.mono (HKa.out _ (HN.out.below HU.out) (HD.out.below HU.out)) ?_
      rintro e u ⟨rfl, hb⟩
      replace c0 := bcell hb c0
      replace c1 := bcell hb c1
      replace c2 := bcell hb c2
      replace c3 := bcell hb c3
      replace HU := hide (bel_next HU.out hb)
      clear hb
      go_wp2_with fail
      refine Calls.mono (HKb.out _ (HN'.out.below HU.out) (HD'.out.below HU.out)) ?_
      rintro e u2 ⟨rfl, hb⟩
      go_wp2
      go_ret
      exact ⟨rfl, bel_next HU.out hb⟩
    · have hk := chkS_good hs'
      rw [← hk] at HKb
      clear hk hs'
      have HW := hide (fun W (h1 : NS W qa ja c') (h2 : NS W pa na c) => Within_any qa pa ja ba na ca c' c W h1 h2 (decide (wth c' c)) rfl)
      have HCo := hide (fun W e0 e1 h1 h2 h3 => contains_any w.heap.size pa pm na ca nm cm c m qm jm bm m' W e0 e1 h1 h2 hg.1.2.1 (by have := HD.out.1; have := hg.2.2.2; omega) h3)
      have HE : Hid (lacksB c m c' m' = (!decide (wth c' c) || m'.any (fun d => !hasB c m d))) := rfl
      generalize m'.any (fun d => !hasB c m d) = bb at *
      clear hg
      rcases hw : decide (wth c' c) with _ | _
      · rw [hw] at HW HE
        have HE2 : Hid (true = (true && true && lacksB c m c' m')) := by unfold Hid; rw [HE.out]; rfl
        clear hw HE HCo
        go_enter Try.func25, Try.ntmps25
        go_wp2_with fail
        refine Calls.mono (HKa.out _ (HN.out.below HU.out) (HD.out.below HU.out)) ?_
        rintro e u ⟨rfl, hb⟩
        replace c0 := bcell hb c0
        replace c1 := bcell hb c1
        replace c2 := bcell hb c2
        replace c3 := bcell hb c3
        replace HU := hide (bel_next HU.out hb)
        clear hb
        go_wp2_with fail
        refine Calls.mono (HKb.out _ (HN'.out.below HU.out) (HD'.out.below HU.out)) ?_
        rintro e u2 ⟨rfl, hb⟩
        replace c0 := bcell hb c0
        replace c1 := bcell hb c1
        replace c2 := bcell hb c2
        replace c3 := bcell hb c3
        replace HU := hide (bel_next HU.out hb)
        clear hb
        go_wp2_with fail
        refine Calls.mono (HW.out _ (HN'.out.below HU.out) (HN.out.below HU.out)) ?_
        rintro e u3 ⟨rfl, hb⟩
        go_wp2
        go_ret
        exact ⟨retB HE2.out, bel_next HU.out hb⟩
      · rw [hw] at HW HE
        have HE2 : Hid (bb = (true && true && lacksB c m c' m')) := by unfold Hid; rw [HE.out]; rfl
        clear hw HE
        go_enter Try.func25, Try.ntmps25
        go_wp2_with fail
        refine Calls.mono (HKa.out _ (HN.out.below HU.out) (HD.out.below HU.out)) ?_
        rintro e u ⟨rfl, hb⟩
        replace c0 := bcell hb c0
        replace c1 := bcell hb c1
        replace c2 := bcell hb c2
        replace c3 := bcell hb c3
        replace HU := hide (bel_next HU.out hb)
        clear hb
        go_wp2_with fail
        refine Calls.mono (HKb.out _ (HN'.out.below HU.out) (HD'.out.below HU.out)) ?_
        rintro e u2 ⟨rfl, hb⟩
        replace c0 := bcell hb c0
        replace c1 := bcell hb c1
        replace c2 := bcell hb c2
        replace c3 := bcell hb c3
        replace HU := hide (bel_next HU.out hb)
        clear hb
        go_wp2_with fail
        refine Calls.mono (HW.out _ (HN'.out.below HU.out) (HN.out.below HU.out)) ?_
        rintro e u3 ⟨rfl, hb⟩
        replace c0 := bcell hb c0
        replace c1 := bcell hb c1
        replace c2 := bcell hb c2
        replace c3 := bcell hb c3
        replace HU := hide (bel_next HU.out hb)
        clear hb
        go_wp2_with fail
        refine Calls.mono (HCo.out _ c0 c1 (HN.out.below HU.out) (HD.out.below HU.out) (HD'.out.below HU.out)) ?_
        rintro e u4 ⟨rfl, hb⟩
        go_wp2
        go_ret
        exact ⟨retB HE2.out, bel_next HU.out hb⟩
end Go.Proofs.Ytccpbkemiilgcaa
