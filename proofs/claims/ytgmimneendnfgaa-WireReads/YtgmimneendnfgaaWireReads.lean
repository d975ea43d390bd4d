/- For every two numbers and every texts: the statement 'WireReads' returns true, and its arguments read behind the call as they read before. No condition. -/
import Derived.Test.YtgmimneendnfgaaRows
import Derived.WalkKit
import Derived.ProofKit
import Derived.OpenShut
import Derived.ShutString
import Derived.ChangeOld
import Derived.Below
import Derived.SizedLaws
import Derived.Test.YtgmimneendnfgaaWOrd
namespace Go.Proofs.Ytgmimneendnfgaa.wireReads
open Go.ChangeShapes Go.WideShapes Go.ChangeAt Go.RowKit
set_option linter.unusedVariables false

theorem own : ownKnob Try.prog.godebug = none := by kernel_rfl
theorem laidOut : laidOutB Try.prog = true := by kernel_rfl

/-! ### The walk -/
theorem pack_by {ps : List (List Int)} (h : ∀ p ∈ ps, By p) : By (pack ps) := (num_by _).append (By.flat fun p hp => text_by (h p hp))
theorem packs_as (a b : Option Addr) (n c m d : Nat) (l k : List (List Int)) (w : World) (h : l = k) (hA : PC w a n l) (hB : PC w b m k) :
    Calls Try.prog 24 #[.slice a n c, .slice b m d] w fun e w' => e = .returned (.bool true) ∧ Below w.heap.size w w' := by
  have := packs_any a b n c m d l k w hA hB
  rw [show decide (l = k) = true from decide_eq_true h] at this
  exact this
theorem pack_len (ps : List (List Int)) (hn : ps.length ≤ 60) (h : ∀ p ∈ ps, p.length ≤ 4000) : (pack ps).length ≤ 1000000 := by
  have h1 : ∀ qs : List (List Int), (∀ p ∈ qs, p.length ≤ 4000) → (qs.flatMap text).length ≤ qs.length * 4009 := by
    intro qs
    induction qs with
    | nil => intro _; simp
    | cons q qs ih =>
      intro h
      have h2 := ih fun p hp => h p (List.mem_cons_of_mem _ hp)
      have h3 := text_len q
      have h4 := h q (List.mem_cons_self ..)
      rw [List.flatMap_cons, List.length_append, List.length_cons]
      omega
  have h2 := h1 ps h
  have h3 := nb_le ps.length
  unfold pack
  rw [List.length_append, num_len]
  omega
theorem str_of {w : World} {p : Option Addr} {n c : Nat} {l : List Int} (h : BS w p n l) (hn : 0 < n) : (convert 27 9 (.slice p n c)).run Try.prog w = .ok (.string (strOfNums l)) w := by
  obtain ⟨g1, g2, g3, g4⟩ := h
  rcases g4 with h0 | ⟨b, off, rfl, hc⟩
  · omega
  · exact run_convert_bytes_arg (P := Try.prog) w 27 5 Try.underlying27 Try.underlying5 b off n c l g1 hc 9 Try.underlying9

set_option maxHeartbeats 16000000 in
set_option maxRecDepth 100000 in
theorem walk (a0 : Int) (a1 : Int) (v2 : Value) (w : World) (w0 : (Lit.int .u64 a0).wf = true) (w1 : (Lit.int .u64 a1).wf = true) (w2 : InT w v2) :
    Calls Try.prog 5 #[.int .u64 a0, .int .u64 a1, v2] w fun e w' => e = .returned (.bool true) ∧ Below w.heap.size w w' := by
  obtain ⟨a, n, cap, ps, rfl, hP, hC, hn, hps⟩ := w2
  have HP := hide hP
  have Hl := hide hP.1
  have Hps := hide hps
  have Hn := hide hn
  have hu : 0 ≤ a0 ∧ a0 < 18446744073709551616 := by simp [Lit.wf, IntKind.min, IntKind.max, IntKind.bits, IntKind.signed] at w0; omega
  have hv : 0 ≤ a1 ∧ a1 < 18446744073709551616 := by simp [Lit.wf, IntKind.min, IntKind.max, IntKind.bits, IntKind.signed] at w1; omega
  obtain ⟨hu0, hu1⟩ := hu
  obtain ⟨hv0, hv1⟩ := hv
  clear hP hps hn w0 w1 hC
  go_enter Try.func5, Try.ntmps5
  go_wp2_with fail
  refine (light_any a n cap ps w HP.out Hn.out Hps.out).mono ?_
  rintro e w1 ⟨r, rfl, rfl, hr⟩
  have Hr := hide hr
  clear hr
  rcases r with _ | _
  · go_wp2_with fail
    refine (awake_any w1).mono ?_
    rintro e w' ⟨rfl, hb⟩
    have Hb := hide hb
    clear hb
    go_wp2
    go_ret
    exact ⟨rfl, Hb.out⟩
  · have hn60 := (Hr.out rfl).1
    have H4 := hide (Hr.out rfl).2
    have hnI : (n : Int) ≤ 60 := by omega
    have Hn60 := hide hn60
    have hP60 : Hid (∀ p ∈ ps, p.length ≤ 100000) := fun p hp => Nat.le_trans (H4.out p hp) (by decide)
    have hP6 : Hid (∀ p ∈ ps, p.length ≤ 65536) := fun p hp => Nat.le_trans (H4.out p hp) (by decide)
    have hP1000 : Hid (n ≤ 1000) := Nat.le_trans hn60 (by decide)
    have hbyP := hide (pack_by HP.out.by)
    have hpl := hide (pack_len ps (by rw [Hl.out]; exact hn60) H4.out)
    have hla := num_len a0
    have hlb := num_len a1
    have hl9 := nb_le a0
    have hl8 := nb_le a1
    have Hla : Hid ((num a0).length ≤ 9 ∧ (num a1).length ≤ 9 ∧ 0 < (num a0).length ∧ 0 < (num a1).length) := by show _ ∧ _; omega
    clear hn60 Hr Hn Hps hla hlb hl9 hl8
    go_wp2_with fail
    refine (num_any a0 w1 hu0 hu1).mono ?_
    rintro e w2 ⟨v2, rfl, hown2, hb2⟩
    obtain ⟨p2, c2, rfl, hbs2, hcp2⟩ := hown2.open (num_by a0)
    obtain ⟨na, hna⟩ : ∃ na, na = (num a0).length := ⟨_, rfl⟩
    rw [← hna] at hbs2 hcp2 Hla ⊢
    have Hna := hide hna
    have HA2 := hide hbs2
    have Hca := hide hcp2.2.2
    have HZ2 := hide hb2
    clear hown2 hbs2 hcp2 hb2 hna
    go_wp2_with fail
    refine (num_any a1 w2 hv0 hv1).mono ?_
    rintro e w3 ⟨v3, rfl, hown3, hb3⟩
    obtain ⟨p3, c3, rfl, hbs3, hcp3⟩ := hown3.open (num_by a1)
    obtain ⟨mb, hmb⟩ : ∃ mb, mb = (num a1).length := ⟨_, rfl⟩
    rw [← hmb] at hbs3 hcp3 Hla ⊢
    have Hmb := hide hmb
    clear hmb
    have HB3 := hide hbs3
    have Hcb := hide hcp3.2.2
    have HA3 := hide (HA2.out.below hb3)
    have HZ3 := hide (HZ2.out.trans (hb3.mono HZ2.out.size))
    clear hown3 hbs3 hcp3 hb3 HA2 HZ2
    go_wp2_with (at_builtin; refine Stop.at ?_)
    unfold Stop
    refine append_bytes rfl _ _ rfl w3.heap.size _ [] (num a0) rfl (Own.made w3 w3.heap.size _ rfl (Nat.le_refl _)) p2 _ c2 rfl Hca.out (HA3.out.alloc _) (by have := Hla.out; have := Hna.out; simp; omega) (by simp) ?_
    intro v4 w4 hown4 hgrow4 hbel4
    rw [List.nil_append] at hown4
    have Hown4 := hide hown4
    have HE4 := hide (hbel4 w3 ((Below.refl _ w3).alloc (Nat.le_refl _) _))
    clear hown4 hgrow4 hbel4
    go_wp2_with (at_builtin; refine Stop.at ?_)
    unfold Stop
    refine append_bytes rfl _ _ rfl w3.heap.size _ (num a0) (num a1) rfl Hown4.out p3 _ c3 rfl Hcb.out (HB3.out.below HE4.out) (by have := Hla.out; have := Hna.out; have := Hmb.out; omega) HE4.out.size ?_
    intro v5 w5 hown5 hgrow5 hbel5
    obtain ⟨p5, c5, rfl, hbs5, hcp5⟩ := hown5.open ((num_by a0).append (num_by a1))
    have HS5 := hide hbs5
    have HC5 := hide hcp5
    have HE5 := hide (hbel5 w3 HE4.out)
    have HA5 := hide (HA3.out.below HE5.out)
    have HB5 := hide (HB3.out.below HE5.out)
    have HZ5 := hide (HZ3.out.trans (HE5.out.mono HZ3.out.size))
    have HP5 := hide (HP.out.below HZ5.out)
    clear hown5 hgrow5 hbel5 hbs5 hcp5 HE4 HE5 Hown4 HA3 HB3 HZ3
    obtain ⟨n5, hn5⟩ : ∃ n5, n5 = (num a0 ++ num a1).length := ⟨_, rfl⟩
    rw [← hn5] at HS5 HC5 ⊢
    clear hn5
    go_wp2_with fail
    refine (getNum_any _ _ _ _ w5 HS5.out HC5.out).mono ?_
    rintro e w6 ⟨(⟨hg, rfl⟩ | ⟨x', m', hg, rfl⟩), rfl⟩
    · rw [getNum_num a0 hu0 hu1] at hg; cases hg
    obtain ⟨rfl, rfl⟩ : a0 = x' ∧ na = m' := by rw [getNum_num a0 hu0 hu1, ← Hna.out] at hg; simpa using hg
    clear hg HS5 HC5
    go_wp2_with fail
    refine (pack_any _ _ _ ps w6 HP5.out hP1000.out hP60.out).mono ?_
    rintro e w7 ⟨v7, rfl, hown7, hb7⟩
    obtain ⟨p7, c7, rfl, hbs7, hcp7⟩ := hown7.open hbyP.out
    have HS7 := hide hbs7
    have HC7 := hide hcp7.2.2
    have HA7 := hide (HA5.out.below hb7)
    have HB7 := hide (HB5.out.below hb7)
    have HP7 := hide (HP5.out.below hb7)
    have HZ7 := hide (HZ5.out.trans (hb7.mono HZ5.out.size))
    clear hown7 hbs7 hcp7 hb7 HA5 HB5 HP5 HZ5
    obtain ⟨np, hnp⟩ : ∃ np, np = (pack ps).length := ⟨_, rfl⟩
    rw [← hnp] at HS7 ⊢
    have Hnp := hide hnp
    clear hnp
    go_wp2_with (at_builtin; refine Stop.at ?_)
    unfold Stop
    refine append_bytes rfl _ _ rfl w7.heap.size _ [] (pack ps) rfl (Own.made w7 w7.heap.size _ rfl (Nat.le_refl _)) p7 _ c7 rfl HC7.out (HS7.out.alloc _) (by have := hpl.out; simp; omega) (by simp) ?_
    intro v8 w8 hown8 hgrow8 hbel8
    rw [List.nil_append] at hown8
    have Hown8 := hide hown8
    have HE8 := hide (hbel8 w7 ((Below.refl _ w7).alloc (Nat.le_refl _) _))
    clear hown8 hgrow8 hbel8
    go_wp2_with (at_builtin; refine Stop.at ?_)
    unfold Stop
    refine append_bytes rfl _ _ rfl w7.heap.size _ (pack ps) (num a0) rfl Hown8.out p2 _ c2 rfl Hca.out (HA7.out.below HE8.out) (by have := Hla.out; have := Hna.out; have := hpl.out; omega) HE8.out.size ?_
    intro v9 w9 hown9 hgrow9 hbel9
    obtain ⟨p9, c9, rfl, hbs9, hcp9⟩ := hown9.open (hbyP.out.append (num_by a0))
    have HS9 := hide hbs9
    have HC9 := hide hcp9
    have HE9 := hide (hbel9 w7 HE8.out)
    have HA9 := hide (HA7.out.below HE9.out)
    have HB9 := hide (HB7.out.below HE9.out)
    have HP9 := hide (HP7.out.below HE9.out)
    have HZ9 := hide (HZ7.out.trans (HE9.out.mono HZ7.out.size))
    have hup := hide (unpack_pack ps (by rw [Hl.out]; omega) hP6.out (num a0) (n : Int) (by rw [Hl.out]; exact Int.le_refl _))
    clear hown9 hgrow9 hbel9 hbs9 hcp9 HE8 HE9 Hown8 HA7 HB7 HP7 HZ7 HS7
    obtain ⟨n9, hn9⟩ : ∃ n9, n9 = (pack ps ++ num a0).length := ⟨_, rfl⟩
    rw [← hn9] at HS9 HC9 ⊢
    clear hn9
    go_wp2_with fail
    refine (unpack_any _ _ _ _ (n : Int) w9 HS9.out HC9.out (by omega) (by omega)).mono ?_
    rintro e w10 ⟨(⟨hg, rfl⟩ | ⟨qs, j', v, hg, rfl, hown⟩), hb⟩
    · rw [hup.out] at hg; cases hg
    obtain ⟨hqs, hj⟩ : ps = qs.map (·.2) ∧ (pack ps).length = j' := by rw [hup.out] at hg; simpa using hg
    have hj : j' = np := by rw [← hj, Hnp.out]
    subst hj
    obtain ⟨p10, c10, rfl, hpc, hcc⟩ := hown.open
    have HQ10 := hide hpc
    have Hqs := hide hqs
    have HA10 := hide (HA9.out.below hb)
    have HB10 := hide (HB9.out.below hb)
    have HP10 := hide (HP9.out.below hb)
    have HZ10 := hide (HZ9.out.trans (hb.mono HZ9.out.size))
    clear hg hqs hown hpc hcc hb HA9 HB9 HP9 HZ9 HS9 HC9
    go_wp2_with fail
    refine (packs_as _ _ _ _ _ _ _ _ w10 Hqs.out.symm HQ10.out HP10.out).mono ?_
    rintro e w11 ⟨rfl, hb⟩
    have HZ11 := hide (HZ10.out.trans (hb.mono HZ10.out.size))
    have hsA := str_of (c := c2) (HA10.out.below hb) Hla.out.2.2.1
    have hsB := str_of (c := c3) (HB10.out.below hb) Hla.out.2.2.2
    have hless := str_less a0 a1 hu0 hu1 hv0 hv1
    clear hb HA10 HB10 HP10 HQ10 HZ10
    go_wp2_with fail
    refine (awake_any _).mono ?_
    rintro e w12 ⟨rfl, hb⟩
    have Hb := hide hb
    clear hb
    go_wp2
    go_ret
    exact ⟨rfl, HZ11.out.trans (Hb.out.mono HZ11.out.size)⟩

/-! ### The row's step -/
set_option maxRecDepth 100000 in
theorem lifted (os : Os) (started : os.Started) (H : Type) (enc : TypeId × Value → H) :
    ReturnsInHanded {} Try.checked os 5 .any (Rows.wireReadsSpec.pre6 enc Try.prog Try.f5 Rows.wireReadsRow.domain false) (Rows.wireReadsSpec.post enc Try.prog Try.f5 false true false false) := by
  refine returnsInHanded_of_change_sized (C := Try.checked) own started (by kernel_rfl) Try.func5
    (ChangeSpec.witness6 (enc := enc) (C := Try.checked) false ⟨#[], #[.int .u64 0, .int .u64 0, .slice none 0 0], []⟩ 8 (by kernel_rfl) (by kernel_rfl) (by kernel_rfl) (by kernel_rfl)) ?_
  intro W base args ds gs before hval0 hW hcnd hz0 _
  have hval : ∀ (j : Nat) t v, Try.f5.params[j]? = some t → args[j]? = some v → Value.okWide Try.prog W .any base t v := hval0
  have hz : (DataW.weightsEach Try.prog (Try.f5.params.toList ++ Rows.wireReadsSpec.plain.varTypes Try.prog) (ds ++ gs)).all (· ≤ reachBytes) = true := hz0
  have hW' := hW
  obtain ⟨p, q, hA0, hV, rfl, hfz, hnd⟩ := hW
  have hA : DataW.TrodAll enc Try.prog W 0 (fun _ => true) true Try.f5.params.toList args.toList ds p := hA0
  rw [Try.params5] at hA hval hz
  obtain ⟨v0, vs0, d0, ds0, p0, q0, hargs, rfl, rfl, h0, r0⟩ := trodAll_cons hA
  obtain ⟨v1, vs1, d1, ds1, p1, q1, rfl, rfl, rfl, h1, r1⟩ := trodAll_cons r0
  obtain ⟨v2, vs2, d2, ds2, p2, q2, rfl, rfl, rfl, h2, r2⟩ := trodAll_cons r1
  obtain ⟨rfl, rfl, rfl⟩ := trodAll_nil r2
  obtain rfl : args = #[v0, v1, v2] := by cases args; simp_all
  obtain ⟨rfl, rfl⟩ := trodVars_none hV
  obtain ⟨a0, rfl, rfl, rfl, w0⟩ := open_int Try.underlying22 (hval 0 22 v0 rfl rfl) h0
  obtain ⟨a1, rfl, rfl, rfl, w1⟩ := open_int Try.underlying22 (hval 1 22 v1 rfl rfl) h1
  have k2 := h2
  have lt2 : ∀ x ∈ p2, x.block < W.heap.size := by obtain ⟨m, hm⟩ := k2; exact DataW.trod_lt m _ _ _ hm
  have w2 : InT W v2 := in_texts (hval 2 23 v2 rfl rfl) h2 (fun n hn => by have := List.all_eq_true.1 hz n (DataW.weights_mem_each (j := 2) (t := 23) rfl rfl n hn); simpa using this)
  clear hA0 hval0 hz0
  refine (walk a0 a1 v2 W w0 w1 w2).mono fun e W' ⟨he, bel⟩ => ?_
  subst he
  exact ⟨_, rfl, _, _, _, [], _, [], hW', trodAll_mk1 (shut_bool Try.underlying4 _), (trodAll_cons_mk (shut_int Try.underlying22 w0) (trodAll_cons_mk (shut_int Try.underlying22 w1) (trodAll_cons_mk (Below.trod laidOut (by kernel_rfl) (of_decide_eq_true (by kernel_rfl)) k2 bel lt2) trodAll_mk0))), rfl, bel.frame _, fun h => by cases h⟩

theorem over : Rows.wireReadsRow.holds Try.pinned (OpenSpec.ofChange Rows.wireReadsSpec) :=
  OpenClaim.holds_of_wide 5 Try.f5 rfl rfl rfl rfl rfl rfl rfl ⟨rfl, rfl, rfl, rfl, rfl⟩ rfl rfl rfl rfl rfl (by kernel_rfl) Try.func5 (by kernel_rfl)
    (of_decide_eq_true (by kernel_rfl)) (by unfold Func.isWrapper; first | (rw [if_pos (by decide +kernel)]; kernel_rfl) | (rw [if_neg (by decide +kernel)]; exact ⟨rfl, rfl⟩))
    (fun os started H enc _ => lifted os started H enc)
end Go.Proofs.Ytgmimneendnfgaa.wireReads
namespace Go.Proofs.Ytgmimneendnfgaa
theorem wireReads_holds : Rows.WireReadsSaid := wireReads.over
end Go.Proofs.Ytgmimneendnfgaa
