/- Lines of the document (layer 15). -/
import Derived.Test.YtadmibfnjhockaaDoorN5
namespace Go.Proofs.YtadmibfnjhockaaDoor
open Go.RowKit Go.Lib
set_option linter.unusedVariables false
theorem drop_atT {l : List Tk} {i : Nat} {c : Tk} (h : l[i]? = some c) : l.drop i = c :: l.drop (i + 1) := by
  obtain ⟨hi, rfl⟩ := List.getElem?_eq_some_iff.1 h
  exact List.drop_eq_getElem_cons hi
theorem lexB_l15 (l : List Int) : (lexB l).1.length ≤ 800 := by
  unfold lexB
  split
  · simp
  · unfold finL
    split
    · simp
    · split
      · simp
      · simp only [List.length_append, List.length_singleton]; omega
theorem KS.rest {w : World} {b off n cap : Nat} {s : List Tk} (h : KS w (some ⟨b, off, none⟩) n s) (i : Nat) (hi : i ≤ n) (hc : n ≤ cap) : KS w (if cap = i then some ⟨b, off, none⟩ else some ⟨b, off + i * 4, none⟩) (n - i) (s.drop i) := by
  rcases Nat.lt_or_ge i n with hlt | hge
  · rw [if_neg (by omega)]
    exact RS.mid (k := 4) h i hi
  · have e : n - i = 0 := by omega
    rw [e, List.drop_eq_nil_of_le (by rw [h.1]; exact hge)]
    exact RS.nil _ _
def slN15 : Value → Nat
  | .slice _ n _ => n
  | _ => 0
theorem Tryd.infoDc : (Tryd.prog.info? 32).map (fun i => (i.zero, i.size, i.bytes)) = some (some (.agg #[.int .i64 0, .bool false, .string ⟨#[]⟩, .string ⟨#[]⟩, .int .i64 0, .slice none 0 0, .int .i64 0]), 7, 88) := by kernel_rfl
theorem decV_one (d : Dc) (p : Option Addr) (n c : Nat) : ∀ v ∈ (decV d p n c).toList, v.oneCell' = true := fun v hv => by
  simp only [decV, List.mem_cons, List.not_mem_nil, or_false] at hv
  rcases hv with rfl | rfl | rfl | rfl | rfl | rfl | rfl <;> rfl
def rowD (d : Dc) (p : Option Addr) (n c : Nat) : Row 7 := ⟨(decV d p n c).toList, rfl, decV_one d p n c⟩
theorem rdc_own {N M : Nat} {w : World} {p : Option Addr} {c : Nat} {d : Dc} {n : Nat} (hn : d.2.2.2.2.2.1.length = n) (h : OwnDd N w (.slice p n c) d.2.2.2.2.2.1) : ∃ F, RDc w (rowD d p n c).1 d F ∧ Fok M 32 w F := by
  subst hn
  obtain ⟨F, hf, hk⟩ := h.flf tyDE M
  obtain ⟨p', c', he, hr, hc⟩ := h.open encDd_len
  cases he
  exact ⟨F, ⟨p, _, c, rfl, hr, hc, hf⟩, hk⟩
/-- What Lines tells. -/
def LiP (s : ByteArray) (w : World) (e : Ending) (w' : World) : Prop := ∃ v ds x e0, e = .returned (.tuple #[v, .int .i64 x, .int .i64 e0]) ∧ linB (bytesL s) = (ds, x, e0) ∧ OwnF 7 RDc 32 w.heap.size w' v ds ∧ Below w.heap.size w w'
def frS : Except (Int × Int) (List Dc) → List Dc × Int × Int
  | .error (x, e) => ([], x, e)
  | .ok out => (out, 0, 0)
theorem linQ_is {ts : List Tk} {x : Int} (r : Except (Int × Int) (List Dc)) (h : linS ts [] = r) : linQ (ts, x, 0) = frS r := by
  subst h
  rfl
set_option maxRecDepth 2000 in
set_option maxHeartbeats 8000000 in
theorem Lines15 (s : ByteArray) (w : World) (hm : s.size ≤ maxLen) : Calls Tryd.prog 8 #[.string s] w (LiP s w) := by
  have HRD := hide (fun W => ReadD14 s W hm)
  clear hm
  go_enter Tryd.func8, Tryd.ntmps8
  go_upto_region 2 with (go_at_call 16; refine (HRD.out _).mono ?_; rintro e w1 ⟨p, c, ts, x, e0, rfl, hl, hk, hc, hb⟩; have HL := hide hl; have HK := hide hk; have HC := hide hc; have HB := hide hb; clear hl hk hc hb)
  by_cases he : e0 = 0
  · subst he
    have HEN := hide (lexB_ends HL.out)
    have h8 : ts.length ≤ 800 := by have q := lexB_l15 (bytesL s); rw [HL.out] at q; exact q
    have HLQ : Hid (∀ r, linS ts [] = r → linB (bytesL s) = frS r) := fun r h => by unfold linB; rw [HL.out]; exact linQ_is r h
    clear HL HRD
    obtain ⟨nt, hnt⟩ : ∃ nt, ts.length = nt := ⟨_, rfl⟩
    rw [hnt] at HK HC h8 ⊢
    clear hnt
    have hb := bel1 w1 (.cells #[] 32)
    have HB1 : Hid (Below w1.heap.size w1 (w1.alloc (.cells #[] 32))) := hb
    have HBW := HB
    clear HB
    have HO1 : Hid (OwnF 7 RDc 32 w1.heap.size (w1.alloc (.cells #[] 32)) (.slice (some ⟨w1.heap.size, 0, none⟩) 0 0) []) := OwnF.made w1 _ _ rfl (Nat.le_refl _)
    clear hb
    go_wp2
    go_loopw [5, 8, 9, 10, 11] (fun vl vo _ _ _ wr => ∃ (lt : List Tk) (pl : Option Addr) (nl cl : Nat) (ds : List Dc), vl = .slice pl nl cl ∧ nl ≤ 800 ∧ ds.length ≤ 60 ∧ Hid (KS w1 pl nl lt) ∧ Hid (CP pl nl cl) ∧ Hid (EndT lt ∧ Txt0 lt) ∧ Hid (linS lt ds = linS ts []) ∧ Hid (OwnF 7 RDc 32 w1.heap.size wr vo ds) ∧ Hid (Below w1.heap.size w1 wr)) (fun vl _ _ _ _ _ => slN15 vl)
    case atStart => exact ⟨ts, p, nt, c, [], rfl, h8, by simp, HK, HC, HEN, rfl, HO1, HB1⟩
    case round =>
      obtain ⟨lt, pl, nl, cl, ds, rfl, hn8, hd60, HKS, HC, HE, HF, HO, HB⟩ := hrel
      clear HB1 HO1 HEN HK
      have HK := hide (HKS.out.below HB.out)
      have hlen := HK.out.1
      have hcl := HC.out.1
      rcases hltc : lt with _ | ⟨⟨kd, tx, nn, ln⟩, r⟩
      · have HRS : Hid (linS ts [] = .ok ds) := by unfold Hid; rw [← HF.out, hltc]; rfl
        rw [hltc] at hlen
        obtain rfl : nl = 0 := hlen.symm
        clear hlen hltc HF HE
        go_wp2
        go_ret3
        obtain ⟨po, co, hvo, hsf, hcp⟩ := HO.out.open
        cases hvo
        exact ⟨_, ds, 0, 0, rfl, HLQ.out _ HRS.out, HO.out.mono HBW.out.size, bel_next HBW.out HB.out⟩
      · rw [hltc, List.length_cons] at hlen
        obtain ⟨b, off, rfl⟩ := HK.out.addr (by omega)
        obtain ⟨kd', tx', nn', ln', hx, c0, c1, c2, c3⟩ := HK.out.at 0 (by omega)
        rw [hltc] at hx
        cases hx
        simp only [Nat.zero_mul, Nat.add_zero] at c0 c1 c2 c3
        have hn0 : (0 : Int) < (nl : Int) := by omega
        have hn1 : (1 : Int) ≤ (nl : Int) := by omega
        have hcn : (nl : Int) ≤ (cl : Int) := by omega
        by_cases hk0 : kd = 0
        · subst hltc
          clear hlen
          have HRS : Hid (linS ts [] = .ok ds) := by unfold Hid; rw [← HF.out]; exact linS_end hk0 r ds
          subst hk0
          go_wp2
          go_ret3
          obtain ⟨po, co, hvo, hsf, hcp⟩ := HO.out.open
          cases hvo
          exact ⟨_, ds, 0, 0, rfl, HLQ.out _ HRS.out, HO.out.mono HBW.out.size, bel_next HBW.out HB.out⟩
        · by_cases hk5 : kd = 5
          · subst hltc
            have HF1 : Hid (linS r ds = linS ts []) := by unfold Hid; rw [← HF.out]; exact (linS_line hk5 r ds).symm
            subst hk5
            obtain ⟨RA, hRA⟩ : ∃ R : Option Addr, (if cl = 1 then (some ⟨b, off, none⟩ : Option Addr) else some ⟨b, off + 4, none⟩) = R := ⟨_, rfl⟩
            have HKR : Hid (KS w1 RA (nl - 1) r) := by unfold Hid; rw [← hRA]; exact HKS.out.rest 1 (by omega) (by omega)
            have HCR : Hid (CP RA (nl - 1) (cl - 1)) := ⟨by omega, by have := HC.out.2.1; omega, fun h => by rw [← hRA] at h; split at h <;> cases h⟩
            have HE1 : Hid (EndT r ∧ Txt0 r) := ⟨HE.out.1.drop 1, HE.out.2.drop 1⟩
            clear HF HE HC
            go_wp2
            go_roundw
            case rel => exact ⟨r, RA, nl - 1, cl - 1, ds, by go_num, by omega, hd60, HKR, HCR, HE1, HF1, HO, HB⟩
            case measure => simp [slN15]; omega
          · have g0 : (kd != 0) = true := by simpa using hk0
            have g5 : (kd == 5) = false := by simpa using hk5
            by_cases h60 : ds.length = 60
            · rw [hltc] at HF
              have q60 : ((ds.length : Int) == 60) = true := by rw [h60]; rfl
              obtain ⟨po, co, hvo, _, _⟩ := HO.out.open
              subst hvo
              clear hltc hlen
              have HRS : Hid (linS ts [] = .error (ln, 7)) := by unfold Hid; rw [← HF.out]; exact linS_big (t := (kd, tx, nn, ln)) hk0 hk5 r h60
              clear HF HE HC h60
              go_upto_region 9 with fail
              go_region
              go_wp2
              go_ret3
              exact ⟨_, [], ln, 7, rfl, HLQ.out _ HRS.out, OwnF.nil _ _, (bel_next HBW.out HB.out).drew⟩
            · have q60 : ((ds.length : Int) == 60) = false := by simp; omega
              obtain ⟨po, co, hvo, _, _⟩ := HO.out.open
              subst hvo
              have hne : lt ≠ [] := by rw [hltc]; simp
              have HDC := hide (fun W hW => decl15 (some ⟨b, off, none⟩) nl cl lt W hW HE.out.2)
              go_upto_region 10 with fail
              clear c0 c1 c2 c3
              go_upto_region 11 with (go_at_call 17; refine (HDC.out _ HK.out).mono ?_; rintro e w3 ⟨⟨k1, k2, k3, k4, k5, k6, k7⟩, p, c, at', ok, rfl, hr, ho, hb⟩; have HDU := hide hr; have HO3 := hide ho; have HV := hide (HO.out.below RDc.st hb); replace HK := hide (HK.out.below hb); replace HB := hide (bel_next HB.out hb); clear hr ho hb; unfold decV)
              clear HDC HO
              have BW : Hid (Below w3.heap.size w3 (w3.alloc (.cells #[.int .i64 k1, .bool k2, .string k3, .string k4, .int .i64 k5, .slice p k6.length c, .int .i64 k7] 32))) := bel1 w3 _
              have HX : Hid (BX (w3.alloc (.cells #[.int .i64 k1, .bool k2, .string k3, .string k4, .int .i64 k5, .slice p k6.length c, .int .i64 k7] 32)) w3.heap.size #[.int .i64 k1, .bool k2, .string k3, .string k4, .int .i64 k5, .slice p k6.length c, .int .i64 k7] 32) := BX.new w3 _ rfl _ _
              replace HK := hide (HK.out.below BW.out)
              obtain ⟨g9, hg9⟩ : ∃ g, w3.heap.size = g := ⟨_, rfl⟩
              have hgN : w3.heap.size ≤ g9 := by omega
              rw [show BX (w3.alloc (.cells #[.int .i64 k1, .bool k2, .string k3, .string k4, .int .i64 k5, .slice p k6.length c, .int .i64 k7] 32)) w3.heap.size #[.int .i64 k1, .bool k2, .string k3, .string k4, .int .i64 k5, .slice p k6.length c, .int .i64 k7] 32 = BX (w3.alloc (.cells #[.int .i64 k1, .bool k2, .string k3, .string k4, .int .i64 k5, .slice p k6.length c, .int .i64 k7] 32)) g9 #[.int .i64 k1, .bool k2, .string k3, .string k4, .int .i64 k5, .slice p k6.length c, .int .i64 k7] 32 by rw [hg9]] at HX
              rw [show (some (⟨w3.heap.size, 0, none⟩ : Addr)) = some ⟨g9, 0, none⟩ by rw [hg9]]
              clear hg9
              generalize w3.alloc (.cells #[.int .i64 k1, .bool k2, .string k3, .string k4, .int .i64 k5, .slice p k6.length c, .int .i64 k7] 32) = w4 at *
              have hda := dcl_at HE.out.1 hne
              rw [HDU.out] at hda
              obtain ⟨hdu0, hat, hall⟩ := hda
              have hdu := hdu0.symm
              clear hdu0
              obtain ⟨u, hu, hiff⟩ := hall at' hat
              have hal : at' < nl := by
                have q := (List.getElem?_eq_some_iff.1 hu).1
                rw [hltc, List.length_cons] at q
                omega
              clear hall
              have ha0 : (0 : Int) ≤ (at' : Int) := by omega
              have han : (at' : Int) < (nl : Int) := by omega
              have HIS : Hid (∀ (k : Int) W, KS W (some ⟨b, off, none⟩) nl lt → Calls Tryd.prog 18 #[.slice (some ⟨b, off, none⟩) nl cl, .int .i64 at', .int .i64 k, .string ⟨#[]⟩] W fun e w' => e = .returned (.bool (isU lt at' k)) ∧ w' = W) := fun k W hW => is15 (some ⟨b, off, none⟩) nl cl lt at' k W hW (by omega)
              cases ok
              · have HER : Hid (linS ts [] = .error (u.2.2.2, 2)) := by
                  unfold Hid
                  rw [← HF.out, hltc]
                  exact linS_bad (t := (kd, tx, nn, ln)) hk0 hk5 r h60 (by rw [← hltc]; exact hdu) (.inl rfl) (by rw [← hltc]; exact hu)
                clear hdu hat hiff HF HE HC hltc h60 HIS
                go_upto_region 12 with fail
                obtain ⟨kd', tx', nn', ln', hx', q0, q1, q2, q3⟩ := HK.out.at at' (by omega)
                have hu2 : (kd', tx', nn', ln') = u := by rw [hu] at hx'; exact (Option.some.inj hx').symm
                have HRS : Hid (linS ts [] = .error (ln', 2)) := by have := HER.out; rw [← hu2] at this; exact this
                clear hu2 hx' hu q0 q1 q2 HER
                go_region
                go_wp2
                go_ret3
                exact ⟨_, [], ln', 2, rfl, HLQ.out _ HRS.out, OwnF.nil _ _, (bel_next HBW.out (bel_next HB.out BW.out)).drew⟩
              · rcases h5 : isU lt at' 5 with _ | _
                · rcases h0 : isU lt at' 0 with _ | _
                  · have HER : Hid (linS ts [] = .error (u.2.2.2, 2)) := by
                      unfold Hid
                      rw [← HF.out, hltc]
                      refine linS_bad (t := (kd, tx, nn, ln)) hk0 hk5 r h60 (d := (k1, k2, k3, k4, k5, k6, k7)) (at' := at') (ok := true) (by rw [← hltc]; exact hdu) (.inr ?_) (by rw [← hltc]; exact hu)
                      rw [← hltc]
                      intro e
                      rcases hiff.2 e with q | q
                      · rw [h5] at q; cases q
                      · rw [h0] at q; cases q
                    have H5 := hide h5
                    have H0 := hide h0
                    clear hdu hat hiff HF HE HC hltc h60 h5 h0
                    go_upto_region 12 with (go_at_call 18; refine (HIS.out _ _ HK.out).mono ?_; rintro e wi ⟨rfl, hw9⟩; have hw8 := hw9.symm; subst hw8; clear hw9; (first | rw [H5.out] | rw [H0.out]))
                    obtain ⟨kd', tx', nn', ln', hx', q0, q1, q2, q3⟩ := HK.out.at at' (by omega)
                    have hu2 : (kd', tx', nn', ln') = u := by rw [hu] at hx'; exact (Option.some.inj hx').symm
                    have HRS : Hid (linS ts [] = .error (ln', 2)) := by have := HER.out; rw [← hu2] at this; exact this
                    clear hu2 hx' hu q0 q1 q2 HER
                    go_region
                    go_wp2
                    go_ret3
                    exact ⟨_, [], ln', 2, rfl, HLQ.out _ HRS.out, OwnF.nil _ _, (bel_next HBW.out (bel_next HB.out BW.out)).drew⟩
                  · have hend := hiff.1 (.inr h0)
                    have hku : u.1 = 0 := by rw [isU_at hu] at h0; simpa using h0
                    have H5 := hide h5
                    have H0 := hide h0
                    clear hat hiff h5 h0
                    have HF1 : Hid (linS ts [] = linS (u :: lt.drop (at' + 1)) (ds ++ [((k1, k2, k3, k4, k5, k6, ln) : Dc)])) := by
                      unfold Hid
                      rw [← drop_atT hu, ← HF.out]
                      have q := linS_good (t := (kd, tx, nn, ln)) hk0 hk5 r h60 (d := (k1, k2, k3, k4, k5, k6, k7)) (at' := at') (by rw [← hltc]; exact hdu) (by rw [← hltc]; exact hend)
                      rw [← hltc] at q
                      exact q
                    clear hdu hend HF
                    obtain ⟨kd0, tx0, nn0, ln0, hx0, b0, b1, b2, b3⟩ := HK.out.at 0 (by omega)
                    rw [hltc] at hx0
                    cases hx0
                    simp only [Nat.zero_mul, Nat.add_zero] at b3
                    clear b0 b1 b2
                    have x6 := HX.out.cell 6 _ rfl
                    have y6 := HX.out.free 6
                    go_upto_region 14 with (go_at_call 18; refine (HIS.out _ _ HK.out).mono ?_; rintro e wi ⟨rfl, hw9⟩; have hw8 := hw9.symm; subst hw8; clear hw9; (first | rw [H5.out] | rw [H0.out]))
                    have BW2 : Hid (Below w3.heap.size w3 (w4.setCell ⟨g9, 6, none⟩ (.int .i64 ln))) := BW.out.setCell (p := ⟨g9, 6, none⟩) hgN (.int .i64 ln)
                    replace HX : Hid (BX (w4.setCell ⟨g9, 6, none⟩ (.int .i64 ln)) g9 #[.int .i64 k1, .bool k2, .string k3, .string k4, .int .i64 k5, .slice p k6.length c, .int .i64 ln] 32) := HX.out.set 6 _
                    clear x6 y6 b3 BW HK
                    generalize w4.setCell ⟨g9, 6, none⟩ (.int .i64 ln) = w5 at *
                    have hb6 := bel1 w5 (.cells #[.int .i64 k1, .bool k2, .string k3, .string k4, .int .i64 k5, .slice p k6.length c, .int .i64 ln] 32)
                    have BW6 := hide (bel_next BW2.out hb6)
                    obtain ⟨F, hF, hf⟩ := rdc_own (M := 0) (d := (k1, k2, k3, k4, k5, k6, ln)) rfl (OwnR.below HO3.out BW6.out)
                    have HFF := hide hF
                    have HFO := hide hf
                    clear hF hf
                    have c0x := HX.out.cell 0 _ rfl
                    have c1x := HX.out.cell 1 _ rfl
                    have c2x := HX.out.cell 2 _ rfl
                    have c3x := HX.out.cell 3 _ rfl
                    have c4x := HX.out.cell 4 _ rfl
                    have c5x := HX.out.cell 5 _ rfl
                    have c6x := HX.out.cell 6 _ rfl
                    go_wp2_with (at_builtin; refine Stop.at ?_)
                    unfold Stop
                    refine append_ft RDc.st rfl _ _ 23 rfl Tryd.underlying23 Tryd.infoDc rfl (by decide) (by decide) w1.heap.size _ ds rfl (HV.out.below RDc.st BW6.out) (some ⟨w5.heap.size, 0, none⟩) 1 rfl (fun h => by cases h) (rowD (k1, k2, k3, k4, k5, k6, ln) p k6.length c) (RS.new rv_len w5 _ rfl [rowD (k1, k2, k3, k4, k5, k6, ln) p k6.length c] _ rfl _ _ 1 rfl (by decide)) (k1, k2, k3, k4, k5, k6, ln) F HFF.out HFO.out (by omega) (Nat.le_trans HB.out.size BW6.out.size) ?_
                    intro v9 w9 ho9 hgr hbel
                    have HB9 := hide (hbel _ (bel_next HB.out BW6.out))
                    have HO9 := hide ho9
                    obtain ⟨po9, co9, hv9, _, _⟩ := ho9.open
                    subst hv9
                    clear ho9 hgr hbel hb6 c0x c1x c2x c3x c4x c5x c6x HFF HFO HV HO3 HX BW2 BW6
                    have hle : (ds ++ [((k1, k2, k3, k4, k5, k6, ln) : Dc)]).length = ds.length + 1 := by simp
                    have hle1 : (ds ++ [((k1, k2, k3, k4, k5, k6, ln) : Dc)]).length ≤ 60 := by omega
                    clear hle
                    generalize ds ++ [((k1, k2, k3, k4, k5, k6, ln) : Dc)] = ds2 at *
                    have HK9 := hide (HKS.out.below HB9.out)
                    obtain ⟨kd', tx', nn', ln', hx', q0, q1, q2, q3⟩ := HK9.out.at at' (by omega)
                    have hu2 : (kd', tx', nn', ln') = u := by rw [hu] at hx'; exact (Option.some.inj hx').symm
                    have hkd : kd' = 0 := by rw [← hu2] at hku; exact hku
                    rw [← hu2] at HF1
                    subst hkd
                    clear hu2 hx' q1 q2 q3
                    have HRS : Hid (linS ts [] = .ok ds2) := by unfold Hid; rw [HF1.out]; exact linS_end (t := (0, tx', nn', ln')) rfl _ ds2
                    clear HF1 HE HC hltc hu hku hne
                    go_wp2
                    go_ret3
                    obtain ⟨po, co, hvo, hsf, hcp⟩ := HO9.out.open
                    cases hvo
                    exact ⟨_, ds2, 0, 0, rfl, HLQ.out _ HRS.out, HO9.out.mono HBW.out.size, bel_next HBW.out HB9.out⟩
                · have hend := hiff.1 (.inl h5)
                  have hku : u.1 = 5 := by rw [isU_at hu] at h5; simpa using h5
                  have H5 := hide h5
                  have H0 := H5
                  clear hat hiff h5
                  have HF1 : Hid (linS ts [] = linS (u :: lt.drop (at' + 1)) (ds ++ [((k1, k2, k3, k4, k5, k6, ln) : Dc)])) := by
                    unfold Hid
                    rw [← drop_atT hu, ← HF.out]
                    have q := linS_good (t := (kd, tx, nn, ln)) hk0 hk5 r h60 (d := (k1, k2, k3, k4, k5, k6, k7)) (at' := at') (by rw [← hltc]; exact hdu) (by rw [← hltc]; exact hend)
                    rw [← hltc] at q
                    exact q
                  clear hdu hend HF
                  obtain ⟨kd0, tx0, nn0, ln0, hx0, b0, b1, b2, b3⟩ := HK.out.at 0 (by omega)
                  rw [hltc] at hx0
                  cases hx0
                  simp only [Nat.zero_mul, Nat.add_zero] at b3
                  clear b0 b1 b2
                  have x6 := HX.out.cell 6 _ rfl
                  have y6 := HX.out.free 6
                  go_upto_region 14 with (go_at_call 18; refine (HIS.out _ _ HK.out).mono ?_; rintro e wi ⟨rfl, hw9⟩; have hw8 := hw9.symm; subst hw8; clear hw9; (first | rw [H5.out] | rw [H0.out]))
                  have BW2 : Hid (Below w3.heap.size w3 (w4.setCell ⟨g9, 6, none⟩ (.int .i64 ln))) := BW.out.setCell (p := ⟨g9, 6, none⟩) hgN (.int .i64 ln)
                  replace HX : Hid (BX (w4.setCell ⟨g9, 6, none⟩ (.int .i64 ln)) g9 #[.int .i64 k1, .bool k2, .string k3, .string k4, .int .i64 k5, .slice p k6.length c, .int .i64 ln] 32) := HX.out.set 6 _
                  clear x6 y6 b3 BW HK
                  generalize w4.setCell ⟨g9, 6, none⟩ (.int .i64 ln) = w5 at *
                  have hb6 := bel1 w5 (.cells #[.int .i64 k1, .bool k2, .string k3, .string k4, .int .i64 k5, .slice p k6.length c, .int .i64 ln] 32)
                  have BW6 := hide (bel_next BW2.out hb6)
                  obtain ⟨F, hF, hf⟩ := rdc_own (M := 0) (d := (k1, k2, k3, k4, k5, k6, ln)) rfl (OwnR.below HO3.out BW6.out)
                  have HFF := hide hF
                  have HFO := hide hf
                  clear hF hf
                  have c0x := HX.out.cell 0 _ rfl
                  have c1x := HX.out.cell 1 _ rfl
                  have c2x := HX.out.cell 2 _ rfl
                  have c3x := HX.out.cell 3 _ rfl
                  have c4x := HX.out.cell 4 _ rfl
                  have c5x := HX.out.cell 5 _ rfl
                  have c6x := HX.out.cell 6 _ rfl
                  go_wp2_with (at_builtin; refine Stop.at ?_)
                  unfold Stop
                  refine append_ft RDc.st rfl _ _ 23 rfl Tryd.underlying23 Tryd.infoDc rfl (by decide) (by decide) w1.heap.size _ ds rfl (HV.out.below RDc.st BW6.out) (some ⟨w5.heap.size, 0, none⟩) 1 rfl (fun h => by cases h) (rowD (k1, k2, k3, k4, k5, k6, ln) p k6.length c) (RS.new rv_len w5 _ rfl [rowD (k1, k2, k3, k4, k5, k6, ln) p k6.length c] _ rfl _ _ 1 rfl (by decide)) (k1, k2, k3, k4, k5, k6, ln) F HFF.out HFO.out (by omega) (Nat.le_trans HB.out.size BW6.out.size) ?_
                  intro v9 w9 ho9 hgr hbel
                  have HB9 := hide (hbel _ (bel_next HB.out BW6.out))
                  have HO9 := hide ho9
                  obtain ⟨po9, co9, hv9, _, _⟩ := ho9.open
                  subst hv9
                  clear ho9 hgr hbel hb6 c0x c1x c2x c3x c4x c5x c6x HFF HFO HV HO3 HX BW2 BW6
                  have hle : (ds ++ [((k1, k2, k3, k4, k5, k6, ln) : Dc)]).length = ds.length + 1 := by simp
                  have hle1 : (ds ++ [((k1, k2, k3, k4, k5, k6, ln) : Dc)]).length ≤ 60 := by omega
                  clear hle
                  generalize ds ++ [((k1, k2, k3, k4, k5, k6, ln) : Dc)] = ds2 at *
                  have HK9 := hide (HKS.out.below HB9.out)
                  obtain ⟨kd', tx', nn', ln', hx', q0, q1, q2, q3⟩ := HK9.out.at at' (by omega)
                  have hu2 : (kd', tx', nn', ln') = u := by rw [hu] at hx'; exact (Option.some.inj hx').symm
                  have hkd : kd' = 5 := by rw [← hu2] at hku; exact hku
                  rw [← hu2] at HF1
                  subst hkd
                  clear hu2 hx' q1 q2 q3
                  have HF2 : Hid (linS (lt.drop (at' + 1)) ds2 = linS ts []) := by unfold Hid; rw [HF1.out]; exact (linS_line (t := (5, tx', nn', ln')) rfl _ ds2).symm
                  obtain ⟨RA, hRA⟩ : ∃ R : Option Addr, (if cl = at' + 1 then (some ⟨b, off, none⟩ : Option Addr) else some ⟨b, off + (at' + 1) * 4, none⟩) = R := ⟨_, rfl⟩
                  have HKR : Hid (KS w1 RA (nl - (at' + 1)) (lt.drop (at' + 1))) := by unfold Hid; rw [← hRA]; exact HKS.out.rest (at' + 1) (by omega) (by omega)
                  have HCR : Hid (CP RA (nl - (at' + 1)) (cl - (at' + 1))) := ⟨by omega, by have := HC.out.2.1; omega, fun h => by rw [← hRA] at h; split at h <;> cases h⟩
                  have HE1 : Hid (EndT (lt.drop (at' + 1)) ∧ Txt0 (lt.drop (at' + 1))) := ⟨HE.out.1.drop _, HE.out.2.drop _⟩
                  have ha1 : (at' : Int) + 1 ≤ (nl : Int) := by omega
                  clear HF1 HE HC hltc hu hku hne
                  go_wp2
                  go_roundw
                  case rel => exact ⟨lt.drop (at' + 1), RA, nl - (at' + 1), cl - (at' + 1), ds2, by go_num, by omega, hle1, HKR, HCR, HE1, HF2, HO9, HB9⟩
                  case measure => simp [slN15]; omega
  · have g0 : (e0 != 0) = true := by simpa using he
    have HLQ : Hid (linB (bytesL s) = ([], x, e0)) := by unfold Hid linB; rw [HL.out]; unfold linQ; rw [if_pos he]
    clear HL HRD he
    go_wp2
    go_ret3
    exact ⟨_, [], x, e0, rfl, HLQ.out, OwnF.nil _ _, HB.out⟩
end Go.Proofs.YtadmibfnjhockaaDoor
